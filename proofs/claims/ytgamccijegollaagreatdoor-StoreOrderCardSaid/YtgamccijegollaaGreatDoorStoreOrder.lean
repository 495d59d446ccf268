/- The law StoreOrder: for every input the call returns true, and each argument reads afterwards as it read before. No condition. The package-level variables that the row lists are tied to the program's text by the given tie. -/
import Derived.Test.YtgamccijegollaaGreatDoorJpA
import Derived.Test.YtgamccijegollaaGreatDoorJpB
import Derived.Test.YtgamccijegollaaGreatDoorJpC
import Derived.Test.YtgamccijegollaaGreatDoorJpD
import Derived.Test.YtgamccijegollaaGreatDoorJqStoreOrderA
import Derived.Test.YtgamccijegollaaGreatDoorJqStoreOrderB
import Derived.Test.YtgamccijegollaaGreatDoorJqStoreOrderC
import Derived.Test.YtgamccijegollaaGreatDoorJqStoreOrderD
import Derived.Test.YtgamccijegollaaGreatDoorJqStoreOrderE
import Derived.Test.YtgamccijegollaaGreatDoorRows
import Derived.Test.YtgamccijegollaaGreatDoorTie
import Derived.Test.YtgamccijegollaaGreatDoorCards
import Derived.Test.YtgamccijegollaaGreatDoorSOAAQ
import Derived.Test.YtgamccijegollaaGreatDoorLaw24o
import Derived.Lib.SmallJoins
import Derived.LaidMore
import Derived.Lay
import Derived.SevenTiedAt
import Derived.Stop.Joined
namespace Go.Proofs.YtgamccijegollaaGreatDoor.lawStoreOrder
open Go.Joins Go.ChangeShapes Go.WideShapes Go.ChangeAt Go.RowKit
open Go.ChangeMaps (open_string shut_string)
set_option linter.unusedVariables false

theorem own : ownKnob Tryz.prog.godebug = none := by kernel_rfl
theorem laidOut : laidOutB Tryz.prog = true := JpA.laidOut
set_option maxRecDepth 100000 in
theorem lifted (os : Os) (started : os.Started) (H : Type) (enc : TypeId × Value → H) :
    ReturnsInHanded {} Tryz.checked os 8 .any (fun w args => (Rows.storeOrderSpec.pre enc Tryz.prog Tryz.f8 Rows.storeOrderRow.domain false w args ∧ laidMetH Tryz.prog Rows.storeOrderRow.laid w) ∧ sizedMet enc Tryz.prog Tryz.f8 (OpenSpec.ofChange Rows.storeOrderSpec) false w args)
      (Rows.storeOrderSpec.post enc Tryz.prog Tryz.f8 false true false false) := by
  refine Shs.wrap (C := Tryz.checked) (X := fun w _ => laidMetH Tryz.prog Rows.storeOrderRow.laid w) (fun _ _ _ hh h => h.of_heap hh) own started (by kernel_rfl) Tryz.func8
    (ChangeSpec.witness_shaped (enc := enc) (C := Tryz.checked) (os := os) (X := fun w _ => laidMetH Tryz.prog Rows.storeOrderRow.laid w) false (World.laidAll Tryz.prog os Rows.storeOrderRow.laid) #[.slice none 0 0] 8 (World.laidAll_os _ _ _)
      (World.shaped_of_ZipB (by kernel_rfl) (by kernel_rfl)) (by kernel_rfl) (by kernel_rfl) (by kernel_rfl)
      (by rw [MakeChecks.laidMetH_plain _ _ _ (by kernel_rfl)]; exact laidMet_laidAll _ (by kernel_rfl) (by kernel_rfl))) ?_
  intro W base args ds gs before hval0 hW hcnd hsz hL hSh _
  have hval : ∀ (j : Nat) t v, Tryz.f8.params[j]? = some t → args[j]? = some v → Value.okWide Tryz.prog W .any base t v := hval0
  have hW' := hW
  obtain ⟨p, q, hA0, hV, rfl, hfz, hnd⟩ := hW
  have hA : DataW.TrodAll enc Tryz.prog W 0 (fun _ => true) true Tryz.f8.params.toList args.toList ds p := hA0
  rw [Tryz.params8] at hA hval
  obtain ⟨v0, vs0, d0, ds0, p0, q0, hargs, rfl, rfl, h0, r_0⟩ := trodAll_cons hA
  obtain ⟨rfl, rfl, rfl⟩ := trodAll_nil r_0
  obtain rfl : args = #[v0] := by cases args; simp_all
  obtain ⟨rfl, rfl⟩ := trodVars_none hV
  obtain ⟨a0, n0, cap0, rfl⟩ := okWide_slice Tryz.underlying56 (hval 0 56 v0 rfl rfl)
  have k0 := h0
  have lt0 : ∀ x ∈ p0, x.block < W.heap.size := by obtain ⟨m, hm⟩ := k0; exact DataW.trod_lt m _ _ _ hm
  have o0 : ∃ A n cap l, Value.slice a0 n0 cap0 = .slice A n cap ∧ auT.In W A n cap l := by obtain ⟨fuel, hf⟩ := h0; exact auT.of_oris hsz (j := 0) rfl rfl hf
  obtain ⟨A_0, n_0, cap_0, l0, e0, r0⟩ := o0
  obtain ⟨rfl, rfl, rfl⟩ : A_0 = a0 ∧ n_0 = n0 ∧ cap_0 = cap0 := by simpa [eq_comm] using e0
  clear hA0 hval0
  rw [MakeChecks.laidMetH_plain _ _ _ (by kernel_rfl)] at hL
  have hpow : ("internal/strconv.uint64pow10", (Lib.tabData .u64 Lib.pow10Tab : DataW Unit)) ∈ Rows.storeOrderRow.laid := by
    have e : (Rows.laid_internal_strconv_uint64pow10 : DataW Unit) = Lib.tabData .u64 Lib.pow10Tab := by kernel_rfl
    rw [← e]
    unfold Rows.storeOrderRow
    simp
  have hlad : ("math/bits.deBruijn64tab", (Lib.tabData .u8 jQ.ak4 : DataW Unit)) ∈ Rows.storeOrderRow.laid := by
    have e : (Rows.laid_math_bits_deBruijn64tab : DataW Unit) = Lib.tabData .u8 jQ.ak4 := by kernel_rfl
    rw [← e]
    unfold Rows.storeOrderRow
    simp
  have hut1 : ("unicode/utf8.first", (Lib.firstData : DataW Unit)) ∈ Rows.storeOrderRow.laid := by
    have e : (Rows.laid_unicode_utf8_first : DataW Unit) = Lib.firstData := by kernel_rfl
    rw [← e]
    unfold Rows.storeOrderRow
    simp
  have hut2 : ("unicode/utf8.acceptRanges", (Lib.acceptData : DataW Unit)) ∈ Rows.storeOrderRow.laid := by
    have e : (Rows.laid_unicode_utf8_acceptRanges : DataW Unit) = Lib.acceptData := by kernel_rfl
    rw [← e]
    unfold Rows.storeOrderRow
    simp
  refine (Laws.atY A_0 n_0 cap_0 l0 W r0 (Tab.pow_of hL hpow) (jQ.lad_of hL hlad) (Shs.max_of hSh) (rD.utab_of hL hut1 hut2)).mono fun e W' ⟨he, bel⟩ => ?_
  subst he
  exact ⟨_, rfl, _, _, _, [], _, [], hW', trodAll_mk1 (shut_bool Tryz.underlying4 _), (trodAll_cons_mk (Below.trod laidOut (by kernel_rfl) (of_decide_eq_true (by kernel_rfl)) k0 bel lt0) trodAll_mk0), rfl, bel.frame _, fun h => by cases h⟩

theorem and2 {a b : Bool} (h : a = true) (g : b = true) : (a && b) = true := by rw [h, g]; rfl
theorem jf0 : (Rows.storeOrderRow.wf (OpenSpec.ofChange Rows.storeOrderSpec)) = true := by kernel_rfl
theorem jf3 : (Tryz.f8.params.all (Tryz.prog.readableRec ·)) = true := by kernel_rfl
theorem jf4 : (namedTie Tryz.prog Rows.storeOrderRow.named Rows.storeOrderSpec.vars) = true := by kernel_rfl
theorem jf5 : ((Rows.storeOrderRow.stops == [])) = true := by kernel_rfl
theorem jf7 : ((Rows.storeOrderRow.knobs == [])) = true := by kernel_rfl
theorem jf13 : ((Rows.storeOrderRow.maps == (Tryz.f8.params.toList ++ Rows.storeOrderSpec.plain.varTypes Tryz.prog).any (Tryz.prog.mapsRec ·))) = true := by kernel_rfl
theorem jf14 : ((Rows.storeOrderRow.ifaces == (Tryz.f8.params.toList ++ Rows.storeOrderSpec.plain.varTypes Tryz.prog).any (Tryz.prog.ifacesRec ·))) = true := by kernel_rfl
theorem jf15 : ((Rows.storeOrderRow.mapsOut == Tryz.prog.mapsAmong Tryz.f8.resultTypes.toList)) = true := by kernel_rfl
theorem jf16 : ((Rows.storeOrderRow.loops == (Tryz.f8.params.toList ++ Rows.storeOrderSpec.plain.varTypes Tryz.prog).any (Tryz.prog.loopsFrom ·))) = true := by kernel_rfl
theorem jf17 : ((Rows.storeOrderRow.wideKeys == (Tryz.f8.params.toList ++ Rows.storeOrderSpec.plain.varTypes Tryz.prog ++ Tryz.f8.resultTypes.toList).any (Tryz.prog.wideKeysFrom ·))) = true := by kernel_rfl
theorem jf18 : (Rows.storeOrderSpec.vars.all (Tryz.prog.varReadable ·)) = true := by kernel_rfl
theorem jf19 : (Tryz.f8.resultTypes.all (fun t => Tryz.prog.readableRec t && decide (t < Tryz.prog.types.size))) = true := by kernel_rfl
theorem jf20 : ((Rows.storeOrderRow.ifacesOut == Tryz.f8.resultTypes.toList.any (Tryz.prog.ifacesRec ·))) = true := by kernel_rfl
theorem jf21 : ((Rows.storeOrderRow.loopsOut == Tryz.f8.resultTypes.toList.any (Tryz.prog.loopsFrom ·))) = true := by kernel_rfl
theorem jf23 : (Rows.storeOrderRow.shortTexts.isNone) = true := by kernel_rfl
theorem jf28 : ((Rows.storeOrderRow.kinds == (if Rows.storeOrderRow.domain.isEmpty then [] else Tryz.f8.params.toList.map fun t => match Tryz.prog.underlying t with | some (.int k) => some k | _ => none))) = true := by kernel_rfl
theorem jf29 : ((Rows.storeOrderRow.pinned == Rows.storeOrderRow.pinnedBy)) = true := by kernel_rfl
theorem jf30 : ((Rows.storeOrderRow.veiled == (Tryz.f8.params.toList ++ Rows.storeOrderSpec.plain.varTypes Tryz.prog ++ Tryz.f8.resultTypes.toList).any (Tryz.prog.veiledRec ·))) = true := by kernel_rfl
theorem jf31 : (Rows.storeOrderRow.veiledFits Tryz.prog Tryz.f8.params.toList (Tryz.f8.params.toList ++ Rows.storeOrderSpec.plain.varTypes Tryz.prog ++ Tryz.f8.resultTypes.toList)) = true := by kernel_rfl
set_option maxRecDepth 100000 in
theorem closed : joinedFacts Tryz.prog 8 Tryz.f8 Rows.storeOrderSpec Rows.storeOrderRow = true := by
  unfold joinedFacts
  exact (and2 (and2 (and2 (and2 (and2 (and2 (and2 (and2 (and2 (and2 (and2 (and2 (and2 (and2 (and2 (and2 (and2 (and2 (and2 (and2 (and2 (and2 (and2 (and2 (and2 (and2 (and2 (and2 (and2 (and2 (and2 jf0 JpA.laidOut) JpA.maps0) jf3) jf4) jf5) JpA.stops) jf7) JpA.knobs) JqStoreOrderA.inPlace) JqStoreOrderA.unf) JqStoreOrderB.recs) JqStoreOrderB.named) jf13) jf14) jf15) jf16) jf17) jf18) jf19) jf20) jf21) JqStoreOrderC.plainK) jf23) JpC.heard) JpB.enter) JqStoreOrderC.lifted) JqStoreOrderD.make) jf28) jf29) jf30) jf31)

theorem over : Rows.storeOrderRow.holds Tryz.pinned (OpenSpec.ofChange Rows.storeOrderSpec) :=
  OpenClaim.holds_of_wide 8 Tryz.f8 rfl rfl rfl rfl rfl rfl rfl ⟨rfl, rfl, rfl, rfl, rfl⟩ rfl rfl rfl rfl rfl (by kernel_rfl) Tryz.func8 closed
    (of_decide_eq_true (by kernel_rfl)) (by unfold Func.isWrapper; first | (rw [if_pos (by decide +kernel)]; kernel_rfl) | (rw [if_neg (by decide +kernel)]; exact ⟨rfl, rfl⟩))
    (fun os started H enc _ => lifted os started H enc)

theorem proved : Rows.StoreOrderCardSaid :=
  Claim7.holds_tied_plain_at .later [] [.data, .data, .data, .data, .pinned] true (true, "4729eb681d6e033789bf38dfcd2d340e86865f8974a48d2fce7ced59fa130860") false over (fun _ h => by cases h) JqStoreOrderE.byText (fun _ h => by cases h) storeOrder_row_tie rfl ⟨rfl, rfl⟩ JpD.mainIs rfl
    (fun f fn hf hfn => by
      obtain rfl : f = 8 := Option.some.inj ((show Tryz.prog.funcNamed "carryall/carryalllaw24.StoreOrder" = some 8 by kernel_rfl).symm.trans hf) |>.symm
      obtain rfl : fn = Tryz.f8 := (Option.some.inj (Tryz.func8.symm.trans hfn)).symm
      exact ⟨JpC.looks, fun j t ht => by
        rw [Tryz.params8] at ht
        have hm : t ∈ [56] := by simpa using Array.mem_of_getElem? ht
        have hall : ([56].all fun u => !Tryz.prog.wantsStandIn u) = true := by kernel_rfl
        exact (show Tryz.prog.wantsStandIn t = false by simpa using List.all_eq_true.1 hall t hm)⟩)
    JqStoreOrderE.goes
end Go.Proofs.YtgamccijegollaaGreatDoor.lawStoreOrder
