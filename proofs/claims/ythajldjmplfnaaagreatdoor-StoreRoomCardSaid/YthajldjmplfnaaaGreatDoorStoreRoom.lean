/- The law StoreRoom: for every input the call returns true, and each argument reads afterwards as it read before. No condition. The package-level variables that the row lists are tied to the program's text by the given tie. -/
import Derived.Test.YthajldjmplfnaaaGreatDoorJpA
import Derived.Test.YthajldjmplfnaaaGreatDoorJpB
import Derived.Test.YthajldjmplfnaaaGreatDoorJpC
import Derived.Test.YthajldjmplfnaaaGreatDoorJpD
import Derived.Test.YthajldjmplfnaaaGreatDoorJqStoreRoomA
import Derived.Test.YthajldjmplfnaaaGreatDoorJqStoreRoomB
import Derived.Test.YthajldjmplfnaaaGreatDoorJqStoreRoomC
import Derived.Test.YthajldjmplfnaaaGreatDoorJqStoreRoomD
import Derived.Test.YthajldjmplfnaaaGreatDoorJqStoreRoomE
import Derived.Test.YthajldjmplfnaaaGreatDoorRows
import Derived.Test.YthajldjmplfnaaaGreatDoorTie
import Derived.Test.YthajldjmplfnaaaGreatDoorCards
import Derived.Test.YthajldjmplfnaaaGreatDoorNAK
import Derived.Test.YthajldjmplfnaaaGreatDoorLaw24m
import Derived.Lib.SmallJoins
import Derived.LaidMore
import Derived.Lay
import Derived.SevenTiedAt
import Derived.Stop.Joined
namespace Go.Proofs.YthajldjmplfnaaaGreatDoor.lawStoreRoom
open Go.Joins Go.ChangeShapes Go.WideShapes Go.ChangeAt Go.RowKit
open Go.ChangeMaps (open_string shut_string)
set_option linter.unusedVariables false

theorem own : ownKnob Tryz.prog.godebug = none := by kernel_rfl
theorem laidOut : laidOutB Tryz.prog = true := JpA.laidOut
set_option maxRecDepth 100000 in
theorem lifted (os : Os) (started : os.Started) (H : Type) (enc : TypeId × Value → H) :
    ReturnsInHanded {} Tryz.checked os 3 .any (fun w args => (Rows.storeRoomSpec.pre enc Tryz.prog Tryz.f3 Rows.storeRoomRow.domain false w args ∧ laidMetH Tryz.prog Rows.storeRoomRow.laid w) ∧ sizedMet enc Tryz.prog Tryz.f3 (OpenSpec.ofChange Rows.storeRoomSpec) false w args)
      (Rows.storeRoomSpec.post enc Tryz.prog Tryz.f3 false true false false) := by
  refine Shs.wrap (C := Tryz.checked) (X := fun w _ => laidMetH Tryz.prog Rows.storeRoomRow.laid w) (fun _ _ _ hh h => h.of_heap hh) own started (by kernel_rfl) Tryz.func3
    (ChangeSpec.witness_shaped (enc := enc) (C := Tryz.checked) (os := os) (X := fun w _ => laidMetH Tryz.prog Rows.storeRoomRow.laid w) false (World.laidAll Tryz.prog os Rows.storeRoomRow.laid) #[.int .u8 0, .int .i64 0, .int .u8 0] 8 (World.laidAll_os _ _ _)
      (World.shaped_of_ZipB (by kernel_rfl) (by kernel_rfl)) (by kernel_rfl) (by kernel_rfl) (by kernel_rfl)
      (by rw [MakeChecks.laidMetH_plain _ _ _ (by kernel_rfl)]; exact laidMet_laidAll _ (by kernel_rfl) (by kernel_rfl))) ?_
  intro W base args ds gs before hval0 hW hcnd hsz hL hSh _
  have hval : ∀ (j : Nat) t v, Tryz.f3.params[j]? = some t → args[j]? = some v → Value.okWide Tryz.prog W .any base t v := hval0
  have hW' := hW
  obtain ⟨p, q, hA0, hV, rfl, hfz, hnd⟩ := hW
  have hA : DataW.TrodAll enc Tryz.prog W 0 (fun _ => true) true Tryz.f3.params.toList args.toList ds p := hA0
  rw [Tryz.params3] at hA hval
  obtain ⟨v0, vs0, d0, ds0, p0, q0, hargs, rfl, rfl, h0, r_0⟩ := trodAll_cons hA
  obtain ⟨v1, vs1, d1, ds1, p1, q1, rfl, rfl, rfl, h1, r_1⟩ := trodAll_cons r_0
  obtain ⟨v2, vs2, d2, ds2, p2, q2, rfl, rfl, rfl, h2, r_2⟩ := trodAll_cons r_1
  obtain ⟨rfl, rfl, rfl⟩ := trodAll_nil r_2
  obtain rfl : args = #[v0, v1, v2] := by cases args; simp_all
  obtain ⟨rfl, rfl⟩ := trodVars_none hV
  obtain ⟨a0, rfl, rfl, rfl, w0⟩ := open_int Tryz.underlying5 (hval 0 5 v0 rfl rfl) h0
  obtain ⟨a1, rfl, rfl, rfl, w1⟩ := open_int Tryz.underlying2 (hval 1 2 v1 rfl rfl) h1
  obtain ⟨a2, rfl, rfl, rfl, w2⟩ := open_int Tryz.underlying5 (hval 2 5 v2 rfl rfl) h2
  clear hA0 hval0
  rw [MakeChecks.laidMetH_plain _ _ _ (by kernel_rfl)] at hL
  have hpow : ("internal/strconv.uint64pow10", (Lib.tabData .u64 Lib.pow10Tab : DataW Unit)) ∈ Rows.storeRoomRow.laid := by
    have e : (Rows.laid_internal_strconv_uint64pow10 : DataW Unit) = Lib.tabData .u64 Lib.pow10Tab := by kernel_rfl
    rw [← e]
    unfold Rows.storeRoomRow
    simp
  have hut1 : ("unicode/utf8.first", (Lib.firstData : DataW Unit)) ∈ Rows.storeRoomRow.laid := by
    have e : (Rows.laid_unicode_utf8_first : DataW Unit) = Lib.firstData := by kernel_rfl
    rw [← e]
    unfold Rows.storeRoomRow
    simp
  have hut2 : ("unicode/utf8.acceptRanges", (Lib.acceptData : DataW Unit)) ∈ Rows.storeRoomRow.laid := by
    have e : (Rows.laid_unicode_utf8_acceptRanges : DataW Unit) = Lib.acceptData := by kernel_rfl
    rw [← e]
    unfold Rows.storeRoomRow
    simp
  refine (Laws.StoreRoom_any a0 a1 a2 W (bounds_u8 w0) (bounds_i64 w1) (bounds_u8 w2) (Tab.pow_of hL hpow) (Shs.max_of hSh) (Utab.utab_of hL hut1 hut2)).mono fun e W' ⟨he, bel⟩ => ?_
  subst he
  exact ⟨_, rfl, _, _, _, [], _, [], hW', trodAll_mk1 (shut_bool Tryz.underlying4 _), (trodAll_cons_mk (shut_int Tryz.underlying5 w0) (trodAll_cons_mk (shut_int Tryz.underlying2 w1) (trodAll_cons_mk (shut_int Tryz.underlying5 w2) trodAll_mk0))), rfl, bel.frame _, fun h => by cases h⟩

theorem and2 {a b : Bool} (h : a = true) (g : b = true) : (a && b) = true := by rw [h, g]; rfl
theorem jf0 : (Rows.storeRoomRow.wf (OpenSpec.ofChange Rows.storeRoomSpec)) = true := by kernel_rfl
theorem jf3 : (Tryz.f3.params.all (Tryz.prog.readableRec ·)) = true := by kernel_rfl
theorem jf4 : (namedTie Tryz.prog Rows.storeRoomRow.named Rows.storeRoomSpec.vars) = true := by kernel_rfl
theorem jf5 : ((Rows.storeRoomRow.stops == [])) = true := by kernel_rfl
theorem jf7 : ((Rows.storeRoomRow.knobs == [])) = true := by kernel_rfl
theorem jf13 : ((Rows.storeRoomRow.maps == (Tryz.f3.params.toList ++ Rows.storeRoomSpec.plain.varTypes Tryz.prog).any (Tryz.prog.mapsRec ·))) = true := by kernel_rfl
theorem jf14 : ((Rows.storeRoomRow.ifaces == (Tryz.f3.params.toList ++ Rows.storeRoomSpec.plain.varTypes Tryz.prog).any (Tryz.prog.ifacesRec ·))) = true := by kernel_rfl
theorem jf15 : ((Rows.storeRoomRow.mapsOut == Tryz.prog.mapsAmong Tryz.f3.resultTypes.toList)) = true := by kernel_rfl
theorem jf16 : ((Rows.storeRoomRow.loops == (Tryz.f3.params.toList ++ Rows.storeRoomSpec.plain.varTypes Tryz.prog).any (Tryz.prog.loopsFrom ·))) = true := by kernel_rfl
theorem jf17 : ((Rows.storeRoomRow.wideKeys == (Tryz.f3.params.toList ++ Rows.storeRoomSpec.plain.varTypes Tryz.prog ++ Tryz.f3.resultTypes.toList).any (Tryz.prog.wideKeysFrom ·))) = true := by kernel_rfl
theorem jf18 : (Rows.storeRoomSpec.vars.all (Tryz.prog.varReadable ·)) = true := by kernel_rfl
theorem jf19 : (Tryz.f3.resultTypes.all (fun t => Tryz.prog.readableRec t && decide (t < Tryz.prog.types.size))) = true := by kernel_rfl
theorem jf20 : ((Rows.storeRoomRow.ifacesOut == Tryz.f3.resultTypes.toList.any (Tryz.prog.ifacesRec ·))) = true := by kernel_rfl
theorem jf21 : ((Rows.storeRoomRow.loopsOut == Tryz.f3.resultTypes.toList.any (Tryz.prog.loopsFrom ·))) = true := by kernel_rfl
theorem jf23 : (Rows.storeRoomRow.shortTexts.isNone) = true := by kernel_rfl
theorem jf28 : ((Rows.storeRoomRow.kinds == (if Rows.storeRoomRow.domain.isEmpty then [] else Tryz.f3.params.toList.map fun t => match Tryz.prog.underlying t with | some (.int k) => some k | _ => none))) = true := by kernel_rfl
theorem jf29 : ((Rows.storeRoomRow.pinned == Rows.storeRoomRow.pinnedBy)) = true := by kernel_rfl
theorem jf30 : ((Rows.storeRoomRow.veiled == (Tryz.f3.params.toList ++ Rows.storeRoomSpec.plain.varTypes Tryz.prog ++ Tryz.f3.resultTypes.toList).any (Tryz.prog.veiledRec ·))) = true := by kernel_rfl
theorem jf31 : (Rows.storeRoomRow.veiledFits Tryz.prog Tryz.f3.params.toList (Tryz.f3.params.toList ++ Rows.storeRoomSpec.plain.varTypes Tryz.prog ++ Tryz.f3.resultTypes.toList)) = true := by kernel_rfl
set_option maxRecDepth 100000 in
theorem closed : joinedFacts Tryz.prog 3 Tryz.f3 Rows.storeRoomSpec Rows.storeRoomRow = true := by
  unfold joinedFacts
  exact (and2 (and2 (and2 (and2 (and2 (and2 (and2 (and2 (and2 (and2 (and2 (and2 (and2 (and2 (and2 (and2 (and2 (and2 (and2 (and2 (and2 (and2 (and2 (and2 (and2 (and2 (and2 (and2 (and2 (and2 (and2 jf0 JpA.laidOut) JpA.maps0) jf3) jf4) jf5) JpA.stops) jf7) JpA.knobs) JqStoreRoomA.inPlace) JqStoreRoomA.unf) JqStoreRoomB.recs) JqStoreRoomB.named) jf13) jf14) jf15) jf16) jf17) jf18) jf19) jf20) jf21) JqStoreRoomC.plainK) jf23) JpC.heard) JpB.enter) JqStoreRoomC.lifted) JqStoreRoomD.make) jf28) jf29) jf30) jf31)

theorem over : Rows.storeRoomRow.holds Tryz.pinned (OpenSpec.ofChange Rows.storeRoomSpec) :=
  OpenClaim.holds_of_wide 3 Tryz.f3 rfl rfl rfl rfl rfl rfl rfl ⟨rfl, rfl, rfl, rfl, rfl⟩ rfl rfl rfl rfl rfl (by kernel_rfl) Tryz.func3 closed
    (of_decide_eq_true (by kernel_rfl)) (by unfold Func.isWrapper; first | (rw [if_pos (by decide +kernel)]; kernel_rfl) | (rw [if_neg (by decide +kernel)]; exact ⟨rfl, rfl⟩))
    (fun os started H enc _ => lifted os started H enc)

theorem proved : Rows.StoreRoomCardSaid :=
  Claim7.holds_tied_plain_at .later [] [.data, .data, .data, .data, .pinned] true (true, "10fa88a263dc2cc3afad74d24e2643d42b2675d8083366c8c87cdd2804f18058") false over (fun _ h => by cases h) JqStoreRoomE.byText (fun _ h => by cases h) storeRoom_row_tie rfl ⟨rfl, rfl⟩ JpD.mainIs rfl
    (fun f fn hf hfn => by
      obtain rfl : f = 3 := Option.some.inj ((show Tryz.prog.funcNamed "carryall/carryalllaw24.StoreRoom" = some 3 by kernel_rfl).symm.trans hf) |>.symm
      obtain rfl : fn = Tryz.f3 := (Option.some.inj (Tryz.func3.symm.trans hfn)).symm
      exact ⟨JpC.looks, fun j t ht => by
        rw [Tryz.params3] at ht
        have hm : t ∈ [5, 2, 5] := by simpa using Array.mem_of_getElem? ht
        have hall : ([5, 2, 5].all fun u => !Tryz.prog.wantsStandIn u) = true := by kernel_rfl
        exact (show Tryz.prog.wantsStandIn t = false by simpa using List.all_eq_true.1 hall t hm)⟩)
    JqStoreRoomE.goes
end Go.Proofs.YthajldjmplfnaaaGreatDoor.lawStoreRoom
