/- The law TopBuilds: for every input the call returns true, and each argument reads afterwards as it read before. No condition. The package-level variables that the row lists are tied to the program's text by the given tie. -/
import Derived.Test.YtmpeaoacaecgpaaGreatDoorJpA
import Derived.Test.YtmpeaoacaecgpaaGreatDoorJpB
import Derived.Test.YtmpeaoacaecgpaaGreatDoorJpC
import Derived.Test.YtmpeaoacaecgpaaGreatDoorJpD
import Derived.Test.YtmpeaoacaecgpaaGreatDoorJqTopBuildsA
import Derived.Test.YtmpeaoacaecgpaaGreatDoorJqTopBuildsB
import Derived.Test.YtmpeaoacaecgpaaGreatDoorJqTopBuildsC
import Derived.Test.YtmpeaoacaecgpaaGreatDoorJqTopBuildsD
import Derived.Test.YtmpeaoacaecgpaaGreatDoorJqTopBuildsE
import Derived.Test.YtmpeaoacaecgpaaGreatDoorRows
import Derived.Test.YtmpeaoacaecgpaaGreatDoorOpenC
import Derived.Test.YtmpeaoacaecgpaaGreatDoorTie
import Derived.Test.YtmpeaoacaecgpaaGreatDoorCards
import Derived.Test.YtmpeaoacaecgpaaGreatDoorXAD
import Derived.Test.YtmpeaoacaecgpaaGreatDoorLawTb
import Derived.Test.YtmpeaoacaecgpaaGreatDoorXAS
import Derived.Test.YtmpeaoacaecgpaaGreatDoorXAN
import Derived.Lib.SmallJoins
import Derived.LaidMore
import Derived.Lay
import Derived.SevenTiedAt
import Derived.Stop.Joined
namespace Go.Proofs.YtmpeaoacaecgpaaGreatDoor.lawTopBuilds
open Go.Joins Go.ChangeShapes Go.WideShapes Go.ChangeAt Go.RowKit
open Go.ChangeMaps (open_string shut_string)
set_option linter.unusedVariables false

theorem own : ownKnob Tryz.prog.godebug = none := by kernel_rfl
theorem laidOut : laidOutB Tryz.prog = true := JpA.laidOut
set_option maxRecDepth 100000 in
theorem lifted (os : Os) (started : os.Started) (H : Type) (enc : TypeId × Value → H) :
    ReturnsInHanded {} Tryz.checked os 9 .any (fun w args => (Rows.topBuildsSpec.pre enc Tryz.prog Tryz.f9 Rows.topBuildsRow.domain false w args ∧ laidMetH Tryz.prog Rows.topBuildsRow.laid w) ∧ sizedMet enc Tryz.prog Tryz.f9 (OpenSpec.ofChange Rows.topBuildsSpec) false w args)
      (Rows.topBuildsSpec.post enc Tryz.prog Tryz.f9 false true false false) := by
  refine Shs.wrap (C := Tryz.checked) (X := fun w _ => laidMetH Tryz.prog Rows.topBuildsRow.laid w) (fun _ _ _ hh h => h.of_heap hh) own started (by kernel_rfl) Tryz.func9
    (ChangeSpec.witness_shaped (enc := enc) (C := Tryz.checked) (os := os) (X := fun w _ => laidMetH Tryz.prog Rows.topBuildsRow.laid w) false (World.laidAll Tryz.prog os Rows.topBuildsRow.laid) #[.agg #[.string ByteArray.empty, .string ByteArray.empty, .slice none 0 0], .slice none 0 0] 8 (World.laidAll_os _ _ _)
      (World.shaped_of_ZipB (by kernel_rfl) (by kernel_rfl)) (by kernel_rfl) (by kernel_rfl) (by kernel_rfl)
      (by rw [MakeChecks.laidMetH_plain _ _ _ (by kernel_rfl)]; exact laidMet_laidAll _ (by kernel_rfl) (by kernel_rfl))) ?_
  intro W base args ds gs before hval0 hW hcnd hsz hL hSh _
  have hval : ∀ (j : Nat) t v, Tryz.f9.params[j]? = some t → args[j]? = some v → Value.okWide Tryz.prog W .any base t v := hval0
  have hW' := hW
  obtain ⟨p, q, hA0, hV, rfl, hfz, hnd⟩ := hW
  have hA : DataW.TrodAll enc Tryz.prog W 0 (fun _ => true) true Tryz.f9.params.toList args.toList ds p := hA0
  rw [Tryz.params9] at hA hval
  obtain ⟨v0, vs0, d0, ds0, p0, q0, hargs, rfl, rfl, h0, r_0⟩ := trodAll_cons hA
  obtain ⟨v1, vs1, d1, ds1, p1, q1, rfl, rfl, rfl, h1, r_1⟩ := trodAll_cons r_0
  obtain ⟨rfl, rfl, rfl⟩ := trodAll_nil r_1
  obtain rfl : args = #[v0, v1] := by cases args; simp_all
  obtain ⟨rfl, rfl⟩ := trodVars_none hV
  have k0 := h0
  have lt0 : ∀ x ∈ p0, x.block < W.heap.size := by obtain ⟨m, hm⟩ := k0; exact DataW.trod_lt m _ _ _ hm
  obtain ⟨v0_0, v0_1, v0_2, y0_0, y0_1, y0_2, n0, rfl, rfl, rfl, t0_0, t0_1, t0_2⟩ := open_agg3 Tryz.underlying44 (by kernel_rfl) (by kernel_rfl) (hval 0 44 v0 rfl rfl) h0
  obtain ⟨a0_0, e0_0, d0_0, w0_0⟩ := DataW.trod_string Tryz.underlying9 t0_0
  obtain rfl : v0_0 = .string a0_0 := by simpa using e0_0
  have z0_0 : a0_0.size ≤ 140737488351232 := by have z := aj2.aar hsz (i := 0) rfl rfl Tryz.underlying44 (j := 0) rfl (show _ = some (DataW.lit (.string a0_0.data.toList)) by rw [d0_0]; rfl); rw [Array.length_toList] at z; exact z
  obtain ⟨a0_1, e0_1, d0_1, w0_1⟩ := DataW.trod_string Tryz.underlying9 t0_1
  obtain rfl : v0_1 = .string a0_1 := by simpa using e0_1
  have z0_1 : a0_1.size ≤ 140737488351232 := by have z := aj2.aar hsz (i := 0) rfl rfl Tryz.underlying44 (j := 1) rfl (show _ = some (DataW.lit (.string a0_1.data.toList)) by rw [d0_1]; rfl); rw [Array.length_toList] at z; exact z
  obtain ⟨A0_2, n0_2, cap0_2, l0_2, e0_2, c0_2, m0_2, r0_2, sh0_2⟩ := CQ.aay hsz (i := 0) rfl rfl Tryz.underlying44 (j := 2) rfl (fuel := n0) (x := y0_2) rfl Tryz.underlying42 Tryz.underlying98 Tryz.underlying9 Tryz.underlying9 (by kernel_rfl) (by kernel_rfl) t0_2
  subst e0_2
  obtain ⟨a1, n1, cap1, rfl⟩ := okWide_slice Tryz.underlying45 (hval 1 45 v1 rfl rfl)
  have k1 := h1
  have lt1 : ∀ x ∈ p1, x.block < W.heap.size := by obtain ⟨m, hm⟩ := k1; exact DataW.trod_lt m _ _ _ hm
  have o1 : ∃ L : List UInt8, Base.aY W a1 n1 (Base.ah L) ∧ n1 ≤ cap1 ∧ cap1 ≤ maxLen := by obtain ⟨fuel, hf⟩ := h1; exact Open.aof Tryz.underlying45 Tryz.underlying5 (by kernel_rfl) hf
  obtain ⟨L1, r1, c1, m1⟩ := o1
  have z1 : cap1 * 1 ≤ 140737488351232 := by obtain ⟨fuel, hf⟩ := k1; exact aj2.reach hsz (j := 1) rfl rfl Tryz.underlying45 Tryz.underlying5 (by kernel_rfl) (by kernel_rfl) hf
  clear hA0 hval0
  rw [MakeChecks.laidMetH_plain _ _ _ (by kernel_rfl)] at hL
  have hpow : ("internal/strconv.uint64pow10", (Lib.tabData .u64 Lib.pow10Tab : DataW Unit)) ∈ Rows.topBuildsRow.laid := by
    have e : (Rows.laid_internal_strconv_uint64pow10 : DataW Unit) = Lib.tabData .u64 Lib.pow10Tab := by kernel_rfl
    rw [← e]
    unfold Rows.topBuildsRow
    simp
  have hlad : ("math/bits.deBruijn64tab", (Lib.tabData .u8 jQ.ak4 : DataW Unit)) ∈ Rows.topBuildsRow.laid := by
    have e : (Rows.laid_math_bits_deBruijn64tab : DataW Unit) = Lib.tabData .u8 jQ.ak4 := by kernel_rfl
    rw [← e]
    unfold Rows.topBuildsRow
    simp
  have hut1 : ("unicode/utf8.first", (Lib.firstData : DataW Unit)) ∈ Rows.topBuildsRow.laid := by
    have e : (Rows.laid_unicode_utf8_first : DataW Unit) = Lib.firstData := by kernel_rfl
    rw [← e]
    unfold Rows.topBuildsRow
    simp
  have hut2 : ("unicode/utf8.acceptRanges", (Lib.acceptData : DataW Unit)) ∈ Rows.topBuildsRow.laid := by
    have e : (Rows.laid_unicode_utf8_acceptRanges : DataW Unit) = Lib.acceptData := by kernel_rfl
    rw [← e]
    unfold Rows.topBuildsRow
    simp
  refine (Laws.abg a0_0 a0_1 A0_2 n0_2 cap0_2 l0_2 a1 n1 cap1 L1 W z0_0 z0_1 r0_2 c0_2 m0_2 sh0_2 r1 c1 z1 (Tab.pow_of hL hpow) (jQ.lad_of hL hlad) (Shs.max_of hSh) (rD.utab_of hL hut1 hut2)).mono fun e W' ⟨he, bel⟩ => ?_
  subst he
  exact ⟨_, rfl, _, _, _, [], _, [], hW', trodAll_mk1 (shut_bool Tryz.underlying4 _), (trodAll_cons_mk (Below.trod laidOut (by kernel_rfl) (of_decide_eq_true (by kernel_rfl)) k0 bel lt0) (trodAll_cons_mk (Below.trod laidOut (by kernel_rfl) (of_decide_eq_true (by kernel_rfl)) k1 bel lt1) trodAll_mk0)), rfl, bel.frame _, fun h => by cases h⟩

theorem and2 {a b : Bool} (h : a = true) (g : b = true) : (a && b) = true := by rw [h, g]; rfl
theorem jf0 : (Rows.topBuildsRow.wf (OpenSpec.ofChange Rows.topBuildsSpec)) = true := by kernel_rfl
theorem jf3 : (Tryz.f9.params.all (Tryz.prog.readableRec ·)) = true := by kernel_rfl
theorem jf4 : (namedTie Tryz.prog Rows.topBuildsRow.named Rows.topBuildsSpec.vars) = true := by kernel_rfl
theorem jf5 : ((Rows.topBuildsRow.stops == [])) = true := by kernel_rfl
theorem jf7 : ((Rows.topBuildsRow.knobs == [])) = true := by kernel_rfl
theorem jf13 : ((Rows.topBuildsRow.maps == (Tryz.f9.params.toList ++ Rows.topBuildsSpec.plain.varTypes Tryz.prog).any (Tryz.prog.mapsRec ·))) = true := by kernel_rfl
theorem jf14 : ((Rows.topBuildsRow.ifaces == (Tryz.f9.params.toList ++ Rows.topBuildsSpec.plain.varTypes Tryz.prog).any (Tryz.prog.ifacesRec ·))) = true := by kernel_rfl
theorem jf15 : ((Rows.topBuildsRow.mapsOut == Tryz.prog.mapsAmong Tryz.f9.resultTypes.toList)) = true := by kernel_rfl
theorem jf16 : ((Rows.topBuildsRow.loops == (Tryz.f9.params.toList ++ Rows.topBuildsSpec.plain.varTypes Tryz.prog).any (Tryz.prog.loopsFrom ·))) = true := by kernel_rfl
theorem jf17 : ((Rows.topBuildsRow.wideKeys == (Tryz.f9.params.toList ++ Rows.topBuildsSpec.plain.varTypes Tryz.prog ++ Tryz.f9.resultTypes.toList).any (Tryz.prog.wideKeysFrom ·))) = true := by kernel_rfl
theorem jf18 : (Rows.topBuildsSpec.vars.all (Tryz.prog.varReadable ·)) = true := by kernel_rfl
theorem jf19 : (Tryz.f9.resultTypes.all (fun t => Tryz.prog.readableRec t && decide (t < Tryz.prog.types.size))) = true := by kernel_rfl
theorem jf20 : ((Rows.topBuildsRow.ifacesOut == Tryz.f9.resultTypes.toList.any (Tryz.prog.ifacesRec ·))) = true := by kernel_rfl
theorem jf21 : ((Rows.topBuildsRow.loopsOut == Tryz.f9.resultTypes.toList.any (Tryz.prog.loopsFrom ·))) = true := by kernel_rfl
theorem jf23 : (Rows.topBuildsRow.shortTexts.isNone) = true := by kernel_rfl
theorem jf28 : ((Rows.topBuildsRow.kinds == (if Rows.topBuildsRow.domain.isEmpty then [] else Tryz.f9.params.toList.map fun t => match Tryz.prog.underlying t with | some (.int k) => some k | _ => none))) = true := by kernel_rfl
theorem jf29 : ((Rows.topBuildsRow.pinned == Rows.topBuildsRow.pinnedBy)) = true := by kernel_rfl
theorem jf30 : ((Rows.topBuildsRow.veiled == (Tryz.f9.params.toList ++ Rows.topBuildsSpec.plain.varTypes Tryz.prog ++ Tryz.f9.resultTypes.toList).any (Tryz.prog.veiledRec ·))) = true := by kernel_rfl
theorem jf31 : (Rows.topBuildsRow.veiledFits Tryz.prog Tryz.f9.params.toList (Tryz.f9.params.toList ++ Rows.topBuildsSpec.plain.varTypes Tryz.prog ++ Tryz.f9.resultTypes.toList)) = true := by kernel_rfl
set_option maxRecDepth 100000 in
theorem closed : joinedFacts Tryz.prog 9 Tryz.f9 Rows.topBuildsSpec Rows.topBuildsRow = true := by
  unfold joinedFacts
  exact (and2 (and2 (and2 (and2 (and2 (and2 (and2 (and2 (and2 (and2 (and2 (and2 (and2 (and2 (and2 (and2 (and2 (and2 (and2 (and2 (and2 (and2 (and2 (and2 (and2 (and2 (and2 (and2 (and2 (and2 (and2 jf0 JpA.laidOut) JpA.maps0) jf3) jf4) jf5) JpA.stops) jf7) JpA.knobs) JqTopBuildsA.inPlace) JqTopBuildsA.unf) JqTopBuildsB.recs) JqTopBuildsB.named) jf13) jf14) jf15) jf16) jf17) jf18) jf19) jf20) jf21) JqTopBuildsC.plainK) jf23) JpC.heard) JpB.enter) JqTopBuildsC.lifted) JqTopBuildsD.make) jf28) jf29) jf30) jf31)

theorem over : Rows.topBuildsRow.holds Tryz.pinned (OpenSpec.ofChange Rows.topBuildsSpec) :=
  OpenClaim.holds_of_wide 9 Tryz.f9 rfl rfl rfl rfl rfl rfl rfl ⟨rfl, rfl, rfl, rfl, rfl⟩ rfl rfl rfl rfl rfl (by kernel_rfl) Tryz.func9 closed
    (of_decide_eq_true (by kernel_rfl)) (by unfold Func.isWrapper; first | (rw [if_pos (by decide +kernel)]; kernel_rfl) | (rw [if_neg (by decide +kernel)]; exact ⟨rfl, rfl⟩))
    (fun os started H enc _ => lifted os started H enc)

theorem proved : Rows.TopBuildsCardSaid :=
  Claim7.holds_tied_plain_at .later [] [.data, .data, .data, .data, .pinned] true (true, "aed2654326f857fb339382ba01280bb594dfbaa8f8647c5d8bdc772b487ccf30") false over (fun _ h => by cases h) JqTopBuildsE.byText (fun _ h => by cases h) topBuilds_row_tie rfl ⟨rfl, rfl⟩ JpD.mainIs rfl
    (fun f fn hf hfn => by
      obtain rfl : f = 9 := Option.some.inj ((show Tryz.prog.funcNamed "carryall/carryalltop.TopBuilds" = some 9 by kernel_rfl).symm.trans hf) |>.symm
      obtain rfl : fn = Tryz.f9 := (Option.some.inj (Tryz.func9.symm.trans hfn)).symm
      exact ⟨JpC.looks, fun j t ht => by
        rw [Tryz.params9] at ht
        have hm : t ∈ [44, 45] := by simpa using Array.mem_of_getElem? ht
        have hall : ([44, 45].all fun u => !Tryz.prog.wantsStandIn u) = true := by kernel_rfl
        exact (show Tryz.prog.wantsStandIn t = false by simpa using List.all_eq_true.1 hall t hm)⟩)
    JqTopBuildsE.goes
end Go.Proofs.YtmpeaoacaecgpaaGreatDoor.lawTopBuilds
