/- The law DataOthers: for every input the call returns true, and each argument reads afterwards as it read before. No condition. The package-level variables that the row lists are tied to the program's text by the given tie. -/
import Derived.Test.YtcfgioklgmlclaaGreatDoorRows
import Derived.Test.YtcfgioklgmlclaaGreatDoorTie
import Derived.Test.YtcfgioklgmlclaaGreatDoorCards
import Derived.Test.YtcfgioklgmlclaaGreatDoorMA
import Derived.Test.YtcfgioklgmlclaaGreatDoorQB
import Derived.Test.YtcfgioklgmlclaaGreatDoorAggM
import Derived.Test.YtcfgioklgmlclaaGreatDoorMH
import Derived.Lib.SmallJoins
import Derived.LaidMore
import Derived.Lay
import Derived.SevenTiedAt
import Derived.Stop.Joined
namespace Go.Proofs.YtcfgioklgmlclaaGreatDoor.lawDataOthers
open Go.Joins Go.ChangeShapes Go.WideShapes Go.ChangeAt Go.RowKit
open Go.ChangeMaps (open_string shut_string)
set_option linter.unusedVariables false

theorem own : ownKnob Tryz.prog.godebug = none := by kernel_rfl
theorem laidOut : laidOutB Tryz.prog = true := by kernel_rfl
set_option maxRecDepth 100000 in
theorem lifted (os : Os) (started : os.Started) (H : Type) (enc : TypeId × Value → H) :
    ReturnsInHanded {} Tryz.checked os 6 .any (fun w args => (Rows.dataOthersSpec.pre enc Tryz.prog Tryz.f6 Rows.dataOthersRow.domain false w args ∧ laidMetH Tryz.prog Rows.dataOthersRow.laid w) ∧ sizedMet enc Tryz.prog Tryz.f6 (OpenSpec.ofChange Rows.dataOthersSpec) false w args)
      (Rows.dataOthersSpec.post enc Tryz.prog Tryz.f6 false true false false) := by
  refine Shs.wrap (C := Tryz.checked) (X := fun w _ => laidMetH Tryz.prog Rows.dataOthersRow.laid w) (fun _ _ _ hh h => h.of_heap hh) own started (by kernel_rfl) Tryz.func6
    (ChangeSpec.witness_shaped (enc := enc) (C := Tryz.checked) (os := os) (X := fun w _ => laidMetH Tryz.prog Rows.dataOthersRow.laid w) false (World.laidAll Tryz.prog os Rows.dataOthersRow.laid) #[.agg #[.string ByteArray.empty, .string ByteArray.empty, .string ByteArray.empty, .string ByteArray.empty, .bool false, .int .i64 0, .bool false, .string ByteArray.empty, .slice none 0 0, .bool false, .bool false, .string ByteArray.empty, .string ByteArray.empty]] 8 (World.laidAll_os _ _ _)
      (World.shaped_of_ZipB (by kernel_rfl) (by kernel_rfl)) (by kernel_rfl) (by kernel_rfl) (by kernel_rfl)
      (by rw [MakeChecks.laidMetH_plain _ _ _ (by kernel_rfl)]; exact laidMet_laidAll _ (by kernel_rfl) (by kernel_rfl))) ?_
  intro W base args ds gs before hval0 hW hcnd hsz hL hSh _
  have hval : ∀ (j : Nat) t v, Tryz.f6.params[j]? = some t → args[j]? = some v → Value.okWide Tryz.prog W .any base t v := hval0
  have hW' := hW
  obtain ⟨p, q, hA0, hV, rfl, hfz, hnd⟩ := hW
  have hA : DataW.TrodAll enc Tryz.prog W 0 (fun _ => true) true Tryz.f6.params.toList args.toList ds p := hA0
  rw [Tryz.params6] at hA hval
  obtain ⟨v0, vs0, d0, ds0, p0, q0, hargs, rfl, rfl, h0, r_0⟩ := trodAll_cons hA
  obtain ⟨rfl, rfl, rfl⟩ := trodAll_nil r_0
  obtain rfl : args = #[v0] := by cases args; simp_all
  obtain ⟨rfl, rfl⟩ := trodVars_none hV
  have k0 := h0
  have lt0 : ∀ x ∈ p0, x.block < W.heap.size := by obtain ⟨m, hm⟩ := k0; exact DataW.trod_lt m _ _ _ hm
  obtain ⟨v0_0, v0_1, v0_2, v0_3, v0_4, v0_5, v0_6, v0_7, v0_8, v0_9, aeb, aec, aed, y0_0, y0_1, y0_2, y0_3, y0_4, y0_5, y0_6, y0_7, y0_8, y0_9, y0_10, y0_11, y0_12, n0, rfl, rfl, rfl, t0_0, t0_1, t0_2, t0_3, t0_4, t0_5, t0_6, t0_7, adX, t0_9, adU, adV, adW⟩ := Qe.Bv Tryz.underlying24 (by kernel_rfl) (by kernel_rfl) (hval 0 24 v0 rfl rfl) h0
  obtain ⟨Nz, e0_0, d0_0, w0_0⟩ := DataW.trod_string Tryz.underlying9 t0_0
  obtain rfl : v0_0 = .string Nz := by simpa using e0_0
  have z0_0 : Nz.size ≤ 140737488351232 := by have z := oW.eu hsz (i := 0) rfl rfl Tryz.underlying24 (j := 0) rfl (show _ = some (DataW.lit (.string Nz.data.toList)) by rw [d0_0]; rfl); rw [Array.length_toList] at z; exact z
  obtain ⟨NC, e0_1, d0_1, w0_1⟩ := DataW.trod_string Tryz.underlying9 t0_1
  obtain rfl : v0_1 = .string NC := by simpa using e0_1
  have z0_1 : NC.size ≤ 140737488351232 := by have z := oW.eu hsz (i := 0) rfl rfl Tryz.underlying24 (j := 1) rfl (show _ = some (DataW.lit (.string NC.data.toList)) by rw [d0_1]; rfl); rw [Array.length_toList] at z; exact z
  obtain ⟨ND, e0_2, d0_2, w0_2⟩ := DataW.trod_string Tryz.underlying9 t0_2
  obtain rfl : v0_2 = .string ND := by simpa using e0_2
  have z0_2 : ND.size ≤ 140737488351232 := by have z := oW.eu hsz (i := 0) rfl rfl Tryz.underlying24 (j := 2) rfl (show _ = some (DataW.lit (.string ND.data.toList)) by rw [d0_2]; rfl); rw [Array.length_toList] at z; exact z
  obtain ⟨NG, e0_3, d0_3, w0_3⟩ := DataW.trod_string Tryz.underlying9 t0_3
  obtain rfl : v0_3 = .string NG := by simpa using e0_3
  have z0_3 : NG.size ≤ 140737488351232 := by have z := oW.eu hsz (i := 0) rfl rfl Tryz.underlying24 (j := 3) rfl (show _ = some (DataW.lit (.string NG.data.toList)) by rw [d0_3]; rfl); rw [Array.length_toList] at z; exact z
  obtain ⟨aa4, e0_4, _⟩ := DataW.trod_bool Tryz.underlying4 t0_4
  obtain rfl : v0_4 = .bool aa4 := by simpa using e0_4
  obtain ⟨aa5, e0_5, _, w0_5⟩ := DataW.trod_int Tryz.underlying3 t0_5
  obtain rfl : v0_5 = .int .i64 aa5 := by simpa using e0_5
  obtain ⟨aa6, e0_6, _⟩ := DataW.trod_bool Tryz.underlying4 t0_6
  obtain rfl : v0_6 = .bool aa6 := by simpa using e0_6
  obtain ⟨NH, e0_7, d0_7, w0_7⟩ := DataW.trod_string Tryz.underlying9 t0_7
  obtain rfl : v0_7 = .string NH := by simpa using e0_7
  have z0_7 : NH.size ≤ 140737488351232 := by have z := oW.eu hsz (i := 0) rfl rfl Tryz.underlying24 (j := 7) rfl (show _ = some (DataW.lit (.string NH.data.toList)) by rw [d0_7]; rfl); rw [Array.length_toList] at z; exact z
  obtain ⟨TL, Vl, AU, e0_8⟩ := slice_form Tryz.underlying22 adX
  obtain rfl : v0_8 = .slice TL Vl AU := by simpa using e0_8
  obtain ⟨l0_8, r0_8, c0_8, m0_8, acS⟩ := Qe.tK hsz (i := 0) rfl rfl Tryz.underlying24 (j := 8) rfl (fuel := n0) (a := TL) (len := Vl) (cap := AU) (x := y0_8) rfl Tryz.underlying22 Tryz.underlying9 (by kernel_rfl) adX
  obtain ⟨aa7, e0_9, _⟩ := DataW.trod_bool Tryz.underlying4 t0_9
  obtain rfl : v0_9 = .bool aa7 := by simpa using e0_9
  obtain ⟨QB, abE, _⟩ := DataW.trod_bool Tryz.underlying4 adU
  obtain rfl : aeb = .bool QB := by simpa using abE
  obtain ⟨CJ, abG, abr, w0_11⟩ := DataW.trod_string Tryz.underlying9 adV
  obtain rfl : aec = .string CJ := by simpa using abG
  have aek : CJ.size ≤ 140737488351232 := by have z := oW.eu hsz (i := 0) rfl rfl Tryz.underlying24 (j := 11) rfl (show _ = some (DataW.lit (.string CJ.data.toList)) by rw [abr]; rfl); rw [Array.length_toList] at z; exact z
  obtain ⟨CO, abH, abt, w0_12⟩ := DataW.trod_string Tryz.underlying9 adW
  obtain rfl : aed = .string CO := by simpa using abH
  have ael : CO.size ≤ 140737488351232 := by have z := oW.eu hsz (i := 0) rfl rfl Tryz.underlying24 (j := 12) rfl (show _ = some (DataW.lit (.string CO.data.toList)) by rw [abt]; rfl); rw [Array.length_toList] at z; exact z
  clear hA0 hval0
  rw [MakeChecks.laidMetH_plain _ _ _ (by kernel_rfl)] at hL
  have yI : ("internal/strconv.uint64pow10", (Lib.tabData .u64 Lib.pow10Tab : DataW Unit)) ∈ Rows.dataOthersRow.laid := by
    have e : (Rows.laid_internal_strconv_uint64pow10 : DataW Unit) = Lib.tabData .u64 Lib.pow10Tab := by kernel_rfl
    rw [← e]
    unfold Rows.dataOthersRow
    simp
  have acy : ("math/bits.deBruijn64tab", (Lib.tabData .u8 kX.N8 : DataW Unit)) ∈ Rows.dataOthersRow.laid := by
    have e : (Rows.laid_math_bits_deBruijn64tab : DataW Unit) = Lib.tabData .u8 kX.N8 := by kernel_rfl
    rw [← e]
    unfold Rows.dataOthersRow
    simp
  have acF : ("unicode/utf8.first", (Lib.firstData : DataW Unit)) ∈ Rows.dataOthersRow.laid := by
    have e : (Rows.laid_unicode_utf8_first : DataW Unit) = Lib.firstData := by kernel_rfl
    rw [← e]
    unfold Rows.dataOthersRow
    simp
  have acG : ("unicode/utf8.acceptRanges", (Lib.acceptData : DataW Unit)) ∈ Rows.dataOthersRow.laid := by
    have e : (Rows.laid_unicode_utf8_acceptRanges : DataW Unit) = Lib.acceptData := by kernel_rfl
    rw [← e]
    unfold Rows.dataOthersRow
    simp
  refine (Laws.Gx Nz NC ND NG aa4 aa5 aa6 NH TL Vl AU l0_8 aa7 QB CJ CO W z0_0 z0_1 z0_2 z0_3 (bounds_i64 w0_5) z0_7 r0_8 c0_8 m0_8 acS aek ael (Tab.Vy hL yI) (kX.Vb hL acy) (Shs.Vg hSh) (uw.PE hL acF acG)).mono fun e W' ⟨he, bel⟩ => ?_
  subst he
  exact ⟨_, rfl, _, _, _, [], _, [], hW', trodAll_mk1 (shut_bool Tryz.underlying4 _), (trodAll_cons_mk (Below.trod laidOut (by kernel_rfl) (of_decide_eq_true (by kernel_rfl)) k0 bel lt0) trodAll_mk0), rfl, bel.frame _, fun h => by cases h⟩

theorem over : Rows.dataOthersRow.holds Tryz.pinned (OpenSpec.ofChange Rows.dataOthersSpec) :=
  OpenClaim.holds_of_wide 6 Tryz.f6 rfl rfl rfl rfl rfl rfl rfl ⟨rfl, rfl, rfl, rfl, rfl⟩ rfl rfl rfl rfl rfl (by kernel_rfl) Tryz.func6 (by kernel_rfl)
    (of_decide_eq_true (by kernel_rfl)) (by unfold Func.isWrapper; first | (rw [if_pos (by decide +kernel)]; kernel_rfl) | (rw [if_neg (by decide +kernel)]; exact ⟨rfl, rfl⟩))
    (fun os started H enc _ => lifted os started H enc)

theorem proved : Rows.DataOthersCardSaid :=
  Claim7.holds_tied_plain_at .later [] [.data, .data, .data, .data, .pinned] true (true, "2c5360f5767de8e83ece8d15d60cd2e436edad943fc3845f81c8efb789f01043") false over (fun _ h => by cases h) (by kernel_rfl) (fun _ h => by cases h) dataOthers_row_tie rfl ⟨rfl, rfl⟩ (by kernel_rfl) rfl
    (fun f fn hf hfn => by
      obtain rfl : f = 6 := Option.some.inj ((show Tryz.prog.funcNamed "carryall/carryalllaw17.DataOthers" = some 6 by kernel_rfl).symm.trans hf) |>.symm
      obtain rfl : fn = Tryz.f6 := (Option.some.inj (Tryz.func6.symm.trans hfn)).symm
      exact ⟨by kernel_rfl, fun j t ht => by
        rw [Tryz.params6] at ht
        have hm : t ∈ [24] := by simpa using Array.mem_of_getElem? ht
        have hall : ([24].all fun u => !Tryz.prog.wantsStandIn u) = true := by kernel_rfl
        exact (show Tryz.prog.wantsStandIn t = false by simpa using List.all_eq_true.1 hall t hm)⟩)
    (by kernel_rfl)
end Go.Proofs.YtcfgioklgmlclaaGreatDoor.lawDataOthers
