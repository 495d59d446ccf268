/- The law BuildBoth: for every input the call returns true, and each argument reads afterwards as it read before. No condition. The package-level variables that the row lists are tied to the program's text by the given tie. -/
import Derived.Test.YtcfgioklgmlclaaGreatDoorRows
import Derived.Test.YtcfgioklgmlclaaGreatDoorTie
import Derived.Test.YtcfgioklgmlclaaGreatDoorCards
import Derived.Test.YtcfgioklgmlclaaGreatDoorMA
import Derived.Test.YtcfgioklgmlclaaGreatDoorQF
import Derived.Test.YtcfgioklgmlclaaGreatDoorMH
import Derived.Test.YtcfgioklgmlclaaGreatDoorPQ
import Derived.Lib.SmallJoins
import Derived.LaidMore
import Derived.Lay
import Derived.SevenTiedAt
import Derived.Stop.Joined
namespace Go.Proofs.YtcfgioklgmlclaaGreatDoor.lawBuildBoth
open Go.Joins Go.ChangeShapes Go.WideShapes Go.ChangeAt Go.RowKit
open Go.ChangeMaps (open_string shut_string)
set_option linter.unusedVariables false

theorem own : ownKnob Tryz.prog.godebug = none := by kernel_rfl
theorem laidOut : laidOutB Tryz.prog = true := by kernel_rfl
set_option maxRecDepth 100000 in
theorem lifted (os : Os) (started : os.Started) (H : Type) (enc : TypeId × Value → H) :
    ReturnsInHanded {} Tryz.checked os 10 .any (fun w args => (Rows.buildBothSpec.pre enc Tryz.prog Tryz.f10 Rows.buildBothRow.domain false w args ∧ laidMetH Tryz.prog Rows.buildBothRow.laid w) ∧ sizedMet enc Tryz.prog Tryz.f10 (OpenSpec.ofChange Rows.buildBothSpec) false w args)
      (Rows.buildBothSpec.post enc Tryz.prog Tryz.f10 false true false false) := by
  refine Shs.wrap (C := Tryz.checked) (X := fun w _ => laidMetH Tryz.prog Rows.buildBothRow.laid w) (fun _ _ _ hh h => h.of_heap hh) own started (by kernel_rfl) Tryz.func10
    (ChangeSpec.witness_shaped (enc := enc) (C := Tryz.checked) (os := os) (X := fun w _ => laidMetH Tryz.prog Rows.buildBothRow.laid w) false (World.laidAll Tryz.prog os Rows.buildBothRow.laid) #[.agg #[.string ByteArray.empty, .string ByteArray.empty, .slice none 0 0], .slice none 0 0] 8 (World.laidAll_os _ _ _)
      (World.shaped_of_ZipB (by kernel_rfl) (by kernel_rfl)) (by kernel_rfl) (by kernel_rfl) (by kernel_rfl)
      (by rw [MakeChecks.laidMetH_plain _ _ _ (by kernel_rfl)]; exact laidMet_laidAll _ (by kernel_rfl) (by kernel_rfl))) ?_
  intro W base args ds gs before hval0 hW hcnd hsz hL hSh _
  have hval : ∀ (j : Nat) t v, Tryz.f10.params[j]? = some t → args[j]? = some v → Value.okWide Tryz.prog W .any base t v := hval0
  have hW' := hW
  obtain ⟨p, q, hA0, hV, rfl, hfz, hnd⟩ := hW
  have hA : DataW.TrodAll enc Tryz.prog W 0 (fun _ => true) true Tryz.f10.params.toList args.toList ds p := hA0
  rw [Tryz.params10] at hA hval
  obtain ⟨v0, vs0, d0, ds0, p0, q0, hargs, rfl, rfl, h0, r_0⟩ := trodAll_cons hA
  obtain ⟨v1, vs1, d1, ds1, p1, q1, rfl, rfl, rfl, h1, r_1⟩ := trodAll_cons r_0
  obtain ⟨rfl, rfl, rfl⟩ := trodAll_nil r_1
  obtain rfl : args = #[v0, v1] := by cases args; simp_all
  obtain ⟨rfl, rfl⟩ := trodVars_none hV
  have k0 := h0
  have lt0 : ∀ x ∈ p0, x.block < W.heap.size := by obtain ⟨m, hm⟩ := k0; exact DataW.trod_lt m _ _ _ hm
  obtain ⟨v0_0, v0_1, v0_2, y0_0, y0_1, y0_2, n0, rfl, rfl, rfl, t0_0, t0_1, t0_2⟩ := open_agg3 Tryz.underlying29 (by kernel_rfl) (by kernel_rfl) (hval 0 29 v0 rfl rfl) h0
  obtain ⟨Nz, e0_0, d0_0, w0_0⟩ := DataW.trod_string Tryz.underlying9 t0_0
  obtain rfl : v0_0 = .string Nz := by simpa using e0_0
  have z0_0 : Nz.size ≤ 140737488351232 := by have z := oW.eu hsz (i := 0) rfl rfl Tryz.underlying29 (j := 0) rfl (show _ = some (DataW.lit (.string Nz.data.toList)) by rw [d0_0]; rfl); rw [Array.length_toList] at z; exact z
  obtain ⟨NC, e0_1, d0_1, w0_1⟩ := DataW.trod_string Tryz.underlying9 t0_1
  obtain rfl : v0_1 = .string NC := by simpa using e0_1
  have z0_1 : NC.size ≤ 140737488351232 := by have z := oW.eu hsz (i := 0) rfl rfl Tryz.underlying29 (j := 1) rfl (show _ = some (DataW.lit (.string NC.data.toList)) by rw [d0_1]; rfl); rw [Array.length_toList] at z; exact z
  obtain ⟨A0_2, n0_2, cap0_2, l0_2, e0_2, c0_2, m0_2, r0_2, sh0_2⟩ := Mim2.ach hsz (i := 0) rfl rfl Tryz.underlying29 (j := 2) rfl (fuel := n0) (x := y0_2) rfl Tryz.underlying27 Tryz.underlying69 Tryz.underlying9 Tryz.underlying9 (by kernel_rfl) (by kernel_rfl) t0_2
  subst e0_2
  obtain ⟨a1, n1, cap1, rfl⟩ := okWide_slice Tryz.underlying30 (hval 1 30 v1 rfl rfl)
  have k1 := h1
  have lt1 : ∀ x ∈ p1, x.block < W.heap.size := by obtain ⟨m, hm⟩ := k1; exact DataW.trod_lt m _ _ _ hm
  have o1 : ∃ L : List UInt8, Base.dS W a1 n1 (Base.ak L) ∧ n1 ≤ cap1 ∧ cap1 ≤ maxLen := by obtain ⟨fuel, hf⟩ := h1; exact Open.abV Tryz.underlying30 Tryz.underlying5 (by kernel_rfl) hf
  obtain ⟨L1, r1, c1, m1⟩ := o1
  have z1 : cap1 * 1 ≤ 140737488351232 := by obtain ⟨fuel, hf⟩ := k1; exact oW.reach hsz (j := 1) rfl rfl Tryz.underlying30 Tryz.underlying5 (by kernel_rfl) (by kernel_rfl) hf
  clear hA0 hval0
  rw [MakeChecks.laidMetH_plain _ _ _ (by kernel_rfl)] at hL
  have yI : ("internal/strconv.uint64pow10", (Lib.tabData .u64 Lib.pow10Tab : DataW Unit)) ∈ Rows.buildBothRow.laid := by
    have e : (Rows.laid_internal_strconv_uint64pow10 : DataW Unit) = Lib.tabData .u64 Lib.pow10Tab := by kernel_rfl
    rw [← e]
    unfold Rows.buildBothRow
    simp
  have acy : ("math/bits.deBruijn64tab", (Lib.tabData .u8 kX.N8 : DataW Unit)) ∈ Rows.buildBothRow.laid := by
    have e : (Rows.laid_math_bits_deBruijn64tab : DataW Unit) = Lib.tabData .u8 kX.N8 := by kernel_rfl
    rw [← e]
    unfold Rows.buildBothRow
    simp
  have acF : ("unicode/utf8.first", (Lib.firstData : DataW Unit)) ∈ Rows.buildBothRow.laid := by
    have e : (Rows.laid_unicode_utf8_first : DataW Unit) = Lib.firstData := by kernel_rfl
    rw [← e]
    unfold Rows.buildBothRow
    simp
  have acG : ("unicode/utf8.acceptRanges", (Lib.acceptData : DataW Unit)) ∈ Rows.buildBothRow.laid := by
    have e : (Rows.laid_unicode_utf8_acceptRanges : DataW Unit) = Lib.acceptData := by kernel_rfl
    rw [← e]
    unfold Rows.buildBothRow
    simp
  refine (Laws.aaz Nz NC A0_2 n0_2 cap0_2 l0_2 a1 n1 cap1 L1 W z0_0 z0_1 r0_2 c0_2 m0_2 sh0_2 r1 c1 z1 (Tab.Vy hL yI) (kX.Vb hL acy) (Shs.Vg hSh) (uw.PE hL acF acG)).mono fun e W' ⟨he, bel⟩ => ?_
  subst he
  exact ⟨_, rfl, _, _, _, [], _, [], hW', trodAll_mk1 (shut_bool Tryz.underlying4 _), (trodAll_cons_mk (Below.trod laidOut (by kernel_rfl) (of_decide_eq_true (by kernel_rfl)) k0 bel lt0) (trodAll_cons_mk (Below.trod laidOut (by kernel_rfl) (of_decide_eq_true (by kernel_rfl)) k1 bel lt1) trodAll_mk0)), rfl, bel.frame _, fun h => by cases h⟩

theorem over : Rows.buildBothRow.holds Tryz.pinned (OpenSpec.ofChange Rows.buildBothSpec) :=
  OpenClaim.holds_of_wide 10 Tryz.f10 rfl rfl rfl rfl rfl rfl rfl ⟨rfl, rfl, rfl, rfl, rfl⟩ rfl rfl rfl rfl rfl (by kernel_rfl) Tryz.func10 (by kernel_rfl)
    (of_decide_eq_true (by kernel_rfl)) (by unfold Func.isWrapper; first | (rw [if_pos (by decide +kernel)]; kernel_rfl) | (rw [if_neg (by decide +kernel)]; exact ⟨rfl, rfl⟩))
    (fun os started H enc _ => lifted os started H enc)

theorem proved : Rows.BuildBothCardSaid :=
  Claim7.holds_tied_plain_at .later [] [.data, .data, .data, .data, .pinned] true (true, "2c5360f5767de8e83ece8d15d60cd2e436edad943fc3845f81c8efb789f01043") false over (fun _ h => by cases h) (by kernel_rfl) (fun _ h => by cases h) buildBoth_row_tie rfl ⟨rfl, rfl⟩ (by kernel_rfl) rfl
    (fun f fn hf hfn => by
      obtain rfl : f = 10 := Option.some.inj ((show Tryz.prog.funcNamed "carryall/carryalllaw18.BuildBoth" = some 10 by kernel_rfl).symm.trans hf) |>.symm
      obtain rfl : fn = Tryz.f10 := (Option.some.inj (Tryz.func10.symm.trans hfn)).symm
      exact ⟨by kernel_rfl, fun j t ht => by
        rw [Tryz.params10] at ht
        have hm : t ∈ [29, 30] := by simpa using Array.mem_of_getElem? ht
        have hall : ([29, 30].all fun u => !Tryz.prog.wantsStandIn u) = true := by kernel_rfl
        exact (show Tryz.prog.wantsStandIn t = false by simpa using List.all_eq_true.1 hall t hm)⟩)
    (by kernel_rfl)
end Go.Proofs.YtcfgioklgmlclaaGreatDoor.lawBuildBoth
