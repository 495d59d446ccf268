/- The law WindowsPaths: for every input the call returns true, and each argument reads afterwards as it read before. No condition. The package-level variables that the row lists are tied to the program's text by the given tie. -/
import Derived.Test.YtmdofbccebkbiaaGreatDoorRows
import Derived.Test.YtmdofbccebkbiaaGreatDoorTie
import Derived.Test.YtmdofbccebkbiaaGreatDoorCards
import Derived.Test.YtmdofbccebkbiaaGreatDoorMA
import Derived.Test.YtmdofbccebkbiaaGreatDoorLaw16c
import Derived.Test.YtmdofbccebkbiaaGreatDoorAggM
import Derived.Test.YtmdofbccebkbiaaGreatDoorMH
import Derived.Lib.SmallJoins
import Derived.LaidMore
import Derived.Lay
import Derived.SevenTiedAt
import Derived.Stop.Joined
namespace Go.Proofs.YtmdofbccebkbiaaGreatDoor.lawWindowsPaths
open Go.Joins Go.ChangeShapes Go.WideShapes Go.ChangeAt Go.RowKit
open Go.ChangeMaps (open_string shut_string)
set_option linter.unusedVariables false

theorem own : ownKnob Tryz.prog.godebug = none := by kernel_rfl
theorem laidOut : laidOutB Tryz.prog = true := by kernel_rfl
set_option maxRecDepth 100000 in
theorem lifted (os : Os) (started : os.Started) (H : Type) (enc : TypeId × Value → H) :
    ReturnsInHanded {} Tryz.checked os 9 .any (fun w args => (Rows.windowsPathsSpec.pre enc Tryz.prog Tryz.f9 Rows.windowsPathsRow.domain false w args ∧ laidMetH Tryz.prog Rows.windowsPathsRow.laid w) ∧ sizedMet enc Tryz.prog Tryz.f9 (OpenSpec.ofChange Rows.windowsPathsSpec) false w args)
      (Rows.windowsPathsSpec.post enc Tryz.prog Tryz.f9 false true false false) := by
  refine Shs.wrap (C := Tryz.checked) (X := fun w _ => laidMetH Tryz.prog Rows.windowsPathsRow.laid w) (fun _ _ _ hh h => h.of_heap hh) own started (by kernel_rfl) Tryz.func9
    (ChangeSpec.witness_shaped (enc := enc) (C := Tryz.checked) (os := os) (X := fun w _ => laidMetH Tryz.prog Rows.windowsPathsRow.laid w) false (World.laidAll Tryz.prog os Rows.windowsPathsRow.laid) #[.agg #[.string ByteArray.empty, .string ByteArray.empty, .string ByteArray.empty, .string ByteArray.empty, .bool false, .int .i64 0, .bool false, .string ByteArray.empty, .slice none 0 0, .bool false, .bool false, .string ByteArray.empty, .string ByteArray.empty], .string ByteArray.empty] 8 (World.laidAll_os _ _ _)
      (World.shaped_of_ZipB (by kernel_rfl) (by kernel_rfl)) (by kernel_rfl) (by kernel_rfl) (by kernel_rfl)
      (by rw [MakeChecks.laidMetH_plain _ _ _ (by kernel_rfl)]; exact laidMet_laidAll _ (by kernel_rfl) (by kernel_rfl))) ?_
  intro W base args ds gs before hval0 hW hcnd hsz hL hSh _
  have hval : ∀ (j : Nat) t v, Tryz.f9.params[j]? = some t → args[j]? = some v → Value.okWide Tryz.prog W .any base t v := hval0
  have hW' := hW
  obtain ⟨p, q, hA0, hV, rfl, hfz, hnd⟩ := hW
  have hA : DataW.TrodAll enc Tryz.prog W 0 (fun _ => true) true Tryz.f9.params.toList args.toList ds p := hA0
  rw [Tryz.params9] at hA hval
  obtain ⟨v0, vs0, d0, ds0, p0, q0, hargs, rfl, rfl, h0, r_0⟩ := trodAll_cons hA
  obtain ⟨v1, vs1, d1, ds1, p1, q1, rfl, rfl, rfl, h1, r_1⟩ := trodAll_cons r_0
  obtain ⟨rfl, rfl, rfl⟩ := trodAll_nil r_1
  obtain rfl : args = #[v0, v1] := by cases args; simp_all
  obtain ⟨rfl, rfl⟩ := trodVars_none hV
  have k0 := h0
  have lt0 : ∀ x ∈ p0, x.block < W.heap.size := by obtain ⟨m, hm⟩ := k0; exact DataW.trod_lt m _ _ _ hm
  obtain ⟨v0_0, v0_1, v0_2, v0_3, v0_4, v0_5, v0_6, v0_7, v0_8, v0_9, v0_10, v0_11, v0_12, y0_0, y0_1, y0_2, y0_3, y0_4, y0_5, y0_6, y0_7, y0_8, y0_9, y0_10, y0_11, y0_12, n0, rfl, rfl, rfl, t0_0, t0_1, t0_2, t0_3, t0_4, t0_5, t0_6, t0_7, t0_8, t0_9, t0_10, t0_11, t0_12⟩ := XH.Iz Tryz.underlying25 (by kernel_rfl) (by kernel_rfl) (hval 0 25 v0 rfl rfl) h0
  obtain ⟨a0_0, e0_0, d0_0, w0_0⟩ := DataW.trod_string Tryz.underlying9 t0_0
  obtain rfl : v0_0 = .string a0_0 := by simpa using e0_0
  have z0_0 : a0_0.size ≤ 140737488351232 := by have z := Af.jw hsz (i := 0) rfl rfl Tryz.underlying25 (j := 0) rfl (show _ = some (DataW.lit (.string a0_0.data.toList)) by rw [d0_0]; rfl); rw [Array.length_toList] at z; exact z
  obtain ⟨a0_1, e0_1, d0_1, w0_1⟩ := DataW.trod_string Tryz.underlying9 t0_1
  obtain rfl : v0_1 = .string a0_1 := by simpa using e0_1
  have z0_1 : a0_1.size ≤ 140737488351232 := by have z := Af.jw hsz (i := 0) rfl rfl Tryz.underlying25 (j := 1) rfl (show _ = some (DataW.lit (.string a0_1.data.toList)) by rw [d0_1]; rfl); rw [Array.length_toList] at z; exact z
  obtain ⟨a0_2, e0_2, d0_2, w0_2⟩ := DataW.trod_string Tryz.underlying9 t0_2
  obtain rfl : v0_2 = .string a0_2 := by simpa using e0_2
  have z0_2 : a0_2.size ≤ 140737488351232 := by have z := Af.jw hsz (i := 0) rfl rfl Tryz.underlying25 (j := 2) rfl (show _ = some (DataW.lit (.string a0_2.data.toList)) by rw [d0_2]; rfl); rw [Array.length_toList] at z; exact z
  obtain ⟨a0_3, e0_3, d0_3, w0_3⟩ := DataW.trod_string Tryz.underlying9 t0_3
  obtain rfl : v0_3 = .string a0_3 := by simpa using e0_3
  have z0_3 : a0_3.size ≤ 140737488351232 := by have z := Af.jw hsz (i := 0) rfl rfl Tryz.underlying25 (j := 3) rfl (show _ = some (DataW.lit (.string a0_3.data.toList)) by rw [d0_3]; rfl); rw [Array.length_toList] at z; exact z
  obtain ⟨a0_4, e0_4, _⟩ := DataW.trod_bool Tryz.underlying4 t0_4
  obtain rfl : v0_4 = .bool a0_4 := by simpa using e0_4
  obtain ⟨a0_5, e0_5, _, w0_5⟩ := DataW.trod_int Tryz.underlying3 t0_5
  obtain rfl : v0_5 = .int .i64 a0_5 := by simpa using e0_5
  obtain ⟨a0_6, e0_6, _⟩ := DataW.trod_bool Tryz.underlying4 t0_6
  obtain rfl : v0_6 = .bool a0_6 := by simpa using e0_6
  obtain ⟨a0_7, e0_7, d0_7, w0_7⟩ := DataW.trod_string Tryz.underlying9 t0_7
  obtain rfl : v0_7 = .string a0_7 := by simpa using e0_7
  have z0_7 : a0_7.size ≤ 140737488351232 := by have z := Af.jw hsz (i := 0) rfl rfl Tryz.underlying25 (j := 7) rfl (show _ = some (DataW.lit (.string a0_7.data.toList)) by rw [d0_7]; rfl); rw [Array.length_toList] at z; exact z
  obtain ⟨A0_8, n0_8, Rw, e0_8⟩ := slice_form Tryz.underlying23 t0_8
  obtain rfl : v0_8 = .slice A0_8 n0_8 Rw := by simpa using e0_8
  obtain ⟨l0_8, r0_8, c0_8, m0_8, k0_8w⟩ := XH.Am hsz (i := 0) rfl rfl Tryz.underlying25 (j := 8) rfl (fuel := n0) (a := A0_8) (len := n0_8) (cap := Rw) (x := y0_8) rfl Tryz.underlying23 Tryz.underlying9 (by kernel_rfl) t0_8
  obtain ⟨a0_9, e0_9, _⟩ := DataW.trod_bool Tryz.underlying4 t0_9
  obtain rfl : v0_9 = .bool a0_9 := by simpa using e0_9
  obtain ⟨a0_10, e0_10, _⟩ := DataW.trod_bool Tryz.underlying4 t0_10
  obtain rfl : v0_10 = .bool a0_10 := by simpa using e0_10
  obtain ⟨Uf, e0_11, d0_11, w0_11⟩ := DataW.trod_string Tryz.underlying9 t0_11
  obtain rfl : v0_11 = .string Uf := by simpa using e0_11
  have z0_11 : Uf.size ≤ 140737488351232 := by have z := Af.jw hsz (i := 0) rfl rfl Tryz.underlying25 (j := 11) rfl (show _ = some (DataW.lit (.string Uf.data.toList)) by rw [d0_11]; rfl); rw [Array.length_toList] at z; exact z
  obtain ⟨Ug, e0_12, d0_12, w0_12⟩ := DataW.trod_string Tryz.underlying9 t0_12
  obtain rfl : v0_12 = .string Ug := by simpa using e0_12
  have z0_12 : Ug.size ≤ 140737488351232 := by have z := Af.jw hsz (i := 0) rfl rfl Tryz.underlying25 (j := 12) rfl (show _ = some (DataW.lit (.string Ug.data.toList)) by rw [d0_12]; rfl); rw [Array.length_toList] at z; exact z
  obtain ⟨a1, rfl, rfl, rfl, w1⟩ := open_string Tryz.underlying9 (hval 1 9 v1 rfl rfl) h1
  have z1 : a1.size ≤ 140737488351232 := by have z := sized_string hsz (j := 1) rfl rfl; rw [Array.length_toList] at z; exact z
  clear hA0 hval0
  rw [MakeChecks.laidMetH_plain _ _ _ (by kernel_rfl)] at hL
  have hpow : ("internal/strconv.uint64pow10", (Lib.tabData .u64 Lib.pow10Tab : DataW Unit)) ∈ Rows.windowsPathsRow.laid := by
    have e : (Rows.laid_internal_strconv_uint64pow10 : DataW Unit) = Lib.tabData .u64 Lib.pow10Tab := by kernel_rfl
    rw [← e]
    unfold Rows.windowsPathsRow
    simp
  have hlad : ("math/bits.deBruijn64tab", (Lib.tabData .u8 lI.RG : DataW Unit)) ∈ Rows.windowsPathsRow.laid := by
    have e : (Rows.laid_math_bits_deBruijn64tab : DataW Unit) = Lib.tabData .u8 lI.RG := by kernel_rfl
    rw [← e]
    unfold Rows.windowsPathsRow
    simp
  have hut1 : ("unicode/utf8.first", (Lib.firstData : DataW Unit)) ∈ Rows.windowsPathsRow.laid := by
    have e : (Rows.laid_unicode_utf8_first : DataW Unit) = Lib.firstData := by kernel_rfl
    rw [← e]
    unfold Rows.windowsPathsRow
    simp
  have hut2 : ("unicode/utf8.acceptRanges", (Lib.acceptData : DataW Unit)) ∈ Rows.windowsPathsRow.laid := by
    have e : (Rows.laid_unicode_utf8_acceptRanges : DataW Unit) = Lib.acceptData := by kernel_rfl
    rw [← e]
    unfold Rows.windowsPathsRow
    simp
  refine (Laws.Em a0_0 a0_1 a0_2 a0_3 a0_4 a0_5 a0_6 a0_7 A0_8 n0_8 Rw l0_8 a0_9 a0_10 Uf Ug a1 W z0_0 z0_1 z0_2 z0_3 (bounds_i64 w0_5) z0_7 r0_8 c0_8 m0_8 k0_8w z0_11 z0_12 z1 (Tab.Z8 hL hpow) (lI.Zt hL hlad) (Shs.ZB hSh) (tK.Vx hL hut1 hut2)).mono fun e W' ⟨he, bel⟩ => ?_
  subst he
  exact ⟨_, rfl, _, _, _, [], _, [], hW', trodAll_mk1 (shut_bool Tryz.underlying4 _), (trodAll_cons_mk (Below.trod laidOut (by kernel_rfl) (of_decide_eq_true (by kernel_rfl)) k0 bel lt0) (trodAll_cons_mk (shut_string Tryz.underlying9 w1) trodAll_mk0)), rfl, bel.frame _, fun h => by cases h⟩

theorem over : Rows.windowsPathsRow.holds Tryz.pinned (OpenSpec.ofChange Rows.windowsPathsSpec) :=
  OpenClaim.holds_of_wide 9 Tryz.f9 rfl rfl rfl rfl rfl rfl rfl ⟨rfl, rfl, rfl, rfl, rfl⟩ rfl rfl rfl rfl rfl (by kernel_rfl) Tryz.func9 (by kernel_rfl)
    (of_decide_eq_true (by kernel_rfl)) (by unfold Func.isWrapper; first | (rw [if_pos (by decide +kernel)]; kernel_rfl) | (rw [if_neg (by decide +kernel)]; exact ⟨rfl, rfl⟩))
    (fun os started H enc _ => lifted os started H enc)

theorem proved : Rows.WindowsPathsCardSaid :=
  Claim7.holds_tied_plain_at .later [] [.data, .data, .data, .data, .pinned] true (true, "f321a34648144c88633fb0d6edcec4d6a30525add6b108e929f9558dded08fbc") false over (fun _ h => by cases h) (by kernel_rfl) (fun _ h => by cases h) windowsPaths_row_tie rfl ⟨rfl, rfl⟩ (by kernel_rfl) rfl
    (fun f fn hf hfn => by
      obtain rfl : f = 9 := Option.some.inj ((show Tryz.prog.funcNamed "carryall/carryalllaw16.WindowsPaths" = some 9 by kernel_rfl).symm.trans hf) |>.symm
      obtain rfl : fn = Tryz.f9 := (Option.some.inj (Tryz.func9.symm.trans hfn)).symm
      exact ⟨by kernel_rfl, fun j t ht => by
        rw [Tryz.params9] at ht
        have hm : t ∈ [25, 9] := by simpa using Array.mem_of_getElem? ht
        have hall : ([25, 9].all fun u => !Tryz.prog.wantsStandIn u) = true := by kernel_rfl
        exact (show Tryz.prog.wantsStandIn t = false by simpa using List.all_eq_true.1 hall t hm)⟩)
    (by kernel_rfl)
end Go.Proofs.YtmdofbccebkbiaaGreatDoor.lawWindowsPaths
