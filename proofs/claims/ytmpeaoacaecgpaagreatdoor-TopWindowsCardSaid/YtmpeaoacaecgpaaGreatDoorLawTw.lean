/- The law TopWindows, walked. -/
import Derived.Test.YtmpeaoacaecgpaaGreatDoorYAX
import Derived.Test.YtmpeaoacaecgpaaGreatDoorYAW
set_option linter.unusedSimpArgs false
set_option linter.unusedVariables false
namespace Go.Proofs.YtmpeaoacaecgpaaGreatDoor.Laws
open Go.RowKit Go.Proofs.YtmpeaoacaecgpaaGreatDoor.Base Go.Proofs.YtmpeaoacaecgpaaGreatDoor.Base2 Go.Proofs.YtmpeaoacaecgpaaGreatDoor.UG Go.Proofs.YtmpeaoacaecgpaaGreatDoor.acn
open Go.Proofs.YtmpeaoacaecgpaaGreatDoor.jQ (oI)
open Go.Proofs.YtmpeaoacaecgpaaGreatDoor.pO (Max)
open Go.Proofs.YtmpeaoacaecgpaaGreatDoor.vZ (rD)
set_option linter.unusedSimpArgs false
set_option linter.unusedVariables false
set_option maxRecDepth 100000 in
set_option maxHeartbeats 8000000 in
theorem akB (s0 : ByteArray) (w : World) (h0 : s0.size ≤ 140737488351232) (hT : Tab.Pow w) (hL : oI w) (hM : Max w) (hU : rD w) : Calls Tryz.prog 11 #[.string s0] w fun e w' => e = .returned (.bool true) ∧ Below w.heap.size w w' := by
  have HE := hid (⟨hT, hL, hM, hU⟩ : Env w)
  have JM : Hid (∀ w : World, Env w → Calls Tryz.prog 40 #[] w fun e w' => e = .returned (.bool true) ∧ Below w.heap.size w w') := fun w E => akA.Xj w ⟨E.pow, E.max, E.Hq⟩
  clear hT hL hM hU
  by_cases hl : s0.size ≤ 600
  · have hli : ¬ (600 : Int) < (s0.size : Int) := by omega
    obtain ⟨f, hf⟩ : ∃ f, oP.sK s0.data.toList = f := ⟨_, rfl⟩
    have HRF : Hid (∀ w : World, Env w → Calls Tryz.prog 43 #[.string s0] w fun e w' => e = .returned (.bool f) ∧ Below w.heap.size w w') := fun w E => by rw [← hf]; exact WinD.ahw s0 w (by omega)
    have HCF : Hid (∀ w : World, Env w → Calls Tryz.prog 44 #[.string s0] w fun e w' => e = .returned (.bool f) ∧ Below w.heap.size w w') := fun w E => by rw [← hf]; exact Gp.oW s0 w (by omega) ⟨E.pow, E.lad, E.max⟩
    cases f with
    | false =>
      have HU0 : Hid (∀ w : World, Env w → Calls Tryz.prog 38 #[.int .i64 1, .string s0] w fun e w' => e = .returned (.tuple #[.string ⟨#[]⟩, .int .i64 2]) ∧ Below w.heap.size w w') := fun w E => abP (Option.not_isSome_iff_eq_none.1 (by rw [oP.sJ, hf]; decide)) (by omega) w E
      clear hf hl h0
      go_enter Tryz.func11, Tryz.ntmps11
      go_wp2_with fail
      refine (JM.out _ HE.out).mono ?_
      rintro e w1 ⟨rfl, hb⟩
      have HB1 := hid hb
      have sO := hid (HE.out.below hb)
      clear hb
      go_wp2_with fail
      refine (HU0.out _ sO.out).mono ?_
      rintro e w2 ⟨rfl, hb⟩
      have HB2 := hid (bel HB1.out hb)
      have xY := hid (sO.out.below hb)
      clear hb
      go_wp2_with fail
      refine (HRF.out _ xY.out).mono ?_
      rintro e w3 ⟨rfl, hb⟩
      have HB3 := hid (bel HB2.out hb)
      have vV := hid (xY.out.below hb)
      clear hb
      go_wp2_with fail
      refine (HCF.out _ vV.out).mono ?_
      rintro e w4 ⟨rfl, hb⟩
      have HB4 := hid (bel HB3.out hb)
      have Hw := hid (vV.out.below hb)
      clear hb
      go_wp2
      go_ret
      exact ⟨rfl, HB4.out⟩
    | true =>
      obtain ⟨v, hv⟩ : ∃ v, oP.iM s0.data.toList = some v := Option.isSome_iff_exists.1 (by rw [oP.sJ]; exact hf)
      obtain ⟨u, hu⟩ : ∃ u, u = Ph.nZ v := ⟨_, rfl⟩
      have hsz : s0.data.toList.length = s0.size := Array.length_toList
      obtain ⟨P, Qr⟩ : ∃ P, P = strOf (wo.fQ u) := ⟨_, rfl⟩
      have hlen := an4 hv
      rw [hsz] at hlen
      have hPs : P.size ≤ 65536 := by rw [Qr, size_strOf, hu]; omega
      have ha : PrsP.url P.data.toList none = some u := by rw [Qr, hu]; exact Ph.aiW hv
      have HU1 : Hid (∀ w : World, Env w → Calls Tryz.prog 38 #[.int .i64 1, .string s0] w fun e w' => e = .returned (.tuple #[.string P, .int .i64 0]) ∧ Below w.heap.size w w') := fun w E => by rw [Qr, hu]; exact abQ hv (by omega) (by omega) w E
      obtain ⟨Q, hQ⟩ : ∃ Q, Q = strOf (s0.data.toList.map oP.bs) := ⟨_, rfl⟩
      have yc : Hid (∀ w : World, Env w → Calls Tryz.prog 39 #[.int .i64 1, .string P] w fun e w' => e = .returned (.tuple #[.string Q, .int .i64 0]) ∧ Below w.heap.size w w') := fun w E => by
        have k := acH ha hPs (by rw [hu]; exact an5 hv (by rw [hsz]; omega)) w E
        rw [hu, WinZ.an6 hv] at k
        rw [hQ]
        exact k
      have HSL : Hid (∀ w : World, Calls Tryz.prog 45 #[.string s0, .int .u8 47, .int .u8 92] w fun e w' => e = .returned (.string Q) ∧ Below w.heap.size w w') := fun w => by rw [hQ]; exact akD.jr s0 47 92 w (by omega)
      have HQ : Hid ((Q.toList == Q.toList) = true) := beq_self_eq_true _
      clear hf hl h0 hu hv Qr hPs ha hsz hlen hQ
      go_enter Tryz.func11, Tryz.ntmps11
      go_wp2_with fail
      refine (JM.out _ HE.out).mono ?_
      rintro e w1 ⟨rfl, hb⟩
      have HB1 := hid hb
      have sO := hid (HE.out.below hb)
      clear hb
      go_wp2_with fail
      refine (HU1.out _ sO.out).mono ?_
      rintro e w2 ⟨rfl, hb⟩
      have HB2 := hid (bel HB1.out hb)
      have xY := hid (sO.out.below hb)
      clear hb
      go_wp2_with fail
      refine (HRF.out _ xY.out).mono ?_
      rintro e w3 ⟨rfl, hb⟩
      have HB3 := hid (bel HB2.out hb)
      have vV := hid (xY.out.below hb)
      clear hb
      go_wp2_with fail
      refine (yc.out _ vV.out).mono ?_
      rintro e w4 ⟨rfl, hb⟩
      have HB4 := hid (bel HB3.out hb)
      have Hw := hid (vV.out.below hb)
      clear hb
      go_wp2_with fail
      refine (HSL.out _).mono ?_
      rintro e w5 ⟨rfl, hb⟩
      have iG := hid (bel HB4.out hb)
      have Uu := hid (Hw.out.below hb)
      clear hb
      have qs := HQ.out
      go_wp2
      go_ret
      exact ⟨rfl, iG.out⟩
  · have hli : (600 : Int) < (s0.size : Int) := by omega
    clear hl
    go_enter Tryz.func11, Tryz.ntmps11
    go_wp2_with fail
    refine (JM.out _ HE.out).mono ?_
    rintro e w1 ⟨rfl, hb⟩
    have HB1 := hid hb
    have sO := hid (HE.out.below hb)
    clear hb
    go_wp2_with fail
    refine (JM.out _ sO.out).mono ?_
    rintro e w2 ⟨rfl, hb⟩
    have HB2 := hid (bel HB1.out hb)
    have xY := hid (sO.out.below hb)
    clear hb
    go_wp2
    go_ret
    exact ⟨rfl, HB2.out⟩
end Go.Proofs.YtmpeaoacaecgpaaGreatDoor.Laws
