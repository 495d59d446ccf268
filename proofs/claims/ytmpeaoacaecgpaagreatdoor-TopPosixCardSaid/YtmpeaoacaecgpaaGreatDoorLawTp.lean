/- The law TopPosix, walked. -/
import Derived.Test.YtmpeaoacaecgpaaGreatDoorWAS
import Derived.Test.YtmpeaoacaecgpaaGreatDoorWAW
set_option linter.unusedSimpArgs false
set_option linter.unusedVariables false
namespace Go.Proofs.YtmpeaoacaecgpaaGreatDoor.Laws
open Go.RowKit Go.Proofs.YtmpeaoacaecgpaaGreatDoor.Base Go.Proofs.YtmpeaoacaecgpaaGreatDoor.Base2 Go.Proofs.YtmpeaoacaecgpaaGreatDoor.UG Go.Proofs.YtmpeaoacaecgpaaGreatDoor.StkX
open Go.Proofs.YtmpeaoacaecgpaaGreatDoor.jQ (oI)
open Go.Proofs.YtmpeaoacaecgpaaGreatDoor.pO (Max)
open Go.Proofs.YtmpeaoacaecgpaaGreatDoor.vZ (rD)
set_option linter.unusedSimpArgs false
set_option linter.unusedVariables false
set_option maxRecDepth 100000 in
set_option maxHeartbeats 8000000 in
theorem aaq (s0 : ByteArray) (w : World) (h0 : s0.size ≤ 140737488351232) (hT : Tab.Pow w) (hL : oI w) (hM : Max w) (hU : rD w) : Calls Tryz.prog 10 #[.string s0] w fun e w' => e = .returned (.bool true) ∧ Below w.heap.size w w' := by
  have HE := hid (⟨hT, hL, hM, hU⟩ : Env w)
  have JM : Hid (∀ w : World, Env w → Calls Tryz.prog 40 #[] w fun e w' => e = .returned (.bool true) ∧ Below w.heap.size w w') := fun w E => akA.Xj w ⟨E.pow, E.max, E.Hq⟩
  clear hT hL hM hU
  by_cases hl : s0.size ≤ 600
  · have hli : ¬ (600 : Int) < (s0.size : Int) := by omega
    obtain ⟨f, hf⟩ : ∃ f, yu.fine s0.data.toList = f := ⟨_, rfl⟩
    have HRF : Hid (∀ w : World, Env w → Calls Tryz.prog 41 #[.string s0] w fun e w' => e = .returned (.bool f) ∧ Below w.heap.size w w') := fun w E => by rw [← hf]; exact aj7.abm s0 w (by omega)
    have HCF : Hid (∀ w : World, Env w → Calls Tryz.prog 42 #[.string s0] w fun e w' => e = .returned (.bool f) ∧ Below w.heap.size w w') := fun w E => by rw [← hf]; exact aj7.oW s0 w (by omega) E.max
    cases f with
    | false =>
      have HU0 : Hid (∀ w : World, Env w → Calls Tryz.prog 38 #[.int .i64 0, .string s0] w fun e w' => e = .returned (.tuple #[.string ⟨#[]⟩, .int .i64 2]) ∧ Below w.heap.size w w') := fun w E => abN hf (by omega) w E
      clear hf hl h0
      go_enter Tryz.func10, Tryz.ntmps10
      go_wp2_with fail
      refine (JM.out _ HE.out).mono ?_
      rintro e w1 ⟨rfl, hb⟩
      have HB1 := hid hb
      have sO := hid (HE.out.below hb)
      clear hb
      go_wp2_with fail
      refine (HU0.out _ sO.out).mono ?_
      rintro e w2 ⟨rfl, hb⟩
      have HB2 := hid (bel HB1.out hb)
      have xY := hid (sO.out.below hb)
      clear hb
      go_wp2_with fail
      refine (HRF.out _ xY.out).mono ?_
      rintro e w3 ⟨rfl, hb⟩
      have HB3 := hid (bel HB2.out hb)
      have vV := hid (xY.out.below hb)
      clear hb
      go_wp2_with fail
      refine (HCF.out _ vV.out).mono ?_
      rintro e w4 ⟨rfl, hb⟩
      have HB4 := hid (bel HB3.out hb)
      have Hw := hid (vV.out.below hb)
      clear hb
      go_wp2
      go_ret
      exact ⟨rfl, HB4.out⟩
    | true =>
      have hF := PosX.fin_of hf
      obtain ⟨u, hu⟩ : ∃ u, u = PosP.DY (sW.spl 47 (s0.data.toList.drop 1)) := ⟨_, rfl⟩
      rw [← hu] at hF
      obtain ⟨P, Qr⟩ : ∃ P, P = strOf (wo.fQ u) := ⟨_, rfl⟩
      have hsz : s0.data.toList.length = s0.size := Array.length_toList
      have hPs : P.size ≤ 65536 := by rw [Qr, size_strOf]; have := hF.print; omega
      have ha : PrsP.url P.data.toList none = some u := by rw [Qr]; exact hF.again
      have HU1 : Hid (∀ w : World, Env w → Calls Tryz.prog 38 #[.int .i64 0, .string s0] w fun e w' => e = .returned (.tuple #[.string P, .int .i64 0]) ∧ Below w.heap.size w w') := fun w E => by rw [Qr]; exact abO hF (by omega) w E
      have yc : Hid (∀ w : World, Env w → Calls Tryz.prog 39 #[.int .i64 0, .string P] w fun e w' => e = .returned (.tuple #[.string s0, .int .i64 0]) ∧ Below w.heap.size w w') := fun w E => by
        have k := toPathP ha hPs (by have := hF.len; omega) w E
        rw [hF.back, aG] at k
        exact k
      have HQ : Hid ((s0.toList == s0.toList) = true) := beq_self_eq_true _
      clear hf hl h0 hu hF Qr hPs ha hsz
      go_enter Tryz.func10, Tryz.ntmps10
      go_wp2_with fail
      refine (JM.out _ HE.out).mono ?_
      rintro e w1 ⟨rfl, hb⟩
      have HB1 := hid hb
      have sO := hid (HE.out.below hb)
      clear hb
      go_wp2_with fail
      refine (HU1.out _ sO.out).mono ?_
      rintro e w2 ⟨rfl, hb⟩
      have HB2 := hid (bel HB1.out hb)
      have xY := hid (sO.out.below hb)
      clear hb
      go_wp2_with fail
      refine (HRF.out _ xY.out).mono ?_
      rintro e w3 ⟨rfl, hb⟩
      have HB3 := hid (bel HB2.out hb)
      have vV := hid (xY.out.below hb)
      clear hb
      go_wp2_with fail
      refine (yc.out _ vV.out).mono ?_
      rintro e w4 ⟨rfl, hb⟩
      have HB4 := hid (bel HB3.out hb)
      have Hw := hid (vV.out.below hb)
      clear hb
      have qs := HQ.out
      go_wp2
      go_ret
      exact ⟨rfl, HB4.out⟩
  · have hli : (600 : Int) < (s0.size : Int) := by omega
    clear hl
    go_enter Tryz.func10, Tryz.ntmps10
    go_wp2_with fail
    refine (JM.out _ HE.out).mono ?_
    rintro e w1 ⟨rfl, hb⟩
    have HB1 := hid hb
    have sO := hid (HE.out.below hb)
    clear hb
    go_wp2_with fail
    refine (JM.out _ sO.out).mono ?_
    rintro e w2 ⟨rfl, hb⟩
    have HB2 := hid (bel HB1.out hb)
    have xY := hid (sO.out.below hb)
    clear hb
    go_wp2
    go_ret
    exact ⟨rfl, HB2.out⟩
end Go.Proofs.YtmpeaoacaecgpaaGreatDoor.Laws
