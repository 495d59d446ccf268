/- Sorts: awake. -/
import Derived.Test.YtaooiggckcfanaaGreatDoorSrtA
import Derived.Test.YtaooiggckcfanaaGreatDoorKL
namespace Go.Proofs.YtaooiggckcfanaaGreatDoor.SrtW
open Go.RowKit Go.Proofs.YtaooiggckcfanaaGreatDoor.Base Go.Proofs.YtaooiggckcfanaaGreatDoor.Base2 Go.Proofs.YtaooiggckcfanaaGreatDoor.SixG Go.Proofs.YtaooiggckcfanaaGreatDoor.Spl Go.Proofs.YtaooiggckcfanaaGreatDoor.PrsP Go.Proofs.YtaooiggckcfanaaGreatDoor.Ubx Go.Proofs.YtaooiggckcfanaaGreatDoor.PrsC Go.Proofs.YtaooiggckcfanaaGreatDoor.PrsD Go.Proofs.YtaooiggckcfanaaGreatDoor.PrsG Go.Proofs.YtaooiggckcfanaaGreatDoor.PrsR Go.Proofs.YtaooiggckcfanaaGreatDoor.SrtA

/-- about:blank?x#y -/
def TXT : List UInt8 := [97, 98, 111, 117, 116, 58, 98, 108, 97, 110, 107, 63, 120, 35, 121]
theorem demo : (PrsP.url TXT none).map (fun u => (sortOf u, u.sch)) = some (3, [97, 98, 111, 117, 116]) := by decide +kernel
set_option linter.unusedSimpArgs false in
set_option maxRecDepth 100000 in
set_option maxHeartbeats 4000000 in
theorem awake_any (w : World) (hT : Tab.Pow w) (hL : Lad w) (hM : Max w) (hU : Utab w) : Calls Tryz.prog 29 #[] w fun e w' => e = .returned (.bool true) ∧ Below w.heap.size w w' := by
  have hP := parseN_any TXT w (by decide) hL hT hM hU
  obtain ⟨u, hu, hso⟩ : ∃ u, PrsP.url TXT none = some u ∧ sortOf u = 3 := by
    have h := demo
    cases e : PrsP.url TXT none with
    | none => rw [e] at h; cases h
    | some u => rw [e] at h; exact ⟨u, rfl, by simpa using congrArg (fun x => (x.getD (0, [])).1) h⟩
  rw [hu] at hP
  have HP := hid hP
  have HOF : Hid (∀ (A : Option Addr) (n c : Nat) (w : World), Calls Tryz.prog 31 #[.agg (cells u (.slice A n c))] w fun e w' => e = .returned (.int .i64 3) ∧ Below w.heap.size w w') := fun A n c w => by rw [← hso]; exact of_any u A n c w
  have HNA : Hid (∀ w : World, Calls Tryz.prog 33 #[.int .i64 2] w fun e w' => e = .returned (.string (strOf [102, 105, 108, 101])) ∧ w' = w) := fun w => name_any 2 w
  have q1 : (strOf [102, 105, 108, 101]).toList = [102, 105, 108, 101] := str_tl _
  clear hP hu hso hT hL hM hU
  go_enter Tryz.func29, Tryz.ntmps29
  go_wp2_with fail
  refine HP.out.mono ?_
  rintro e w1 ⟨hb1, A, n, c, rfl, hown⟩
  have HB1 := hid hb1
  clear hb1 hown
  rw [show Value.agg (cells ((some u).getD U0) (.slice A n c)) = .agg #[.string (strOf u.sch), .string (strOf u.usr), .string (strOf u.pwd), .string (strOf u.hst), .bool u.hh, .int .i64 u.port, .bool u.opq, .string (strOf u.txt), .slice A n c, .bool u.hq, .bool u.hf, .string (strOf u.qry), .string (strOf u.frg)] from rfl, show (if (some u).isSome = true then (0 : Int) else 2) = 0 from rfl]
  go_upto_region 2 with (fail)
  generalize hw : World.alloc w1 _ = w2
  have h1 : UB w2 w1.heap.size u (.slice A n c) ∧ Below w1.heap.size w1 w2 := by
    subst hw
    exact laid1 w1 _ _
  clear hw
  have HB2 := hid (bel HB1.out h1.2)
  obtain ⟨d0, d1, d2, d3, d4, d5, d6, d7, d8, d9, d10, d11, d12⟩ := h1.1.facts
  clear h1
  go_wp2_with fail
  clear d0 d1 d2 d3 d4 d5 d6 d7 d8 d9 d10 d11 d12
  refine (HOF.out _ _ _ _).mono ?_
  rintro e w3 ⟨rfl, hb3⟩
  have HB3 := hid (bel HB2.out hb3)
  clear hb3
  go_wp2_with fail
  refine (HNA.out _).mono ?_
  rintro e w4 ⟨rfl, hw4⟩
  subst hw4
  go_wp2
  go_ret
  exact ⟨rfl, HB3.out⟩
end Go.Proofs.YtaooiggckcfanaaGreatDoor.SrtW
