/- The walks of the laws of layer 2: each returns true, whatever it is called with. -/
import Derived.Test.YtllkkcolnjbjhaaEscF
import Derived.Test.YtllkkcolnjbjhaaEscW
import Derived.Test.YtllkkcolnjbjhaaEscJ
import Derived.Test.YtllkkcolnjbjhaaEscK
import Derived.Test.YtllkkcolnjbjhaaEscM
namespace Go.Proofs.Ytllkkcolnjbjhaa.Laws
open Go.RowKit Go.Proofs.Ytllkkcolnjbjhaa.Base Go.Proofs.Ytllkkcolnjbjhaa.Base2 Go.Proofs.Ytllkkcolnjbjhaa.EscI

theorem refIn_any (k : Int) (c : Int) (w : World) : Calls Try.prog 14 #[.int .i64 k, .int .u8 c] w fun e w' => e = .returned (.bool (inS k c)) ∧ w = w' := by
  by_cases ho : k < 0 ∨ 6 < k
  · exact ref_out k c w ho
  · by_cases hf : c < 32 ∨ 126 < c
    · exact ref_far k c w (by omega) (by omega) hf
    · have hcase : k = 0 ∨ k = 1 ∨ k = 2 ∨ k = 3 ∨ k = 4 ∨ k = 5 ∨ k = 6 := by omega
      rcases hcase with rfl | rfl | rfl | rfl | rfl | rfl | rfl
      · exact ref_0 c w (by omega) (by omega)
      · exact ref_1 c w (by omega) (by omega)
      · exact ref_2 c w (by omega) (by omega)
      · exact ref_3 c w (by omega) (by omega)
      · exact ref_4 c w (by omega) (by omega)
      · exact ref_5 c w (by omega) (by omega)
      · exact ref_6 c w (by omega) (by omega)

theorem EscapeSets_any (k c : Int) (w : World) (_hk : -9223372036854775808 ≤ k ∧ k ≤ 9223372036854775807) (hc : 0 ≤ c ∧ c ≤ 255) :
    Calls Try.prog 3 #[.int .i64 k, .int .u8 c] w fun e w' => e = .returned (.bool true) ∧ Below w.heap.size w w' := by
  obtain ⟨x, hx⟩ : ∃ x : UInt8, (x.toNat : Int) = c := ⟨UInt8.ofNat c.toNat, by simp; omega⟩
  subst hx
  clear _hk hc
  go_enter Try.func3, Try.ntmps3
  go_wp2_with fail
  refine (EscW.awake_any _).mono ?_
  rintro e w1 ⟨rfl, hb1⟩
  go_wp2_with fail
  refine (in_any _ _ _).mono ?_
  rintro e w2 ⟨rfl, rfl⟩
  go_wp2_with fail
  refine (refIn_any _ _ _).mono ?_
  rintro e w2 ⟨rfl, rfl⟩
  go_wp2_with fail
  go_ret
  exact ⟨rfl, hb1⟩
set_option maxHeartbeats 4000000 in
set_option maxRecDepth 100000 in
theorem EscapeBytes_any (k : Int) (A : Option Addr) (n cap : Nat) (L : List UInt8) (w : World) (_hk : -9223372036854775808 ≤ k ∧ k ≤ 9223372036854775807) (hr : Rds w A n (bcells L)) (hc : n ≤ cap) (hm : cap ≤ maxLen) :
    Calls Try.prog 4 #[.int .i64 k, .slice A n cap] w fun e w' => e = .returned (.bool true) ∧ Below w.heap.size w w' := by
  clear _hk
  by_cases h1 : n ≤ 1000
  · have h1' : ¬ (1000 : Int) < (n : Int) := by omega
    have hl : L.length = n := by rw [← length_bcells]; exact hr.1
    have HL := hid hl
    have HR := hid hr
    clear hl hr hm
    go_enter Try.func4, Try.ntmps4
    go_wp2_with fail
    refine (EscW.awake_any _).mono ?_
    rintro e w1 ⟨rfl, hb1⟩
    have hsz : (strOf L).size ≤ 1073741824 := by rw [size_strOf, HL.out]; omega
    have HSZ := hid hsz
    clear hsz
    have hr1 : Rds w1 A n (bcells L) := HR.out.below hb1
    have hs1 := run_string_of 24 9 5 Try.underlying24 Try.underlying5 Try.underlying9 _ cap hr1
    have hs1' := run_string_of 24 9 5 Try.underlying24 Try.underlying5 Try.underlying9 _ cap (Rds_drew hr1)
    clear HR HL
    have CE : ∀ w', Calls Try.prog 16 #[.int .i64 k, .string (strOf L)] w' fun e w'' => e = .returned (.string (strOf (EscE.enc k L))) ∧ Below w'.heap.size w' w'' := fun w' => EscR.ref_encode k (strOf L) w' HSZ.out (fun c w => refIn_any k (c.toNat : Int) w)
    have CD : ∀ w', Calls Try.prog 17 #[.string (strOf L)] w' fun e w'' => ∃ v, e = .returned v ∧ w''.ownsRow w'.heap.size 5 1 v (EscD.dec L).length (bcells (EscD.dec L)) ∧ Below w'.heap.size w' w'' := fun w' => EscD.decode_any (strOf L) w' HSZ.out
    have CR : ∀ w', Calls Try.prog 18 #[.string (strOf L)] w' fun e w'' => e = .returned (.string (strOf (EscD.dec L))) ∧ Below w'.heap.size w' w'' := fun w' => EscF.decode_ref (strOf L) w' HSZ.out
    have HCE := hid CE
    have HCD := hid CD
    have HCR := hid CR
    clear CE CD CR HSZ
    go_wp2
    go_region_with (first
      | (go_at_call 15; refine (EscE.encode_any k _ _ _ L _ (by first | assumption | exact Rds_drew (by assumption)) (by omega)).mono ?_; rintro e w2 ⟨rfl, hb2⟩; have hbel2 : Below w.heap.size w w2 := (by first | exact bel (by assumption) hb2 | exact bel_drew (by assumption) hb2); have hr2 : Rds w2 A n (bcells L) := (by first | exact Rds.below (by assumption) hb2 | exact rds_drew_below (by assumption) hb2); have hs2 := run_string_of 24 9 5 Try.underlying24 Try.underlying5 Try.underlying9 _ cap hr2; have hs2' := run_string_of 24 9 5 Try.underlying24 Try.underlying5 Try.underlying9 _ cap (Rds_drew hr2))
      | (go_at_call 16; refine (HCE.out _).mono ?_; rintro e w3 ⟨rfl, hb3⟩; have hbel3 : Below w.heap.size w w3 := (by first | exact bel (by assumption) hb3 | exact bel_drew (by assumption) hb3); have hr3 : Rds w3 A n (bcells L) := (by first | exact Rds.below (by assumption) hb3 | exact rds_drew_below (by assumption) hb3); have hs3 := run_string_of 24 9 5 Try.underlying24 Try.underlying5 Try.underlying9 _ cap hr3; have hs3' := run_string_of 24 9 5 Try.underlying24 Try.underlying5 Try.underlying9 _ cap (Rds_drew hr3))
      | (go_at_call 17; refine (HCD.out _).mono ?_; rintro e w4 ⟨v, rfl, hown, hb4⟩; obtain ⟨A', c', rfl, _, _, hrd⟩ := owns_form hown; have hbel4 : Below w.heap.size w w4 := (by first | exact bel (by assumption) hb4 | exact bel_drew (by assumption) hb4); have hr4 : Rds w4 A n (bcells L) := (by first | exact Rds.below (by assumption) hb4 | exact rds_drew_below (by assumption) hb4); have hs4 := run_string_of 24 9 5 Try.underlying24 Try.underlying5 Try.underlying9 _ cap hr4; have hs4' := run_string_of 24 9 5 Try.underlying24 Try.underlying5 Try.underlying9 _ cap (Rds_drew hr4); have hd4 := run_string_of 24 9 5 Try.underlying24 Try.underlying5 Try.underlying9 _ c' hrd; have hd4' := run_string_of 24 9 5 Try.underlying24 Try.underlying5 Try.underlying9 _ c' (Rds_drew hrd); clear hown)
      | (go_at_call 18; refine (HCR.out _).mono ?_; rintro e w5 ⟨rfl, hb5⟩; have hbel5 : Below w.heap.size w w5 := (by first | exact bel (by assumption) hb5 | exact bel_drew (by assumption) hb5); have hrd5 : Rds w5 A' (EscD.dec L).length (bcells (EscD.dec L)) := (by first | exact Rds.below (by assumption) hb5 | exact rds_drew_below (by assumption) hb5); have hd5 := run_string_of 24 9 5 Try.underlying24 Try.underlying5 Try.underlying9 _ c' hrd5; have hd5' := run_string_of 24 9 5 Try.underlying24 Try.underlying5 Try.underlying9 _ c' (Rds_drew hrd5)))
    all_goals
      go_wp2
      go_ret
      exact ⟨rfl, by first | assumption | exact Below.drew (by assumption)⟩
  · have h1' : (1000 : Int) < (n : Int) := by omega
    clear hr hm
    go_enter Try.func4, Try.ntmps4
    go_wp2_with fail
    refine (EscW.awake_any _).mono ?_
    rintro e w1 ⟨rfl, hb1⟩
    go_wp2_with fail
    refine (EscW.awake_any _).mono ?_
    rintro e w2 ⟨rfl, hb2⟩
    go_wp2_with fail
    go_ret
    exact ⟨rfl, hb1.trans (hb2.mono hb1.size)⟩
end Go.Proofs.Ytllkkcolnjbjhaa.Laws
