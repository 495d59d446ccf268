/- Texts that belong together: SrtA, SrtW, SrtR. -/
import Derived.Test.YtaooiggckcfanaaGreatDoorMI
import Derived.Test.YtaooiggckcfanaaGreatDoorML
import Derived.BigQuiet
set_option linter.unusedSimpArgs false
set_option linter.unusedVariables false
namespace Go.Proofs.YtaooiggckcfanaaGreatDoor.SrtA
open Go.RowKit Base Base2 PrsP Ubx PrsC PrsD
def aboutOf (o : Bool) (t : List UInt8) : Int := if o = true ∧ t = [98, 108, 97, 110, 107] then 3 else if o = true ∧ t = [115, 114, 99, 100, 111, 99] then 4 else 5
def sortOf (u : U) : Int := if u.sch = [100, 97, 116, 97] then 0 else if u.sch = [98, 108, 111, 98] then 1 else if u.sch = [102, 105, 108, 101] then 2 else if u.sch = [97, 98, 111, 117, 116] then aboutOf u.opq u.txt else if u.sch = [106, 97, 118, 97, 115, 99, 114, 105, 112, 116] then 6 else 7
def nameOf (z : Int) : List UInt8 := if z = 0 then [100, 97, 116, 97] else if z = 1 then [98, 108, 111, 98] else if z = 2 then [102, 105, 108, 101] else if z = 3 then [97, 98, 111, 117, 116, 45, 98, 108, 97, 110, 107] else if z = 4 then [97, 98, 111, 117, 116, 45, 115, 114, 99, 100, 111, 99] else if z = 5 then [97, 98, 111, 117, 116] else if z = 6 then [106, 97, 118, 97, 115, 99, 114, 105, 112, 116] else if z = 7 then [117, 110, 115, 117, 112, 112, 111, 114, 116, 101, 100] else []
set_option maxRecDepth 100000 in
set_option maxHeartbeats 4000000 in
theorem about_any (u : U) (A : Option Addr) (n c : Nat) (w : World) : Calls Tryz.prog 60 #[.agg (cells u (.slice A n c))] w fun e w' => e = .returned (.int .i64 (aboutOf u.opq u.txt)) ∧ Below w.heap.size w w' := by
 obtain ⟨z, hz⟩ : ∃ z, z = aboutOf u.opq u.txt := ⟨_, rfl⟩
 rw [← hz]
 have HZ := hid hz
 clear hz
 cases ho : u.opq with
 | false =>
  have HE : Hid (z = 5) := by show _ = _; rw [HZ.out]; unfold aboutOf; simp [ho]
  go_enter Tryz.func60, Tryz.ntmps60
  go_upto_region 1 with (fail)
  generalize hw : World.alloc w _ = w1
  have h1 : UB w1 w.heap.size u (.slice A n c) ∧ Below w.heap.size w w1 := by
   subst hw
   exact laid1 w _ _
  clear hw
  obtain ⟨d0, d1, d2, d3, d4, d5, d6, d7, d8, d9, d10, d11, d12⟩ := h1.1.facts
  have HB := hid h1.2
  clear h1
  rw [ho] at d6
  clear ho
  go_wp2
  go_ret
  exact ⟨by rw [HE.out]; first | done | rfl, HB.out⟩
 | true =>
  by_cases h0 : u.txt = [98, 108, 97, 110, 107]
  ·
   have e0h0 : ((strOf u.txt).toList == [98, 108, 97, 110, 107]) = true := by rw [str_tl, h0]; first | done | rfl
   have e1h0 : (strOf u.txt).toList = [98, 108, 97, 110, 107] := by rw [str_tl, h0]; first | done | rfl
   have HE : Hid (z = 3) := by show _ = _; rw [HZ.out]; unfold aboutOf; simp [ho, h0]
   clear h0
   go_enter Tryz.func60, Tryz.ntmps60
   go_upto_region 1 with (fail)
   generalize hw : World.alloc w _ = w1
   have h1 : UB w1 w.heap.size u (.slice A n c) ∧ Below w.heap.size w w1 := by
    subst hw
    exact laid1 w _ _
   clear hw
   obtain ⟨d0, d1, d2, d3, d4, d5, d6, d7, d8, d9, d10, d11, d12⟩ := h1.1.facts
   have HB := hid h1.2
   clear h1
   rw [ho] at d6
   clear ho
   go_wp2
   go_ret
   exact ⟨by rw [HE.out]; first | done | rfl, HB.out⟩
  ·
   have e0h0 : ((strOf u.txt).toList == [98, 108, 97, 110, 107]) = false := by rw [str_tl, beq_eq_false_iff_ne]; exact h0
   have e1h0 : ¬ (strOf u.txt).toList = [98, 108, 97, 110, 107] := by rw [str_tl]; exact h0
   by_cases h1 : u.txt = [115, 114, 99, 100, 111, 99]
   ·
    have e0h1 : ((strOf u.txt).toList == [115, 114, 99, 100, 111, 99]) = true := by rw [str_tl, h1]; first | done | rfl
    have e1h1 : (strOf u.txt).toList = [115, 114, 99, 100, 111, 99] := by rw [str_tl, h1]; first | done | rfl
    have HE : Hid (z = 4) := by show _ = _; rw [HZ.out]; unfold aboutOf; simp [ho, h1]
    clear h0 h1
    go_enter Tryz.func60, Tryz.ntmps60
    go_upto_region 1 with (fail)
    generalize hw : World.alloc w _ = w1
    have h1 : UB w1 w.heap.size u (.slice A n c) ∧ Below w.heap.size w w1 := by
     subst hw
     exact laid1 w _ _
    clear hw
    obtain ⟨d0, d1, d2, d3, d4, d5, d6, d7, d8, d9, d10, d11, d12⟩ := h1.1.facts
    have HB := hid h1.2
    clear h1
    rw [ho] at d6
    clear ho
    go_wp2
    go_ret
    exact ⟨by rw [HE.out]; first | done | rfl, HB.out⟩
   ·
    have e0h1 : ((strOf u.txt).toList == [115, 114, 99, 100, 111, 99]) = false := by rw [str_tl, beq_eq_false_iff_ne]; exact h1
    have e1h1 : ¬ (strOf u.txt).toList = [115, 114, 99, 100, 111, 99] := by rw [str_tl]; exact h1
    have HE : Hid (z = 5) := by show _ = _; rw [HZ.out]; unfold aboutOf; simp [ho, h0, h1]
    clear h0 h1
    go_enter Tryz.func60, Tryz.ntmps60
    go_upto_region 1 with (fail)
    generalize hw : World.alloc w _ = w1
    have h1 : UB w1 w.heap.size u (.slice A n c) ∧ Below w.heap.size w w1 := by
     subst hw
     exact laid1 w _ _
    clear hw
    obtain ⟨d0, d1, d2, d3, d4, d5, d6, d7, d8, d9, d10, d11, d12⟩ := h1.1.facts
    have HB := hid h1.2
    clear h1
    rw [ho] at d6
    clear ho
    go_wp2
    go_ret
    exact ⟨by rw [HE.out]; first | done | rfl, HB.out⟩
set_option maxRecDepth 100000 in
set_option maxHeartbeats 4000000 in
theorem of_any (u : U) (A : Option Addr) (n c : Nat) (w : World) : Calls Tryz.prog 31 #[.agg (cells u (.slice A n c))] w fun e w' => e = .returned (.int .i64 (sortOf u)) ∧ Below w.heap.size w w' := by
 have HAB := hid (fun w => about_any u A n c w)
 obtain ⟨z, hz⟩ : ∃ z, z = sortOf u := ⟨_, rfl⟩
 rw [← hz]
 have HZ := hid hz
 clear hz
 by_cases h0 : u.sch = [100, 97, 116, 97]
 ·
  have e0h0 : ((strOf u.sch).toList == [100, 97, 116, 97]) = true := by rw [str_tl, h0]; first | done | rfl
  have e1h0 : (strOf u.sch).toList = [100, 97, 116, 97] := by rw [str_tl, h0]; first | done | rfl
  have HE : Hid (z = 0) := by show _ = _; rw [HZ.out]; unfold sortOf; simp [h0]
  clear h0
  go_enter Tryz.func31, Tryz.ntmps31
  go_upto_region 1 with (fail)
  generalize hw : World.alloc w _ = w1
  have h1 : UB w1 w.heap.size u (.slice A n c) ∧ Below w.heap.size w w1 := by
   subst hw
   exact laid1 w _ _
  clear hw
  obtain ⟨d0, d1, d2, d3, d4, d5, d6, d7, d8, d9, d10, d11, d12⟩ := h1.1.facts
  have HB := hid h1.2
  clear h1
  go_wp2
  go_ret
  exact ⟨by rw [HE.out]; first | done | rfl, HB.out⟩
 ·
  have e0h0 : ((strOf u.sch).toList == [100, 97, 116, 97]) = false := by rw [str_tl, beq_eq_false_iff_ne]; exact h0
  have e1h0 : ¬ (strOf u.sch).toList = [100, 97, 116, 97] := by rw [str_tl]; exact h0
  by_cases h1 : u.sch = [98, 108, 111, 98]
  ·
   have e0h1 : ((strOf u.sch).toList == [98, 108, 111, 98]) = true := by rw [str_tl, h1]; first | done | rfl
   have e1h1 : (strOf u.sch).toList = [98, 108, 111, 98] := by rw [str_tl, h1]; first | done | rfl
   have HE : Hid (z = 1) := by show _ = _; rw [HZ.out]; unfold sortOf; simp [h0, h1]
   clear h0 h1
   go_enter Tryz.func31, Tryz.ntmps31
   go_upto_region 1 with (fail)
   generalize hw : World.alloc w _ = w1
   have h1 : UB w1 w.heap.size u (.slice A n c) ∧ Below w.heap.size w w1 := by
    subst hw
    exact laid1 w _ _
   clear hw
   obtain ⟨d0, d1, d2, d3, d4, d5, d6, d7, d8, d9, d10, d11, d12⟩ := h1.1.facts
   have HB := hid h1.2
   clear h1
   go_wp2
   go_ret
   exact ⟨by rw [HE.out]; first | done | rfl, HB.out⟩
  ·
   have e0h1 : ((strOf u.sch).toList == [98, 108, 111, 98]) = false := by rw [str_tl, beq_eq_false_iff_ne]; exact h1
   have e1h1 : ¬ (strOf u.sch).toList = [98, 108, 111, 98] := by rw [str_tl]; exact h1
   by_cases h2 : u.sch = [102, 105, 108, 101]
   ·
    have e0h2 : ((strOf u.sch).toList == [102, 105, 108, 101]) = true := by rw [str_tl, h2]; first | done | rfl
    have e1h2 : (strOf u.sch).toList = [102, 105, 108, 101] := by rw [str_tl, h2]; first | done | rfl
    have HE : Hid (z = 2) := by show _ = _; rw [HZ.out]; unfold sortOf; simp [h0, h1, h2]
    clear h0 h1 h2
    go_enter Tryz.func31, Tryz.ntmps31
    go_upto_region 1 with (fail)
    generalize hw : World.alloc w _ = w1
    have h1 : UB w1 w.heap.size u (.slice A n c) ∧ Below w.heap.size w w1 := by
     subst hw
     exact laid1 w _ _
    clear hw
    obtain ⟨d0, d1, d2, d3, d4, d5, d6, d7, d8, d9, d10, d11, d12⟩ := h1.1.facts
    have HB := hid h1.2
    clear h1
    go_wp2
    go_ret
    exact ⟨by rw [HE.out]; first | done | rfl, HB.out⟩
   ·
    have e0h2 : ((strOf u.sch).toList == [102, 105, 108, 101]) = false := by rw [str_tl, beq_eq_false_iff_ne]; exact h2
    have e1h2 : ¬ (strOf u.sch).toList = [102, 105, 108, 101] := by rw [str_tl]; exact h2
    by_cases h3 : u.sch = [97, 98, 111, 117, 116]
    ·
     have e0h3 : ((strOf u.sch).toList == [97, 98, 111, 117, 116]) = true := by rw [str_tl, h3]; first | done | rfl
     have e1h3 : (strOf u.sch).toList = [97, 98, 111, 117, 116] := by rw [str_tl, h3]; first | done | rfl
     have HE : Hid (z = aboutOf u.opq u.txt) := by show _ = _; rw [HZ.out]; unfold sortOf; simp [h0, h1, h2, h3]
     clear h0 h1 h2 h3
     go_enter Tryz.func31, Tryz.ntmps31
     go_upto_region 1 with (fail)
     generalize hw : World.alloc w _ = w1
     have h1 : UB w1 w.heap.size u (.slice A n c) ∧ Below w.heap.size w w1 := by
      subst hw
      exact laid1 w _ _
     clear hw
     obtain ⟨d0, d1, d2, d3, d4, d5, d6, d7, d8, d9, d10, d11, d12⟩ := h1.1.facts
     have HB := hid h1.2
     clear h1
     go_wp2_with fail
     clear d0 d1 d2 d3 d4 d5 d6 d7 d8 d9 d10 d11 d12
     refine (HAB.out _).mono ?_
     rintro e w2 ⟨rfl, hb2⟩
     have HB2 := hid (bel HB.out hb2)
     clear hb2
     go_wp2
     go_ret
     exact ⟨by rw [HE.out]; first | done | rfl, HB2.out⟩
    ·
     have e0h3 : ((strOf u.sch).toList == [97, 98, 111, 117, 116]) = false := by rw [str_tl, beq_eq_false_iff_ne]; exact h3
     have e1h3 : ¬ (strOf u.sch).toList = [97, 98, 111, 117, 116] := by rw [str_tl]; exact h3
     by_cases h4 : u.sch = [106, 97, 118, 97, 115, 99, 114, 105, 112, 116]
     ·
      have e0h4 : ((strOf u.sch).toList == [106, 97, 118, 97, 115, 99, 114, 105, 112, 116]) = true := by rw [str_tl, h4]; first | done | rfl
      have e1h4 : (strOf u.sch).toList = [106, 97, 118, 97, 115, 99, 114, 105, 112, 116] := by rw [str_tl, h4]; first | done | rfl
      have HE : Hid (z = 6) := by show _ = _; rw [HZ.out]; unfold sortOf; simp [h0, h1, h2, h3, h4]
      clear h0 h1 h2 h3 h4
      go_enter Tryz.func31, Tryz.ntmps31
      go_upto_region 1 with (fail)
      generalize hw : World.alloc w _ = w1
      have h1 : UB w1 w.heap.size u (.slice A n c) ∧ Below w.heap.size w w1 := by
       subst hw
       exact laid1 w _ _
      clear hw
      obtain ⟨d0, d1, d2, d3, d4, d5, d6, d7, d8, d9, d10, d11, d12⟩ := h1.1.facts
      have HB := hid h1.2
      clear h1
      go_wp2
      go_ret
      exact ⟨by rw [HE.out]; first | done | rfl, HB.out⟩
     ·
      have e0h4 : ((strOf u.sch).toList == [106, 97, 118, 97, 115, 99, 114, 105, 112, 116]) = false := by rw [str_tl, beq_eq_false_iff_ne]; exact h4
      have e1h4 : ¬ (strOf u.sch).toList = [106, 97, 118, 97, 115, 99, 114, 105, 112, 116] := by rw [str_tl]; exact h4
      have HE : Hid (z = 7) := by show _ = _; rw [HZ.out]; unfold sortOf; simp [h0, h1, h2, h3, h4]
      clear h0 h1 h2 h3 h4
      go_enter Tryz.func31, Tryz.ntmps31
      go_upto_region 1 with (fail)
      generalize hw : World.alloc w _ = w1
      have h1 : UB w1 w.heap.size u (.slice A n c) ∧ Below w.heap.size w w1 := by
       subst hw
       exact laid1 w _ _
      clear hw
      obtain ⟨d0, d1, d2, d3, d4, d5, d6, d7, d8, d9, d10, d11, d12⟩ := h1.1.facts
      have HB := hid h1.2
      clear h1
      go_wp2
      go_ret
      exact ⟨by rw [HE.out]; first | done | rfl, HB.out⟩
set_option maxRecDepth 100000 in
set_option maxHeartbeats 4000000 in
theorem name_any (z : Int) (w : World) : Calls Tryz.prog 33 #[.int .i64 z] w fun e w' => e = .returned (.string (strOf (nameOf z))) ∧ w' = w := by
 obtain ⟨v, hv⟩ : ∃ v, v = nameOf z := ⟨_, rfl⟩
 rw [← hv]
 have HV := hid hv
 clear hv
 by_cases h0 : z = 0
 ·subst h0
  have HE : Hid (v = [100, 97, 116, 97]) := by show _ = _; rw [HV.out]; rfl
  go_enter Tryz.func33, Tryz.ntmps33
  go_wp2
  go_ret
  exact ⟨by rw [HE.out]; first | done | rfl, rfl⟩
 have q0 : (z == 0) = false := beq_eq_false_iff_ne.2 h0
 by_cases h1 : z = 1
 ·subst h1
  have HE : Hid (v = [98, 108, 111, 98]) := by show _ = _; rw [HV.out]; rfl
  go_enter Tryz.func33, Tryz.ntmps33
  go_wp2
  go_ret
  exact ⟨by rw [HE.out]; first | done | rfl, rfl⟩
 have q1 : (z == 1) = false := beq_eq_false_iff_ne.2 h1
 by_cases h2 : z = 2
 ·subst h2
  have HE : Hid (v = [102, 105, 108, 101]) := by show _ = _; rw [HV.out]; rfl
  go_enter Tryz.func33, Tryz.ntmps33
  go_wp2
  go_ret
  exact ⟨by rw [HE.out]; first | done | rfl, rfl⟩
 have q2 : (z == 2) = false := beq_eq_false_iff_ne.2 h2
 by_cases h3 : z = 3
 ·subst h3
  have HE : Hid (v = [97, 98, 111, 117, 116, 45, 98, 108, 97, 110, 107]) := by show _ = _; rw [HV.out]; rfl
  go_enter Tryz.func33, Tryz.ntmps33
  go_wp2
  go_ret
  exact ⟨by rw [HE.out]; first | done | rfl, rfl⟩
 have q3 : (z == 3) = false := beq_eq_false_iff_ne.2 h3
 by_cases h4 : z = 4
 ·subst h4
  have HE : Hid (v = [97, 98, 111, 117, 116, 45, 115, 114, 99, 100, 111, 99]) := by show _ = _; rw [HV.out]; rfl
  go_enter Tryz.func33, Tryz.ntmps33
  go_wp2
  go_ret
  exact ⟨by rw [HE.out]; first | done | rfl, rfl⟩
 have q4 : (z == 4) = false := beq_eq_false_iff_ne.2 h4
 by_cases h5 : z = 5
 ·subst h5
  have HE : Hid (v = [97, 98, 111, 117, 116]) := by show _ = _; rw [HV.out]; rfl
  go_enter Tryz.func33, Tryz.ntmps33
  go_wp2
  go_ret
  exact ⟨by rw [HE.out]; first | done | rfl, rfl⟩
 have q5 : (z == 5) = false := beq_eq_false_iff_ne.2 h5
 by_cases h6 : z = 6
 ·subst h6
  have HE : Hid (v = [106, 97, 118, 97, 115, 99, 114, 105, 112, 116]) := by show _ = _; rw [HV.out]; rfl
  go_enter Tryz.func33, Tryz.ntmps33
  go_wp2
  go_ret
  exact ⟨by rw [HE.out]; first | done | rfl, rfl⟩
 have q6 : (z == 6) = false := beq_eq_false_iff_ne.2 h6
 by_cases h7 : z = 7
 ·subst h7
  have HE : Hid (v = [117, 110, 115, 117, 112, 112, 111, 114, 116, 101, 100]) := by show _ = _; rw [HV.out]; rfl
  go_enter Tryz.func33, Tryz.ntmps33
  go_wp2
  go_ret
  exact ⟨by rw [HE.out]; first | done | rfl, rfl⟩
 have q7 : (z == 7) = false := beq_eq_false_iff_ne.2 h7
 have HE : Hid (v = []) := by show _ = _; rw [HV.out]; unfold nameOf; simp [h0, h1, h2, h3, h4, h5, h6, h7]
 go_enter Tryz.func33, Tryz.ntmps33
 go_wp2
 go_ret
 exact ⟨by rw [HE.out]; first | done | rfl, rfl⟩
end Go.Proofs.YtaooiggckcfanaaGreatDoor.SrtA
namespace Go.Proofs.YtaooiggckcfanaaGreatDoor.SrtW
open Go.RowKit Base Base2 SixG Spl PrsP Ubx PrsC PrsD PrsG PrsR SrtA
def TXT : List UInt8 := [97, 98, 111, 117, 116, 58, 98, 108, 97, 110, 107, 63, 120, 35, 121]
theorem demo : (PrsP.url TXT none).map (fun u => (sortOf u, u.sch)) = some (3, [97, 98, 111, 117, 116]) := by decide +kernel
set_option maxRecDepth 100000 in
set_option maxHeartbeats 4000000 in
theorem awake_any (w : World) (hT : Tab.Pow w) (hL : Lad w) (hM : Max w) (hU : Utab w) : Calls Tryz.prog 29 #[] w fun e w' => e = .returned (.bool true) ∧ Below w.heap.size w w' := by
 have hP := parseN_any TXT w (by decide) hL hT hM hU
 obtain ⟨u, hu, hso⟩ : ∃ u, PrsP.url TXT none = some u ∧ sortOf u = 3 := by
  have h := demo
  cases e : PrsP.url TXT none with
  | none => rw [e] at h; cases h
  | some u => rw [e] at h; exact ⟨u, rfl, by simpa using congrArg (fun x => (x.getD (0, [])).1) h⟩
 rw [hu] at hP
 have HP := hid hP
 have HOF : Hid (∀ (A : Option Addr) (n c : Nat) (w : World), Calls Tryz.prog 31 #[.agg (cells u (.slice A n c))] w fun e w' => e = .returned (.int .i64 3) ∧ Below w.heap.size w w') := fun A n c w => by rw [← hso]; exact of_any u A n c w
 have HNA : Hid (∀ w : World, Calls Tryz.prog 33 #[.int .i64 2] w fun e w' => e = .returned (.string (strOf [102, 105, 108, 101])) ∧ w' = w) := fun w => name_any 2 w
 have q1 : (strOf [102, 105, 108, 101]).toList = [102, 105, 108, 101] := str_tl _
 clear hP hu hso hT hL hM hU
 go_enter Tryz.func29, Tryz.ntmps29
 go_wp2_with fail
 refine HP.out.mono ?_
 rintro e w1 ⟨hb1, A, n, c, rfl, hown⟩
 have HB1 := hid hb1
 clear hb1 hown
 rw [show Value.agg (cells ((some u).getD U0) (.slice A n c)) = .agg #[.string (strOf u.sch), .string (strOf u.usr), .string (strOf u.pwd), .string (strOf u.hst), .bool u.hh, .int .i64 u.port, .bool u.opq, .string (strOf u.txt), .slice A n c, .bool u.hq, .bool u.hf, .string (strOf u.qry), .string (strOf u.frg)] from rfl, show (if (some u).isSome = true then (0 : Int) else 2) = 0 from rfl]
 go_upto_region 2 with (fail)
 generalize hw : World.alloc w1 _ = w2
 have h1 : UB w2 w1.heap.size u (.slice A n c) ∧ Below w1.heap.size w1 w2 := by
  subst hw
  exact laid1 w1 _ _
 clear hw
 have HB2 := hid (bel HB1.out h1.2)
 obtain ⟨d0, d1, d2, d3, d4, d5, d6, d7, d8, d9, d10, d11, d12⟩ := h1.1.facts
 clear h1
 go_wp2_with fail
 clear d0 d1 d2 d3 d4 d5 d6 d7 d8 d9 d10 d11 d12
 refine (HOF.out _ _ _ _).mono ?_
 rintro e w3 ⟨rfl, hb3⟩
 have HB3 := hid (bel HB2.out hb3)
 clear hb3
 go_wp2_with fail
 refine (HNA.out _).mono ?_
 rintro e w4 ⟨rfl, hw4⟩
 subst hw4
 go_wp2
 go_ret
 exact ⟨rfl, HB3.out⟩
end Go.Proofs.YtaooiggckcfanaaGreatDoor.SrtW
namespace Go.Proofs.YtaooiggckcfanaaGreatDoor.SrtR
open Go.RowKit Base Base2 PrsP Ubx PrsC PrsD SrtA
set_option maxRecDepth 100000 in
set_option maxHeartbeats 8000000 in
theorem refName_any (z : Int) (w : World) : Calls Tryz.prog 34 #[.int .i64 z] w fun e w' => e = .returned (.string (strOf (nameOf z))) ∧ w' = w := by
 obtain ⟨v, hv⟩ : ∃ v, v = nameOf z := ⟨_, rfl⟩
 rw [← hv]
 have HV := hid hv
 clear hv
 by_cases h0 : z = 0
 ·subst h0
  have HE : Hid (v = [100, 97, 116, 97]) := by show _ = _; rw [HV.out]; rfl
  go_enter Tryz.func34, Tryz.ntmps34
  go_wp2
  go_ret
  exact ⟨by rw [HE.out]; first | done | rfl, rfl⟩
 have q0 : (z == 0) = false := beq_eq_false_iff_ne.2 h0
 by_cases h1 : z = 1
 ·subst h1
  have HE : Hid (v = [98, 108, 111, 98]) := by show _ = _; rw [HV.out]; rfl
  go_enter Tryz.func34, Tryz.ntmps34
  go_wp2
  go_ret
  exact ⟨by rw [HE.out]; first | done | rfl, rfl⟩
 have q1 : (z == 1) = false := beq_eq_false_iff_ne.2 h1
 by_cases h2 : z = 2
 ·subst h2
  have HE : Hid (v = [102, 105, 108, 101]) := by show _ = _; rw [HV.out]; rfl
  go_enter Tryz.func34, Tryz.ntmps34
  go_wp2
  go_ret
  exact ⟨by rw [HE.out]; first | done | rfl, rfl⟩
 have q2 : (z == 2) = false := beq_eq_false_iff_ne.2 h2
 by_cases h3 : z = 3
 ·subst h3
  have HE : Hid (v = [97, 98, 111, 117, 116, 45, 98, 108, 97, 110, 107]) := by show _ = _; rw [HV.out]; rfl
  go_enter Tryz.func34, Tryz.ntmps34
  go_wp2
  go_ret
  exact ⟨by rw [HE.out]; first | done | rfl, rfl⟩
 have q3 : (z == 3) = false := beq_eq_false_iff_ne.2 h3
 by_cases h4 : z = 4
 ·subst h4
  have HE : Hid (v = [97, 98, 111, 117, 116, 45, 115, 114, 99, 100, 111, 99]) := by show _ = _; rw [HV.out]; rfl
  go_enter Tryz.func34, Tryz.ntmps34
  go_wp2
  go_ret
  exact ⟨by rw [HE.out]; first | done | rfl, rfl⟩
 have q4 : (z == 4) = false := beq_eq_false_iff_ne.2 h4
 by_cases h5 : z = 5
 ·subst h5
  have HE : Hid (v = [97, 98, 111, 117, 116]) := by show _ = _; rw [HV.out]; rfl
  go_enter Tryz.func34, Tryz.ntmps34
  go_wp2
  go_ret
  exact ⟨by rw [HE.out]; first | done | rfl, rfl⟩
 have q5 : (z == 5) = false := beq_eq_false_iff_ne.2 h5
 by_cases h6 : z = 6
 ·subst h6
  have HE : Hid (v = [106, 97, 118, 97, 115, 99, 114, 105, 112, 116]) := by show _ = _; rw [HV.out]; rfl
  go_enter Tryz.func34, Tryz.ntmps34
  go_wp2
  go_ret
  exact ⟨by rw [HE.out]; first | done | rfl, rfl⟩
 have q6 : (z == 6) = false := beq_eq_false_iff_ne.2 h6
 by_cases h7 : z = 7
 ·subst h7
  have HE : Hid (v = [117, 110, 115, 117, 112, 112, 111, 114, 116, 101, 100]) := by show _ = _; rw [HV.out]; rfl
  go_enter Tryz.func34, Tryz.ntmps34
  go_wp2
  go_ret
  exact ⟨by rw [HE.out]; first | done | rfl, rfl⟩
 have q7 : (z == 7) = false := beq_eq_false_iff_ne.2 h7
 have HE : Hid (v = []) := by show _ = _; rw [HV.out]; unfold nameOf; simp [h0, h1, h2, h3, h4, h5, h6, h7]
 go_enter Tryz.func34, Tryz.ntmps34
 go_wp2
 go_ret
 exact ⟨by rw [HE.out]; first | done | rfl, rfl⟩
set_option maxRecDepth 100000 in
set_option maxHeartbeats 8000000 in
theorem refSort_any (u : U) (A : Option Addr) (n c : Nat) (w : World) : Calls Tryz.prog 32 #[.agg (cells u (.slice A n c))] w fun e w' => e = .returned (.int .i64 (sortOf u)) ∧ Below w.heap.size w w' := by
 obtain ⟨z, hz⟩ : ∃ z, z = sortOf u := ⟨_, rfl⟩
 rw [← hz]
 have HZ := hid hz
 clear hz
 by_cases h0 : u.sch = [100, 97, 116, 97]
 ·
  have e0h0 : ((strOf u.sch).toList == [100, 97, 116, 97]) = true := by rw [str_tl, h0]; first | done | rfl
  have e1h0 : (strOf u.sch).toList = [100, 97, 116, 97] := by rw [str_tl, h0]; first | done | rfl
  have HE : Hid (z = 0) := by show _ = _; rw [HZ.out]; unfold sortOf; simp [h0]
  clear h0
  go_enter Tryz.func32, Tryz.ntmps32
  go_upto_region 1 with (fail)
  generalize hw : World.alloc w _ = w1
  have h1 : UB w1 w.heap.size u (.slice A n c) ∧ Below w.heap.size w w1 := by
   subst hw
   exact laid1 w _ _
  clear hw
  go_upto_region 2 with (fail)
  generalize hw : World.alloc w1 _ = w2
  have hx : w2.heap[w1.heap.size]? = some (.cells #[.string ⟨#[100, 97, 116, 97]⟩, .string ⟨#[98, 108, 111, 98]⟩, .string ⟨#[102, 105, 108, 101]⟩] 9 (0, 0)) := by rw [← hw]; exact heap_alloc_new w1 _
  have hb2 : Below w1.heap.size w1 w2 := by rw [← hw]; exact (Below.refl _ _).alloc (Nat.le_refl _) _
  clear hw
  have s0 := (cell_of_row w2 w1.heap.size 0 _ _ _ hx).trans rfl
  have s1 := (cell_of_row w2 w1.heap.size 1 _ _ _ hx).trans rfl
  have s2 := (cell_of_row w2 w1.heap.size 2 _ _ _ hx).trans rfl
  have hU2 := UB.below h1.1 hb2
  obtain ⟨d0, d1, d2, d3, d4, d5, d6, d7, d8, d9, d10, d11, d12⟩ := hU2.facts
  have HB := hid (bel h1.2 hb2)
  clear h1 hx hb2 hU2
  go_upto_region 3 with (fail)
  go_loopw [4, 8] (fun _ vk wr => (vk = .int .i64 0) ∧ ∃ d, wr = w2.drewN d) (fun _ vk _ => 3 - (intOf vk).toNat)
  case atStart => exact ⟨rfl, 0, rfl⟩
  case round =>
   obtain ⟨hv, d, hwr⟩ := hrel
   subst hwr
   rcases hv with rfl
   ·
    go_wp2
    go_quiet (fail)
    go_wp2
    go_ret
    exact ⟨by rw [HE.out]; first | done | rfl, by first | exact HB.out | exact Base.below_drewN HB.out _ | exact Base.below_drewN (Base.below_drewN HB.out _) _⟩
 have e0h0 : ((strOf u.sch).toList == [100, 97, 116, 97]) = false := by rw [str_tl, beq_eq_false_iff_ne]; exact h0
 have e1h0 : ¬ (strOf u.sch).toList = [100, 97, 116, 97] := by rw [str_tl]; exact h0
 by_cases h1 : u.sch = [98, 108, 111, 98]
 ·
  have e0h1 : ((strOf u.sch).toList == [98, 108, 111, 98]) = true := by rw [str_tl, h1]; first | done | rfl
  have e1h1 : (strOf u.sch).toList = [98, 108, 111, 98] := by rw [str_tl, h1]; first | done | rfl
  have HE : Hid (z = 1) := by show _ = _; rw [HZ.out]; unfold sortOf; simp [h0, h1]
  clear h0 h1
  go_enter Tryz.func32, Tryz.ntmps32
  go_upto_region 1 with (fail)
  generalize hw : World.alloc w _ = w1
  have h1 : UB w1 w.heap.size u (.slice A n c) ∧ Below w.heap.size w w1 := by
   subst hw
   exact laid1 w _ _
  clear hw
  go_upto_region 2 with (fail)
  generalize hw : World.alloc w1 _ = w2
  have hx : w2.heap[w1.heap.size]? = some (.cells #[.string ⟨#[100, 97, 116, 97]⟩, .string ⟨#[98, 108, 111, 98]⟩, .string ⟨#[102, 105, 108, 101]⟩] 9 (0, 0)) := by rw [← hw]; exact heap_alloc_new w1 _
  have hb2 : Below w1.heap.size w1 w2 := by rw [← hw]; exact (Below.refl _ _).alloc (Nat.le_refl _) _
  clear hw
  have s0 := (cell_of_row w2 w1.heap.size 0 _ _ _ hx).trans rfl
  have s1 := (cell_of_row w2 w1.heap.size 1 _ _ _ hx).trans rfl
  have s2 := (cell_of_row w2 w1.heap.size 2 _ _ _ hx).trans rfl
  have hU2 := UB.below h1.1 hb2
  obtain ⟨d0, d1, d2, d3, d4, d5, d6, d7, d8, d9, d10, d11, d12⟩ := hU2.facts
  have HB := hid (bel h1.2 hb2)
  clear h1 hx hb2 hU2
  go_upto_region 3 with (fail)
  go_loopw [4, 8] (fun _ vk wr => (vk = .int .i64 0 ∨ vk = .int .i64 1) ∧ ∃ d, wr = w2.drewN d) (fun _ vk _ => 3 - (intOf vk).toNat)
  case atStart => exact ⟨Or.inl rfl, 0, rfl⟩
  case round =>
   obtain ⟨hv, d, hwr⟩ := hrel
   subst hwr
   rcases hv with rfl | rfl
   ·
    go_wp2
    go_quiet (fail)
    go_wp2
    go_roundw
    case rel => exact ⟨Or.inr (rfl), _, rfl⟩
    case measure => simp [intOf]
   ·
    go_wp2
    go_quiet (fail)
    go_wp2
    go_ret
    exact ⟨by rw [HE.out]; first | done | rfl, by first | exact HB.out | exact Base.below_drewN HB.out _ | exact Base.below_drewN (Base.below_drewN HB.out _) _⟩
 have e0h1 : ((strOf u.sch).toList == [98, 108, 111, 98]) = false := by rw [str_tl, beq_eq_false_iff_ne]; exact h1
 have e1h1 : ¬ (strOf u.sch).toList = [98, 108, 111, 98] := by rw [str_tl]; exact h1
 by_cases h2 : u.sch = [102, 105, 108, 101]
 ·
  have e0h2 : ((strOf u.sch).toList == [102, 105, 108, 101]) = true := by rw [str_tl, h2]; first | done | rfl
  have e1h2 : (strOf u.sch).toList = [102, 105, 108, 101] := by rw [str_tl, h2]; first | done | rfl
  have HE : Hid (z = 2) := by show _ = _; rw [HZ.out]; unfold sortOf; simp [h0, h1, h2]
  clear h0 h1 h2
  go_enter Tryz.func32, Tryz.ntmps32
  go_upto_region 1 with (fail)
  generalize hw : World.alloc w _ = w1
  have h1 : UB w1 w.heap.size u (.slice A n c) ∧ Below w.heap.size w w1 := by
   subst hw
   exact laid1 w _ _
  clear hw
  go_upto_region 2 with (fail)
  generalize hw : World.alloc w1 _ = w2
  have hx : w2.heap[w1.heap.size]? = some (.cells #[.string ⟨#[100, 97, 116, 97]⟩, .string ⟨#[98, 108, 111, 98]⟩, .string ⟨#[102, 105, 108, 101]⟩] 9 (0, 0)) := by rw [← hw]; exact heap_alloc_new w1 _
  have hb2 : Below w1.heap.size w1 w2 := by rw [← hw]; exact (Below.refl _ _).alloc (Nat.le_refl _) _
  clear hw
  have s0 := (cell_of_row w2 w1.heap.size 0 _ _ _ hx).trans rfl
  have s1 := (cell_of_row w2 w1.heap.size 1 _ _ _ hx).trans rfl
  have s2 := (cell_of_row w2 w1.heap.size 2 _ _ _ hx).trans rfl
  have hU2 := UB.below h1.1 hb2
  obtain ⟨d0, d1, d2, d3, d4, d5, d6, d7, d8, d9, d10, d11, d12⟩ := hU2.facts
  have HB := hid (bel h1.2 hb2)
  clear h1 hx hb2 hU2
  go_upto_region 3 with (fail)
  go_loopw [4, 8] (fun _ vk wr => (vk = .int .i64 0 ∨ vk = .int .i64 1 ∨ vk = .int .i64 2) ∧ ∃ d, wr = w2.drewN d) (fun _ vk _ => 3 - (intOf vk).toNat)
  case atStart => exact ⟨Or.inl rfl, 0, rfl⟩
  case round =>
   obtain ⟨hv, d, hwr⟩ := hrel
   subst hwr
   rcases hv with rfl | rfl | rfl
   ·
    go_wp2
    go_quiet (fail)
    go_wp2
    go_roundw
    case rel => exact ⟨Or.inr (Or.inl rfl), _, rfl⟩
    case measure => simp [intOf]
   ·
    go_wp2
    go_quiet (fail)
    go_wp2
    go_roundw
    case rel => exact ⟨Or.inr (Or.inr (rfl)), _, rfl⟩
    case measure => simp [intOf]
   ·
    go_wp2
    go_quiet (fail)
    go_wp2
    go_ret
    exact ⟨by rw [HE.out]; first | done | rfl, by first | exact HB.out | exact Base.below_drewN HB.out _ | exact Base.below_drewN (Base.below_drewN HB.out _) _⟩
 have e0h2 : ((strOf u.sch).toList == [102, 105, 108, 101]) = false := by rw [str_tl, beq_eq_false_iff_ne]; exact h2
 have e1h2 : ¬ (strOf u.sch).toList = [102, 105, 108, 101] := by rw [str_tl]; exact h2
 by_cases h3 : u.sch = [106, 97, 118, 97, 115, 99, 114, 105, 112, 116]
 ·
  have e0h3 : ((strOf u.sch).toList == [106, 97, 118, 97, 115, 99, 114, 105, 112, 116]) = true := by rw [str_tl, h3]; first | done | rfl
  have e1h3 : (strOf u.sch).toList = [106, 97, 118, 97, 115, 99, 114, 105, 112, 116] := by rw [str_tl, h3]; first | done | rfl
  have h4 : ¬ u.sch = [97, 98, 111, 117, 116] := by rw [h3]; decide
  have HE : Hid (z = 6) := by show _ = _; rw [HZ.out]; unfold sortOf; simp [h0, h1, h2, h3]
  clear h0 h1 h2 h3 h4
  go_enter Tryz.func32, Tryz.ntmps32
  go_upto_region 1 with (fail)
  generalize hw : World.alloc w _ = w1
  have h1 : UB w1 w.heap.size u (.slice A n c) ∧ Below w.heap.size w w1 := by
   subst hw
   exact laid1 w _ _
  clear hw
  go_upto_region 2 with (fail)
  generalize hw : World.alloc w1 _ = w2
  have hx : w2.heap[w1.heap.size]? = some (.cells #[.string ⟨#[100, 97, 116, 97]⟩, .string ⟨#[98, 108, 111, 98]⟩, .string ⟨#[102, 105, 108, 101]⟩] 9 (0, 0)) := by rw [← hw]; exact heap_alloc_new w1 _
  have hb2 : Below w1.heap.size w1 w2 := by rw [← hw]; exact (Below.refl _ _).alloc (Nat.le_refl _) _
  clear hw
  have s0 := (cell_of_row w2 w1.heap.size 0 _ _ _ hx).trans rfl
  have s1 := (cell_of_row w2 w1.heap.size 1 _ _ _ hx).trans rfl
  have s2 := (cell_of_row w2 w1.heap.size 2 _ _ _ hx).trans rfl
  have hU2 := UB.below h1.1 hb2
  obtain ⟨d0, d1, d2, d3, d4, d5, d6, d7, d8, d9, d10, d11, d12⟩ := hU2.facts
  have HB := hid (bel h1.2 hb2)
  clear h1 hx hb2 hU2
  go_upto_region 3 with (fail)
  go_loopw [4, 8] (fun _ vk wr => (vk = .int .i64 0 ∨ vk = .int .i64 1 ∨ vk = .int .i64 2 ∨ vk = .int .i64 3) ∧ ∃ d, wr = w2.drewN d) (fun _ vk _ => 3 - (intOf vk).toNat)
  case atStart => exact ⟨Or.inl rfl, 0, rfl⟩
  case round =>
   obtain ⟨hv, d, hwr⟩ := hrel
   subst hwr
   rcases hv with rfl | rfl | rfl | rfl
   ·
    go_wp2
    go_quiet (fail)
    go_wp2
    go_roundw
    case rel => exact ⟨Or.inr (Or.inl rfl), _, rfl⟩
    case measure => simp [intOf]
   ·
    go_wp2
    go_quiet (fail)
    go_wp2
    go_roundw
    case rel => exact ⟨Or.inr (Or.inr (Or.inl rfl)), _, rfl⟩
    case measure => simp [intOf]
   ·
    go_wp2
    go_quiet (fail)
    go_wp2
    go_roundw
    case rel => exact ⟨Or.inr (Or.inr (Or.inr (rfl))), _, rfl⟩
    case measure => simp [intOf]
   ·
    go_wp2
    go_ret
    exact ⟨by rw [HE.out]; first | done | rfl, by first | exact HB.out | exact Base.below_drewN HB.out _ | exact Base.below_drewN (Base.below_drewN HB.out _) _⟩
 have e0h3 : ((strOf u.sch).toList == [106, 97, 118, 97, 115, 99, 114, 105, 112, 116]) = false := by rw [str_tl, beq_eq_false_iff_ne]; exact h3
 have e1h3 : ¬ (strOf u.sch).toList = [106, 97, 118, 97, 115, 99, 114, 105, 112, 116] := by rw [str_tl]; exact h3
 by_cases h4 : u.sch = [97, 98, 111, 117, 116]
 ·
  have e0h4 : ((strOf u.sch).toList == [97, 98, 111, 117, 116]) = true := by rw [str_tl, h4]; first | done | rfl
  have e1h4 : (strOf u.sch).toList = [97, 98, 111, 117, 116] := by rw [str_tl, h4]; first | done | rfl
  cases ho : u.opq with
  | false =>
   have HE : Hid (z = 5) := by show _ = _; rw [HZ.out]; unfold sortOf aboutOf; simp [h4, ho]
   clear h0 h1 h2 h3 h4
   go_enter Tryz.func32, Tryz.ntmps32
   go_upto_region 1 with (fail)
   generalize hw : World.alloc w _ = w1
   have h1 : UB w1 w.heap.size u (.slice A n c) ∧ Below w.heap.size w w1 := by
    subst hw
    exact laid1 w _ _
   clear hw
   go_upto_region 2 with (fail)
   generalize hw : World.alloc w1 _ = w2
   have hx : w2.heap[w1.heap.size]? = some (.cells #[.string ⟨#[100, 97, 116, 97]⟩, .string ⟨#[98, 108, 111, 98]⟩, .string ⟨#[102, 105, 108, 101]⟩] 9 (0, 0)) := by rw [← hw]; exact heap_alloc_new w1 _
   have hb2 : Below w1.heap.size w1 w2 := by rw [← hw]; exact (Below.refl _ _).alloc (Nat.le_refl _) _
   clear hw
   have s0 := (cell_of_row w2 w1.heap.size 0 _ _ _ hx).trans rfl
   have s1 := (cell_of_row w2 w1.heap.size 1 _ _ _ hx).trans rfl
   have s2 := (cell_of_row w2 w1.heap.size 2 _ _ _ hx).trans rfl
   have hU2 := UB.below h1.1 hb2
   obtain ⟨d0, d1, d2, d3, d4, d5, d6, d7, d8, d9, d10, d11, d12⟩ := hU2.facts
   rw [ho] at d6
   have HB := hid (bel h1.2 hb2)
   clear h1 hx hb2 hU2
   go_upto_region 3 with (fail)
   go_loopw [4, 8] (fun _ vk wr => (vk = .int .i64 0 ∨ vk = .int .i64 1 ∨ vk = .int .i64 2 ∨ vk = .int .i64 3) ∧ ∃ d, wr = w2.drewN d) (fun _ vk _ => 3 - (intOf vk).toNat)
   case atStart => exact ⟨Or.inl rfl, 0, rfl⟩
   case round =>
    obtain ⟨hv, d, hwr⟩ := hrel
    subst hwr
    rcases hv with rfl | rfl | rfl | rfl
    ·
     go_wp2
     go_quiet (fail)
     go_wp2
     go_roundw
     case rel => exact ⟨Or.inr (Or.inl rfl), _, rfl⟩
     case measure => simp [intOf]
    ·
     go_wp2
     go_quiet (fail)
     go_wp2
     go_roundw
     case rel => exact ⟨Or.inr (Or.inr (Or.inl rfl)), _, rfl⟩
     case measure => simp [intOf]
    ·
     go_wp2
     go_quiet (fail)
     go_wp2
     go_roundw
     case rel => exact ⟨Or.inr (Or.inr (Or.inr (rfl))), _, rfl⟩
     case measure => simp [intOf]
    ·
     go_wp2
     go_ret
     exact ⟨by rw [HE.out]; first | done | rfl, by first | exact HB.out | exact Base.below_drewN HB.out _ | exact Base.below_drewN (Base.below_drewN HB.out _) _⟩
  | true =>
   by_cases h5 : u.txt = [98, 108, 97, 110, 107]
   ·
    have e0h5 : ((strOf u.txt).toList == [98, 108, 97, 110, 107]) = true := by rw [str_tl, h5]; first | done | rfl
    have e1h5 : (strOf u.txt).toList = [98, 108, 97, 110, 107] := by rw [str_tl, h5]; first | done | rfl
    have HE : Hid (z = 3) := by show _ = _; rw [HZ.out]; unfold sortOf aboutOf; simp [h4, ho, h5]
    clear h0 h1 h2 h3 h4 h5
    go_enter Tryz.func32, Tryz.ntmps32
    go_upto_region 1 with (fail)
    generalize hw : World.alloc w _ = w1
    have h1 : UB w1 w.heap.size u (.slice A n c) ∧ Below w.heap.size w w1 := by
     subst hw
     exact laid1 w _ _
    clear hw
    go_upto_region 2 with (fail)
    generalize hw : World.alloc w1 _ = w2
    have hx : w2.heap[w1.heap.size]? = some (.cells #[.string ⟨#[100, 97, 116, 97]⟩, .string ⟨#[98, 108, 111, 98]⟩, .string ⟨#[102, 105, 108, 101]⟩] 9 (0, 0)) := by rw [← hw]; exact heap_alloc_new w1 _
    have hb2 : Below w1.heap.size w1 w2 := by rw [← hw]; exact (Below.refl _ _).alloc (Nat.le_refl _) _
    clear hw
    have s0 := (cell_of_row w2 w1.heap.size 0 _ _ _ hx).trans rfl
    have s1 := (cell_of_row w2 w1.heap.size 1 _ _ _ hx).trans rfl
    have s2 := (cell_of_row w2 w1.heap.size 2 _ _ _ hx).trans rfl
    have hU2 := UB.below h1.1 hb2
    obtain ⟨d0, d1, d2, d3, d4, d5, d6, d7, d8, d9, d10, d11, d12⟩ := hU2.facts
    rw [ho] at d6
    have HB := hid (bel h1.2 hb2)
    clear h1 hx hb2 hU2
    go_upto_region 3 with (fail)
    go_loopw [4, 8] (fun _ vk wr => (vk = .int .i64 0 ∨ vk = .int .i64 1 ∨ vk = .int .i64 2 ∨ vk = .int .i64 3) ∧ ∃ d, wr = w2.drewN d) (fun _ vk _ => 3 - (intOf vk).toNat)
    case atStart => exact ⟨Or.inl rfl, 0, rfl⟩
    case round =>
     obtain ⟨hv, d, hwr⟩ := hrel
     subst hwr
     rcases hv with rfl | rfl | rfl | rfl
     ·
      go_wp2
      go_quiet (fail)
      go_wp2
      go_roundw
      case rel => exact ⟨Or.inr (Or.inl rfl), _, rfl⟩
      case measure => simp [intOf]
     ·
      go_wp2
      go_quiet (fail)
      go_wp2
      go_roundw
      case rel => exact ⟨Or.inr (Or.inr (Or.inl rfl)), _, rfl⟩
      case measure => simp [intOf]
     ·
      go_wp2
      go_quiet (fail)
      go_wp2
      go_roundw
      case rel => exact ⟨Or.inr (Or.inr (Or.inr (rfl))), _, rfl⟩
      case measure => simp [intOf]
     ·
      go_wp2
      go_ret
      exact ⟨by rw [HE.out]; first | done | rfl, by first | exact HB.out | exact Base.below_drewN HB.out _ | exact Base.below_drewN (Base.below_drewN HB.out _) _⟩
   have e0h5 : ((strOf u.txt).toList == [98, 108, 97, 110, 107]) = false := by rw [str_tl, beq_eq_false_iff_ne]; exact h5
   have e1h5 : ¬ (strOf u.txt).toList = [98, 108, 97, 110, 107] := by rw [str_tl]; exact h5
   by_cases h6 : u.txt = [115, 114, 99, 100, 111, 99]
   ·
    have e0h6 : ((strOf u.txt).toList == [115, 114, 99, 100, 111, 99]) = true := by rw [str_tl, h6]; first | done | rfl
    have e1h6 : (strOf u.txt).toList = [115, 114, 99, 100, 111, 99] := by rw [str_tl, h6]; first | done | rfl
    have HE : Hid (z = 4) := by show _ = _; rw [HZ.out]; unfold sortOf aboutOf; simp [h4, ho, h5, h6]
    clear h0 h1 h2 h3 h4 h5 h6
    go_enter Tryz.func32, Tryz.ntmps32
    go_upto_region 1 with (fail)
    generalize hw : World.alloc w _ = w1
    have h1 : UB w1 w.heap.size u (.slice A n c) ∧ Below w.heap.size w w1 := by
     subst hw
     exact laid1 w _ _
    clear hw
    go_upto_region 2 with (fail)
    generalize hw : World.alloc w1 _ = w2
    have hx : w2.heap[w1.heap.size]? = some (.cells #[.string ⟨#[100, 97, 116, 97]⟩, .string ⟨#[98, 108, 111, 98]⟩, .string ⟨#[102, 105, 108, 101]⟩] 9 (0, 0)) := by rw [← hw]; exact heap_alloc_new w1 _
    have hb2 : Below w1.heap.size w1 w2 := by rw [← hw]; exact (Below.refl _ _).alloc (Nat.le_refl _) _
    clear hw
    have s0 := (cell_of_row w2 w1.heap.size 0 _ _ _ hx).trans rfl
    have s1 := (cell_of_row w2 w1.heap.size 1 _ _ _ hx).trans rfl
    have s2 := (cell_of_row w2 w1.heap.size 2 _ _ _ hx).trans rfl
    have hU2 := UB.below h1.1 hb2
    obtain ⟨d0, d1, d2, d3, d4, d5, d6, d7, d8, d9, d10, d11, d12⟩ := hU2.facts
    rw [ho] at d6
    have HB := hid (bel h1.2 hb2)
    clear h1 hx hb2 hU2
    go_upto_region 3 with (fail)
    go_loopw [4, 8] (fun _ vk wr => (vk = .int .i64 0 ∨ vk = .int .i64 1 ∨ vk = .int .i64 2 ∨ vk = .int .i64 3) ∧ ∃ d, wr = w2.drewN d) (fun _ vk _ => 3 - (intOf vk).toNat)
    case atStart => exact ⟨Or.inl rfl, 0, rfl⟩
    case round =>
     obtain ⟨hv, d, hwr⟩ := hrel
     subst hwr
     rcases hv with rfl | rfl | rfl | rfl
     ·
      go_wp2
      go_quiet (fail)
      go_wp2
      go_roundw
      case rel => exact ⟨Or.inr (Or.inl rfl), _, rfl⟩
      case measure => simp [intOf]
     ·
      go_wp2
      go_quiet (fail)
      go_wp2
      go_roundw
      case rel => exact ⟨Or.inr (Or.inr (Or.inl rfl)), _, rfl⟩
      case measure => simp [intOf]
     ·
      go_wp2
      go_quiet (fail)
      go_wp2
      go_roundw
      case rel => exact ⟨Or.inr (Or.inr (Or.inr (rfl))), _, rfl⟩
      case measure => simp [intOf]
     ·
      go_wp2
      go_ret
      exact ⟨by rw [HE.out]; first | done | rfl, by first | exact HB.out | exact Base.below_drewN HB.out _ | exact Base.below_drewN (Base.below_drewN HB.out _) _⟩
   ·
    have e0h6 : ((strOf u.txt).toList == [115, 114, 99, 100, 111, 99]) = false := by rw [str_tl, beq_eq_false_iff_ne]; exact h6
    have e1h6 : ¬ (strOf u.txt).toList = [115, 114, 99, 100, 111, 99] := by rw [str_tl]; exact h6
    have HE : Hid (z = 5) := by show _ = _; rw [HZ.out]; unfold sortOf aboutOf; simp [h4, ho, h5, h6]
    clear h0 h1 h2 h3 h4 h5 h6
    go_enter Tryz.func32, Tryz.ntmps32
    go_upto_region 1 with (fail)
    generalize hw : World.alloc w _ = w1
    have h1 : UB w1 w.heap.size u (.slice A n c) ∧ Below w.heap.size w w1 := by
     subst hw
     exact laid1 w _ _
    clear hw
    go_upto_region 2 with (fail)
    generalize hw : World.alloc w1 _ = w2
    have hx : w2.heap[w1.heap.size]? = some (.cells #[.string ⟨#[100, 97, 116, 97]⟩, .string ⟨#[98, 108, 111, 98]⟩, .string ⟨#[102, 105, 108, 101]⟩] 9 (0, 0)) := by rw [← hw]; exact heap_alloc_new w1 _
    have hb2 : Below w1.heap.size w1 w2 := by rw [← hw]; exact (Below.refl _ _).alloc (Nat.le_refl _) _
    clear hw
    have s0 := (cell_of_row w2 w1.heap.size 0 _ _ _ hx).trans rfl
    have s1 := (cell_of_row w2 w1.heap.size 1 _ _ _ hx).trans rfl
    have s2 := (cell_of_row w2 w1.heap.size 2 _ _ _ hx).trans rfl
    have hU2 := UB.below h1.1 hb2
    obtain ⟨d0, d1, d2, d3, d4, d5, d6, d7, d8, d9, d10, d11, d12⟩ := hU2.facts
    rw [ho] at d6
    have HB := hid (bel h1.2 hb2)
    clear h1 hx hb2 hU2
    go_upto_region 3 with (fail)
    go_loopw [4, 8] (fun _ vk wr => (vk = .int .i64 0 ∨ vk = .int .i64 1 ∨ vk = .int .i64 2 ∨ vk = .int .i64 3) ∧ ∃ d, wr = w2.drewN d) (fun _ vk _ => 3 - (intOf vk).toNat)
    case atStart => exact ⟨Or.inl rfl, 0, rfl⟩
    case round =>
     obtain ⟨hv, d, hwr⟩ := hrel
     subst hwr
     rcases hv with rfl | rfl | rfl | rfl
     ·
      go_wp2
      go_quiet (fail)
      go_wp2
      go_roundw
      case rel => exact ⟨Or.inr (Or.inl rfl), _, rfl⟩
      case measure => simp [intOf]
     ·
      go_wp2
      go_quiet (fail)
      go_wp2
      go_roundw
      case rel => exact ⟨Or.inr (Or.inr (Or.inl rfl)), _, rfl⟩
      case measure => simp [intOf]
     ·
      go_wp2
      go_quiet (fail)
      go_wp2
      go_roundw
      case rel => exact ⟨Or.inr (Or.inr (Or.inr (rfl))), _, rfl⟩
      case measure => simp [intOf]
     ·
      go_wp2
      go_ret
      exact ⟨by rw [HE.out]; first | done | rfl, by first | exact HB.out | exact Base.below_drewN HB.out _ | exact Base.below_drewN (Base.below_drewN HB.out _) _⟩
 ·
  have e0h4 : ((strOf u.sch).toList == [97, 98, 111, 117, 116]) = false := by rw [str_tl, beq_eq_false_iff_ne]; exact h4
  have e1h4 : ¬ (strOf u.sch).toList = [97, 98, 111, 117, 116] := by rw [str_tl]; exact h4
  have HE : Hid (z = 7) := by show _ = _; rw [HZ.out]; unfold sortOf; simp [h0, h1, h2, h3, h4]
  clear h0 h1 h2 h3 h4
  go_enter Tryz.func32, Tryz.ntmps32
  go_upto_region 1 with (fail)
  generalize hw : World.alloc w _ = w1
  have h1 : UB w1 w.heap.size u (.slice A n c) ∧ Below w.heap.size w w1 := by
   subst hw
   exact laid1 w _ _
  clear hw
  go_upto_region 2 with (fail)
  generalize hw : World.alloc w1 _ = w2
  have hx : w2.heap[w1.heap.size]? = some (.cells #[.string ⟨#[100, 97, 116, 97]⟩, .string ⟨#[98, 108, 111, 98]⟩, .string ⟨#[102, 105, 108, 101]⟩] 9 (0, 0)) := by rw [← hw]; exact heap_alloc_new w1 _
  have hb2 : Below w1.heap.size w1 w2 := by rw [← hw]; exact (Below.refl _ _).alloc (Nat.le_refl _) _
  clear hw
  have s0 := (cell_of_row w2 w1.heap.size 0 _ _ _ hx).trans rfl
  have s1 := (cell_of_row w2 w1.heap.size 1 _ _ _ hx).trans rfl
  have s2 := (cell_of_row w2 w1.heap.size 2 _ _ _ hx).trans rfl
  have hU2 := UB.below h1.1 hb2
  obtain ⟨d0, d1, d2, d3, d4, d5, d6, d7, d8, d9, d10, d11, d12⟩ := hU2.facts
  have HB := hid (bel h1.2 hb2)
  clear h1 hx hb2 hU2
  go_upto_region 3 with (fail)
  go_loopw [4, 8] (fun _ vk wr => (vk = .int .i64 0 ∨ vk = .int .i64 1 ∨ vk = .int .i64 2 ∨ vk = .int .i64 3) ∧ ∃ d, wr = w2.drewN d) (fun _ vk _ => 3 - (intOf vk).toNat)
  case atStart => exact ⟨Or.inl rfl, 0, rfl⟩
  case round =>
   obtain ⟨hv, d, hwr⟩ := hrel
   subst hwr
   rcases hv with rfl | rfl | rfl | rfl
   ·
    go_wp2
    go_quiet (fail)
    go_wp2
    go_roundw
    case rel => exact ⟨Or.inr (Or.inl rfl), _, rfl⟩
    case measure => simp [intOf]
   ·
    go_wp2
    go_quiet (fail)
    go_wp2
    go_roundw
    case rel => exact ⟨Or.inr (Or.inr (Or.inl rfl)), _, rfl⟩
    case measure => simp [intOf]
   ·
    go_wp2
    go_quiet (fail)
    go_wp2
    go_roundw
    case rel => exact ⟨Or.inr (Or.inr (Or.inr (rfl))), _, rfl⟩
    case measure => simp [intOf]
   ·
    go_wp2
    go_ret
    exact ⟨by rw [HE.out]; first | done | rfl, by first | exact HB.out | exact Base.below_drewN HB.out _ | exact Base.below_drewN (Base.below_drewN HB.out _) _⟩
end Go.Proofs.YtaooiggckcfanaaGreatDoor.SrtR
