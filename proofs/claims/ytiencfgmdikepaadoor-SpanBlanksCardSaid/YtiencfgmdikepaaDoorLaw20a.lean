/- The walks of the laws SpanReads, SpanBig and SpanMeans: each returns true, whatever it is called with. -/
import Derived.Test.YtiencfgmdikepaaDoorSpnE
namespace Go.Proofs.YtiencfgmdikepaaDoor.Laws
open Go.RowKit Go.Proofs.YtiencfgmdikepaaDoor.Base Go.Proofs.YtiencfgmdikepaaDoor.Base2 Go.Proofs.YtiencfgmdikepaaDoor.SpnP Go.Proofs.YtiencfgmdikepaaDoor.SpnA Go.Proofs.YtiencfgmdikepaaDoor.SpnB Go.Proofs.YtiencfgmdikepaaDoor.SpnE

def I64 (z : Int) : Prop := -9223372036854775808 ≤ z ∧ z ≤ 9223372036854775807
set_option maxHeartbeats 2000000 in
set_option maxRecDepth 100000 in
theorem SpanReads_any (s : ByteArray) (w : World) (_hs : s.size ≤ 140737488351232) :
    Calls Tryd.prog 3 #[.string s] w fun e w' => e = .returned (.bool true) ∧ Below w.heap.size w w' := by
  by_cases h5 : s.size ≤ 300
  · have p1 : ¬ (300 : Int) < (s.size : Int) := by omega
    obtain ⟨F, T, hf, ht, ok, hS⟩ : ∃ F T hf ht ok, (F, T, hf, ht, ok) = says s.data.toList := ⟨_, _, _, _, _, rfl⟩
    have HS := hid hS
    clear hS
    go_enter Tryd.func3, Tryd.ntmps3
    go_wp2_with fail
    refine (awake_any _).mono ?_
    rintro e w1 ⟨rfl, hb1⟩
    go_wp2_with fail
    refine (SpnC.parse_any s _ (by omega)).mono ?_
    rintro e w2 ⟨rfl, hb2⟩
    rw [← HS.out]
    go_wp2_with fail
    refine (SpnD.ref_parse s _ (by omega)).mono ?_
    rintro e w3 ⟨rfl, hb3⟩
    rw [← HS.out]
    have hT : SpnC.T4 w3 w2.heap.size (.int .i64 F) (.int .i64 T) (.bool hf) (.bool ht) := SpnC.T4.below (heap_alloc_new w2 _) hb3
    obtain ⟨⟨c0, c1, c2, c3⟩, f0, f1, f2, f3⟩ := hT.facts
    have hlt : w2.heap.size < w3.heap.size := hT.lt
    have hne : w2.heap.size ≠ w3.heap.size := by omega
    clear hT f0 f1 f2 f3
    have HB := hid (((bel hb1 hb2).alloc (bel hb1 hb2).size (.cells #[.int .i64 F, .int .i64 T, .bool hf, .bool ht] 24)).trans (hb3.mono (by have := (bel hb1 hb2).size; simp; omega)))
    clear hb1 hb2 hb3
    go_wp2_with fail
    go_ret
    exact ⟨rfl, HB.out.alloc HB.out.size _⟩
  · have p1 : (300 : Int) < (s.size : Int) := by omega
    go_enter Tryd.func3, Tryd.ntmps3
    go_wp2_with fail
    refine (awake_any _).mono ?_
    rintro e w1 ⟨rfl, hb1⟩
    go_wp2_with fail
    refine (awake_any _).mono ?_
    rintro e w2 ⟨rfl, hb2⟩
    go_wp2_with fail
    go_ret
    exact ⟨rfl, bel hb1 hb2⟩
theorem box_T4 (w w1 : World) (a b c d : Value) (hb : Below (w.alloc (.cells #[a, b, c, d] 24)).heap.size (w.alloc (.cells #[a, b, c, d] 24)) w1) : SpnC.T4 w1 w.heap.size a b c d :=
  SpnC.T4.below (heap_alloc_new w _) hb
set_option maxHeartbeats 4000000 in
set_option maxRecDepth 100000 in
theorem SpanBig_any (F T : Int) (hf ht : Bool) (n : Int) (w : World) (hF : I64 F) (hT : I64 T) (hn : I64 n) :
    Calls Tryd.prog 6 #[.agg #[.int .i64 F, .int .i64 T, .bool hf, .bool ht], .int .i64 n] w fun e w' => e = .returned (.bool true) ∧ Below w.heap.size w w' := by
  have Hof := fun w => of_any F T hf ht n w hF hT hn
  have hok := of_ok F T hf ht n
  have hno := of_no F T hf ht n
  obtain ⟨a, b, ok, hO⟩ : ∃ a b ok, ofB F T hf ht n = (a, b, ok) := ⟨_, _, _, rfl⟩
  rw [hO] at hok hno
  simp only [hO] at Hof
  have HOF := hid Hof
  have HOK := hid hok
  have HNO := hid hno
  obtain ⟨hF0, hF1⟩ := hF
  obtain ⟨hT0, hT1⟩ := hT
  obtain ⟨hn0, hn1⟩ := hn
  clear Hof hok hno hO
  cases ok
  · obtain ⟨h1, h2⟩ := HNO.out rfl
    simp only at h1 h2
    subst h1 h2
    go_enter Tryd.func6, Tryd.ntmps6
    go_wp2_with fail
    refine (awake_any _).mono ?_
    rintro e w1 ⟨rfl, hb1⟩
    obtain ⟨⟨c0, c1, c2, c3⟩, f0, f1, f2, f3⟩ := (box_T4 _ _ _ _ _ _ hb1).facts
    have HB := hid (((Below.refl w.heap.size w).alloc (Nat.le_refl _) _).trans (hb1.mono (by simp)))
    clear hb1 f0 f1 f2 f3
    go_wp2_with fail
    refine (HOF.out _).mono ?_
    rintro e w2 ⟨rfl, hb2⟩
    go_wp2_with fail
    go_ret
    exact ⟨rfl, bel HB.out hb2⟩
  · obtain ⟨h1, h2, h3, h4, h5, h6⟩ := HOK.out rfl
    simp only at h1 h2 h3 h4 h5 h6
    cases hf
    · obtain ⟨h7, h8⟩ := h6 rfl
      clear h4 h5 h6
      subst h7
      have e1 : ((n - 1) == (n - 1)) = true := by simp
      cases ht
      all_goals
        go_enter Tryd.func6, Tryd.ntmps6
        go_wp2_with fail
        refine (awake_any _).mono ?_
        rintro e w1 ⟨rfl, hb1⟩
        have hT4 := box_T4 _ _ _ _ _ _ hb1
        obtain ⟨⟨c0, c1, c2, c3⟩, f0, f1, f2, f3⟩ := hT4.facts
        have HB := hid (((Below.refl w.heap.size w).alloc (Nat.le_refl _) _).trans (hb1.mono (by simp)))
        have HT4 := hid hT4
        clear hb1 f0 f1 f2 f3 hT4
        go_wp2_with fail
        refine (HOF.out _).mono ?_
        rintro e w2 ⟨rfl, hb2⟩
        clear c0 c1 c2 c3
        obtain ⟨⟨c0, c1, c2, c3⟩, f0, f1, f2, f3⟩ := (HT4.out.below hb2).facts
        clear f0 f1 f2 f3
        go_wp2_with fail
        go_ret
        exact ⟨rfl, bel HB.out hb2⟩
    · have h7 := h4 rfl
      clear h4 h6
      subst h7
      have h8 : ht = true → b ≤ T := fun h => h5 rfl h
      clear h5
      cases ht
      all_goals
        try have h9 := h8 rfl
        clear h8
        go_enter Tryd.func6, Tryd.ntmps6
        go_wp2_with fail
        refine (awake_any _).mono ?_
        rintro e w1 ⟨rfl, hb1⟩
        have hT4 := box_T4 _ _ _ _ _ _ hb1
        obtain ⟨⟨c0, c1, c2, c3⟩, f0, f1, f2, f3⟩ := hT4.facts
        have HB := hid (((Below.refl w.heap.size w).alloc (Nat.le_refl _) _).trans (hb1.mono (by simp)))
        have HT4 := hid hT4
        clear hb1 f0 f1 f2 f3 hT4
        go_wp2_with fail
        refine (HOF.out _).mono ?_
        rintro e w2 ⟨rfl, hb2⟩
        clear c0 c1 c2 c3
        obtain ⟨⟨c0, c1, c2, c3⟩, f0, f1, f2, f3⟩ := (HT4.out.below hb2).facts
        clear f0 f1 f2 f3
        go_wp2_with fail
        go_ret
        exact ⟨rfl, bel HB.out hb2⟩
end Go.Proofs.YtiencfgmdikepaaDoor.Laws
