/- The walk of the law SpanBack: it returns true, whatever it is called with, under the library's table of powers as its text lays it. -/
import Derived.Test.YtiencfgmdikepaaDoorSpnF
import Derived.Test.YtiencfgmdikepaaDoorLaw20a
namespace Go.Proofs.YtiencfgmdikepaaDoor.Laws
open Go.RowKit Go.Proofs.YtiencfgmdikepaaDoor.Base Go.Proofs.YtiencfgmdikepaaDoor.Base2 Go.Proofs.YtiencfgmdikepaaDoor.SpnP Go.Proofs.YtiencfgmdikepaaDoor.SpnA Go.Proofs.YtiencfgmdikepaaDoor.SpnB Go.Proofs.YtiencfgmdikepaaDoor.SpnE Go.Proofs.YtiencfgmdikepaaDoor.SpnF

theorem prt_len (F T : Nat) (hf ht : Bool) (hF : F ≤ 4611686018427387904) (hT : T ≤ 4611686018427387904) : (prt F T hf ht).length ≤ 100 := by
  have lF : (Lib.decDigits F).length ≤ 19 := dd_len (F + 1) F (by omega) (by omega)
  have lT : (Lib.decDigits T).length ≤ 19 := dd_len (T + 1) T (by omega) (by omega)
  unfold prt dg
  cases hf <;> cases ht <;> simp <;> omega
set_option maxHeartbeats 2000000 in
set_option maxRecDepth 100000 in
theorem SpanBack_any (s : ByteArray) (w : World) (_hs : s.size ≤ 140737488351232) (hP : Tab.Pow w) :
    Calls Tryd.prog 5 #[.string s] w fun e w' => e = .returned (.bool true) ∧ Below w.heap.size w w' := by
  have HP := hid hP
  clear hP
  by_cases h5 : s.size ≤ 300
  · have p1 : ¬ (300 : Int) < (s.size : Int) := by omega
    have hfac := says_facts s.data.toList
    have hnot : (says s.data.toList).2.2.2.2 = false → says s.data.toList = (0, 0, false, false, false) := by
      unfold says
      split
      · intro h; cases h
      · intro _; rfl
    obtain ⟨F, T, hf, ht, ok, hS⟩ : ∃ F T hf ht ok, (F, T, hf, ht, ok) = says s.data.toList := ⟨_, _, _, _, _, rfl⟩
    rw [← hS] at hfac hnot
    have HS := hid hS
    clear hS
    cases ok
    · have h0 := hnot rfl
      simp only [Prod.mk.injEq] at h0
      obtain ⟨h1, h2, h3, h4, _⟩ := h0
      subst h1 h2 h3 h4
      clear hfac hnot
      go_enter Tryd.func5, Tryd.ntmps5
      go_wp2_with fail
      refine (awake_any _).mono ?_
      rintro e w1 ⟨rfl, hb1⟩
      go_wp2_with fail
      refine (SpnC.parse_any s _ (by omega)).mono ?_
      rintro e w2 ⟨rfl, hb2⟩
      rw [← HS.out]
      go_wp2_with fail
      go_ret
      exact ⟨rfl, (bel hb1 hb2).alloc (bel hb1 hb2).size _⟩
    · obtain ⟨h1, h2, h3, h4, h5, h6, h7, h8⟩ := hfac rfl
      simp only at h1 h2 h3 h4 h5 h6 h7 h8
      clear hnot
      obtain ⟨f, rfl⟩ : ∃ f : Nat, F = (f : Int) := ⟨F.toNat, by omega⟩
      obtain ⟨t, rfl⟩ : ∃ t : Nat, T = (t : Int) := ⟨T.toNat, by omega⟩
      have hf1 : f ≤ 4611686018427387904 := by omega
      have ht1 : t ≤ 4611686018427387904 := by omega
      have HB : Hid (says (prt f t hf ht) = ((f : Int), (t : Int), hf, ht, true)) := says_prt f t hf ht hf1 ht1 (fun h => by have := h5 h; omega) (fun h => by have := h6 h; omega) h7 (fun a b => by have := h8 a b; omega)
      have HLn : Hid ((prt f t hf ht).length ≤ 100) := prt_len f t hf ht hf1 ht1
      obtain ⟨R, hR⟩ : ∃ R, R = prt f t hf ht := ⟨_, rfl⟩
      rw [← hR] at HB HLn
      have HR := hid hR
      clear hR h1 h2 h3 h4 h5 h6 h7 h8
      go_enter Tryd.func5, Tryd.ntmps5
      go_wp2_with fail
      refine (awake_any _).mono ?_
      rintro e w1 ⟨rfl, hb1⟩
      go_wp2_with fail
      refine (SpnC.parse_any s _ (by omega)).mono ?_
      rintro e w2 ⟨rfl, hb2⟩
      rw [← HS.out]
      have HBA : Hid (Below w.heap.size w (w2.alloc (.cells #[.int .i64 (f : Int), .int .i64 (t : Int), .bool hf, .bool ht] 24))) := (bel hb1 hb2).alloc (bel hb1 hb2).size _
      clear hb1 hb2
      go_wp2_with fail
      refine (print_any f t hf ht _ hf1 ht1 (HP.out.under HBA.out (Nat.le_refl _))).mono ?_
      rintro e w3 ⟨rfl, hb3⟩
      rw [← HR.out]
      have HT3 : Hid (SpnC.T4 w3 w2.heap.size (.int .i64 (f : Int)) (.int .i64 (t : Int)) (.bool hf) (.bool ht)) := SpnC.T4.below (heap_alloc_new w2 _) hb3
      have HB3 : Hid (Below w.heap.size w w3) := bel HBA.out hb3
      clear hb3 HBA
      go_wp2_with fail
      refine (SpnC.parse_any (strOf R) _ (by rw [size_strOf]; have := HLn.out; omega)).mono ?_
      rintro e w4 ⟨rfl, hb4⟩
      rw [show says (strOf R).data.toList = ((f : Int), (t : Int), hf, ht, true) from HB.out]
      have hT4 := HT3.out.below hb4
      obtain ⟨⟨c0, c1, c2, c3⟩, f0, f1, f2, f3⟩ := hT4.facts
      have hlt : w2.heap.size < w4.heap.size := hT4.lt
      have hne : w2.heap.size ≠ w4.heap.size := by omega
      have HB4 : Hid (Below w.heap.size w w4) := bel HB3.out hb4
      clear hT4 f0 f1 f2 f3 hb4 HT3 HB3
      go_wp2_with fail
      go_ret
      exact ⟨rfl, HB4.out.alloc HB4.out.size _⟩
  · have p1 : (300 : Int) < (s.size : Int) := by omega
    go_enter Tryd.func5, Tryd.ntmps5
    go_wp2_with fail
    refine (awake_any _).mono ?_
    rintro e w1 ⟨rfl, hb1⟩
    go_wp2_with fail
    refine (awake_any _).mono ?_
    rintro e w2 ⟨rfl, hb2⟩
    go_wp2_with fail
    go_ret
    exact ⟨rfl, bel hb1 hb2⟩
end Go.Proofs.YtiencfgmdikepaaDoor.Laws
