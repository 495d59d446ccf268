/- The walks of the laws MimeReads: they return true, whatever they are called with. -/
import Derived.Test.YtlbgcibdpeaomaaDoorMimW
import Derived.Test.YtlbgcibdpeaomaaDoorMimR
namespace Go.Proofs.YtlbgcibdpeaomaaDoor.Laws
open Go.RowKit Go.Proofs.YtlbgcibdpeaomaaDoor.Base Go.Proofs.YtlbgcibdpeaomaaDoor.Base2 Go.Proofs.YtlbgcibdpeaomaaDoor.UtfL Go.Proofs.YtlbgcibdpeaomaaDoor.TokP Go.Proofs.YtlbgcibdpeaomaaDoor.MimP Go.Proofs.YtlbgcibdpeaomaaDoor.MimB Go.Proofs.YtlbgcibdpeaomaaDoor.MimC Go.Proofs.YtlbgcibdpeaomaaDoor.MimD Go.Proofs.YtlbgcibdpeaomaaDoor.MimE Go.Proofs.YtlbgcibdpeaomaaDoor.MimQ Go.Proofs.YtlbgcibdpeaomaaDoor.MimF Go.Proofs.YtlbgcibdpeaomaaDoor.MimH Go.Proofs.YtlbgcibdpeaomaaDoor.MimI Go.Proofs.YtlbgcibdpeaomaaDoor.MimL Go.Proofs.YtlbgcibdpeaomaaDoor.MimN Go.Proofs.YtlbgcibdpeaomaaDoor.MimW Go.Proofs.YtlbgcibdpeaomaaDoor.Mim0 Go.Proofs.YtlbgcibdpeaomaaDoor.Mim1

set_option linter.unusedSimpArgs false in
set_option maxRecDepth 100000 in
set_option maxHeartbeats 8000000 in
theorem MimeReads_any (s : ByteArray) (w : World) (hs : s.size ≤ 140737488351232) : Calls Tryd.prog 3 #[.string s] w fun e w' => e = .returned (.bool true) ∧ Below w.heap.size w w' := by
  by_cases h1 : s.size ≤ 1000
  · have h1i : ¬ (1000 : Int) < (s.size : Int) := by omega
    obtain ⟨o, ho⟩ : ∃ o, mime s.data.toList = o := ⟨_, rfl⟩
    have hp : ∀ w, Calls Tryd.prog 10 #[.string s] w (PrsA w (strOf (o.getD mt0).ty) (strOf (o.getD mt0).sub) (psS (o.getD mt0).ps) o.isSome) := fun w => (MimD.parse_any s w (by omega)).mono fun e w' h => prs_of ho h
    have hq : ∀ w, Calls Tryd.prog 11 #[.string s] w (PrsA w (strOf (o.getD mt0).ty) (strOf (o.getD mt0).sub) (psS (o.getD mt0).ps) o.isSome) := fun w => (MimR.parse_any s w (by omega)).mono fun e w' h => prs_of ho h
    have hm := mid_of ho (by rw [dl]; omega)
    have hr : o.isSome = true → rightL (strOf (o.getD mt0).ty).data.toList (strOf (o.getD mt0).sub).data.toList (PSL (psS (o.getD mt0).ps)) = true := by
      intro h
      cases o with
      | none => cases h
      | some m => rw [PSL_psS]; exact mime_right ho
    generalize strOf (o.getD mt0).ty = T at hp hq hm hr
    generalize strOf (o.getD mt0).sub = S at hp hq hm hr
    generalize psS (o.getD mt0).ps = l at hp hq hm hr
    generalize o.isSome = b at hp hq hr
    have HP := hid hp
    have HQ := hid hq
    have HSA := hid (fun (A A2 : Option Addr) (n c n2 c2 : Nat) (w : World) (h1 : Prm w A n l) (g1 : Prm w A2 n2 l) (h2 : n ≤ c) (h3 : c ≤ maxLen) (g2 : n2 ≤ c2) (g3 : c2 ≤ maxLen) => refSame_any T S A n c l T S A2 n2 c2 l w h1 g1 h2 h3 g2 g3)
    rw [same_self] at HSA
    have HRI : Hid (b = true → ∀ (A : Option Addr) (n c : Nat) (w : World) (h1 : Prm w A n l) (h2 : n ≤ c) (h3 : c ≤ maxLen), Calls Tryd.prog 13 #[.agg #[.string T, .string S, .slice A n c]] w fun e w' => e = .returned (.bool true) ∧ Below w.heap.size w w') := by
      intro h A n c w h1 h2 h3
      have := right_any T S A n c l w h1 h2 h3 hm
      rw [hr h] at this
      exact this
    clear hp hq hm hr ho h1 hs
    go_enter Tryd.func3, Tryd.ntmps3
    go_wp2_with fail
    refine (awake_any _).mono ?_
    rintro e w1 ⟨rfl, hb⟩
    have HB1 := hid hb
    clear hb
    go_wp2_with fail
    refine (HP.out _).mono ?_
    rintro e w2 ⟨⟨A1, n1, c1, rfl, h1, h2, h3⟩, hb⟩
    have HB2 := hid (bel HB1.out hb)
    clear hb
    have HN1 := hid h1
    have HC1 := hid h2
    have HP1 := hid (h3)
    clear h1 h2 h3
    go_upto_region 4 with (fail)
    generalize hwa : World.alloc _ _ = v3
    have hxa : B3 25 v3 (w2.heap.size) (.string T) (.string S) (.slice A1 n1 c1) := by rw [← hwa]; exact heap_alloc_new _ _
    have hb : Below w2.heap.size w2 v3 := by rw [← hwa]; exact (Below.refl _ _).alloc (Nat.le_refl _) _
    have HX1 := hid hxa
    clear hwa hxa
    have HB3 := hid (bel HB2.out hb)
    have HP1_3 := hid (HP1.out.below hb)
    clear hb
    go_wp2_with fail
    refine (HQ.out _).mono ?_
    rintro e w4 ⟨⟨A2, n2, c2, rfl, h1, h2, h3⟩, hb⟩
    have HB4 := hid (bel HB3.out hb)
    have HP1_4 := hid (HP1_3.out.below hb)
    have HX1_4 := hid (HX1.out.below hb)
    clear hb
    have HN2 := hid h1
    have HC2 := hid h2
    have HP2 := hid (h3)
    clear h1 h2 h3
    go_upto_region 5 with (fail)
    generalize hwa : World.alloc _ _ = v5
    have hxa : B3 25 v5 (w4.heap.size) (.string T) (.string S) (.slice A2 n2 c2) := by rw [← hwa]; exact heap_alloc_new _ _
    have hb : Below w4.heap.size w4 v5 := by rw [← hwa]; exact (Below.refl _ _).alloc (Nat.le_refl _) _
    have HX2 := hid hxa
    clear hwa hxa
    have HB5 := hid (bel HB4.out hb)
    have HP1_5 := hid (HP1_4.out.below hb)
    have HX1_5 := hid (HX1_4.out.below hb)
    have HP2_5 := hid (HP2.out.below hb)
    clear hb
    cases b with
    | false =>
      obtain ⟨c0, c1, c2⟩ := HX1_5.out.facts
      obtain ⟨d0, d1, d2⟩ := HX2.out.facts
      go_wp2_with fail
      clear c0 c1 c2 d0 d1 d2
      refine (HSA.out _ _ _ _ _ _ _ HP1_5.out HP2_5.out HN1.out HC1.out HN2.out HC2.out).mono ?_
      rintro e w6 ⟨rfl, hb⟩
      have HB6 := hid (bel HB5.out hb)
      have HP1_6 := hid (HP1_5.out.below hb)
      have HX1_6 := hid (HX1_5.out.below hb)
      have HP2_6 := hid (HP2_5.out.below hb)
      have HX2_6 := hid (HX2.out.below hb)
      clear hb
      go_wp2
      go_ret
      exact ⟨rfl, HB6.out⟩
    | true =>
      obtain ⟨c0, c1, c2⟩ := HX1_5.out.facts
      obtain ⟨d0, d1, d2⟩ := HX2.out.facts
      go_wp2_with fail
      clear c0 c1 c2 d0 d1 d2
      refine (HSA.out _ _ _ _ _ _ _ HP1_5.out HP2_5.out HN1.out HC1.out HN2.out HC2.out).mono ?_
      rintro e w6 ⟨rfl, hb⟩
      have HB6 := hid (bel HB5.out hb)
      have HP1_6 := hid (HP1_5.out.below hb)
      have HX1_6 := hid (HX1_5.out.below hb)
      have HP2_6 := hid (HP2_5.out.below hb)
      have HX2_6 := hid (HX2.out.below hb)
      clear hb
      obtain ⟨c0, c1, c2⟩ := HX1_6.out.facts
      go_wp2_with fail
      clear c0 c1 c2
      refine (HRI.out (by first | trivial | rfl) _ _ _ _ HP1_6.out HN1.out HC1.out).mono ?_
      rintro e w7 ⟨rfl, hb⟩
      have HB7 := hid (bel HB6.out hb)
      have HP1_7 := hid (HP1_6.out.below hb)
      have HX1_7 := hid (HX1_6.out.below hb)
      have HP2_7 := hid (HP2_6.out.below hb)
      have HX2_7 := hid (HX2_6.out.below hb)
      clear hb
      go_wp2
      go_ret
      exact ⟨rfl, HB7.out⟩
  · have h1i : (1000 : Int) < (s.size : Int) := by omega
    clear h1 hs
    go_enter Tryd.func3, Tryd.ntmps3
    go_wp2_with fail
    refine (awake_any _).mono ?_
    rintro e w1 ⟨rfl, hb⟩
    have HB1 := hid hb
    clear hb
    go_wp2_with fail
    refine (awake_any _).mono ?_
    rintro e w2 ⟨rfl, hb⟩
    have HB2 := hid (bel HB1.out hb)
    clear hb
    go_wp2
    go_ret
    exact ⟨rfl, HB2.out⟩
end Go.Proofs.YtlbgcibdpeaomaaDoor.Laws
