/- The walks of the laws MimeBack: they return true, whatever they are called with. -/
import Derived.Test.YtlbgcibdpeaomaaDoorMimW
import Derived.Test.YtlbgcibdpeaomaaDoorMimK
namespace Go.Proofs.YtlbgcibdpeaomaaDoor.Laws
open Go.RowKit Go.Proofs.YtlbgcibdpeaomaaDoor.Base Go.Proofs.YtlbgcibdpeaomaaDoor.Base2 Go.Proofs.YtlbgcibdpeaomaaDoor.MimK Go.Proofs.YtlbgcibdpeaomaaDoor.UtfL Go.Proofs.YtlbgcibdpeaomaaDoor.TokP Go.Proofs.YtlbgcibdpeaomaaDoor.MimP Go.Proofs.YtlbgcibdpeaomaaDoor.MimB Go.Proofs.YtlbgcibdpeaomaaDoor.MimC Go.Proofs.YtlbgcibdpeaomaaDoor.MimD Go.Proofs.YtlbgcibdpeaomaaDoor.MimE Go.Proofs.YtlbgcibdpeaomaaDoor.MimQ Go.Proofs.YtlbgcibdpeaomaaDoor.MimF Go.Proofs.YtlbgcibdpeaomaaDoor.MimH Go.Proofs.YtlbgcibdpeaomaaDoor.MimI Go.Proofs.YtlbgcibdpeaomaaDoor.MimL Go.Proofs.YtlbgcibdpeaomaaDoor.MimN Go.Proofs.YtlbgcibdpeaomaaDoor.MimW Go.Proofs.YtlbgcibdpeaomaaDoor.Mim0 Go.Proofs.YtlbgcibdpeaomaaDoor.Mim1

theorem box_two {w : World} {a b : Array Value} (t : TypeId) : ((w.alloc (.cells a t)).alloc (.cells b t)).heap[w.heap.size]? = some (.cells a t (0, 0)) ∧ ((w.alloc (.cells a t)).alloc (.cells b t)).heap[w.heap.size + 1]? = some (.cells b t (0, 0)) := by
  constructor
  · exact (((Below.refl _ _).alloc (Nat.le_refl _) _ : Below (w.alloc (.cells a t)).heap.size (w.alloc (.cells a t)) _).block _ (by simp)).trans (heap_alloc_new w _)
  · have h := heap_alloc_new (w.alloc (.cells a t)) (.cells b t)
    simp only [World.size_alloc] at h
    exact h
theorem print_size {T S : ByteArray} {l : List (ByteArray × ByteArray)} (h : FewB T S l) : (printM T.data.toList S.data.toList (PSL l)).length ≤ 20000 := by
  obtain ⟨h1, h2, h3⟩ := h
  have := pps_len h3 l.length (Nat.le_refl _)
  rw [PSL_all] at this
  unfold printM
  rw [List.length_append, ess_len]
  omega
/-- A type and what is known of it. -/
def TyB (T S : ByteArray) (A : Option Addr) (n cap : Nat) (l : List (ByteArray × ByteArray)) (w0 : World) : Prop := Prm w0 A n l ∧ n ≤ cap ∧ cap ≤ maxLen
theorem TyB.below {T S : ByteArray} {A : Option Addr} {n cap : Nat} {l : List (ByteArray × ByteArray)} {w w' : World} (h : TyB T S A n cap l w) (hb : Below w.heap.size w w') : TyB T S A n cap l w' := ⟨h.1.below hb, h.2⟩
theorem few_tb {T S : ByteArray} {A : Option Addr} {n cap : Nat} {l : List (ByteArray × ByteArray)} (hT : T.size ≤ 140737488351232) (hS : S.size ≤ 140737488351232) (hsh : Short l) : ∀ w, TyB T S A n cap l w → Calls Tryd.prog 14 #[.agg #[.string T, .string S, .slice A n cap]] w (SomeFew w T S l) := fun w h => few_any T S A n cap l w h.1 h.2.1 h.2.2 hsh hT hS
theorem refRight_tb {T S : ByteArray} {A : Option Addr} {n cap : Nat} {l : List (ByteArray × ByteArray)} (hF : FewB T S l) : ∀ w, TyB T S A n cap l w → Calls Tryd.prog 17 #[.agg #[.string T, .string S, .slice A n cap]] w fun e w' => e = .returned (.bool (rightL T.data.toList S.data.toList (PSL l))) ∧ Below w.heap.size w w' := fun w h => MimK.refRight_any T S A n cap l w h.1 h.2.1 h.2.2 hF
theorem parse_back {T S : ByteArray} {l : List (ByteArray × ByteArray)} (h : rightL T.data.toList S.data.toList (PSL l) = true) {X : ByteArray} (hX : X.data.toList = printM T.data.toList S.data.toList (PSL l)) (hs : X.size ≤ 20000) :
    ∀ w, Calls Tryd.prog 10 #[.string X] w (PrsA w T S l true) := fun w => (MimD.parse_any X w (by omega)).mono fun e w' hp => by
  have := prs_of (hX ▸ mime_print h) hp
  simp only [Option.getD_some, Option.isSome_some, strOf_toList, psS_PSL] at this
  exact this
set_option linter.unusedSimpArgs false in
set_option maxRecDepth 100000 in
set_option maxHeartbeats 8000000 in
theorem MimeBack_any (T S : ByteArray) (A : Option Addr) (n cap : Nat) (l : List (ByteArray × ByteArray)) (w : World) (hT : T.size ≤ 140737488351232) (hS : S.size ≤ 140737488351232) (hr : Prm w A n l) (hc : n ≤ cap) (hm : cap ≤ maxLen) (hsh : Short l) : Calls Tryd.prog 5 #[.agg #[.string T, .string S, .slice A n cap]] w fun e w' => e = .returned (.bool true) ∧ Below w.heap.size w w' := by
  have HF0 := hid (few_tb (A := A) (n := n) (cap := cap) hT hS hsh)
  have HTY0 : Hid (TyB T S A n cap l w) := ⟨hr, hc, hm⟩
  clear hT hS hsh hr hc hm
  go_enter Tryd.func5, Tryd.ntmps5
  go_upto_region 1 with (fail)
  generalize hwa : World.alloc _ _ = v0
  have hb : Below w.heap.size w v0 := by rw [← hwa]; exact (Below.refl _ _).alloc (Nat.le_refl _) _
  have hxa : B3 25 v0 (w.heap.size) (.string T) (.string S) (.slice A n cap) := by rw [← hwa]; exact heap_alloc_new _ _
  have HX := hid hxa
  clear hwa hxa
  have HB1 := hid hb
  have HTY_1 := hid (HTY0.out.below hb)
  clear hb
  go_wp2_with fail
  refine (awake_any _).mono ?_
  rintro e w2 ⟨rfl, hb⟩
  have HB2 := hid (bel HB1.out hb)
  have HTY_2 := hid (HTY_1.out.below hb)
  have HX_2 := hid (HX.out.below hb)
  clear hb
  obtain ⟨c0, c1, c2⟩ := HX_2.out.facts
  go_wp2_with fail
  clear c0 c1 c2
  refine (HF0.out _ HTY_2.out).mono ?_
  rintro e w3 ⟨fb, rfl, hfb, hb⟩
  have HB3 := hid (bel HB2.out hb)
  have HTY_3 := hid (HTY_2.out.below hb)
  have HX_3 := hid (HX_2.out.below hb)
  clear hb
  cases fb with
  | false =>
    clear hfb
    go_wp2_with fail
    refine (awake_any _).mono ?_
    rintro e w4 ⟨rfl, hb⟩
    have HB4 := hid (bel HB3.out hb)
    have HTY_4 := hid (HTY_3.out.below hb)
    have HX_4 := hid (HX_3.out.below hb)
    clear hb
    go_wp2
    go_ret
    exact ⟨rfl, HB4.out⟩
  | true =>
    have hF := hfb rfl
    clear hfb
    obtain ⟨R, hR⟩ : ∃ R, R = rightL T.data.toList S.data.toList (PSL l) := ⟨_, rfl⟩
    have HRR := hid (fun w h => refRight_tb hF w (h : TyB T S A n cap l w))
    rw [← hR] at HRR
    obtain ⟨c0, c1, c2⟩ := HX_3.out.facts
    go_wp2_with fail
    clear c0 c1 c2
    refine (HRR.out _ HTY_3.out).mono ?_
    rintro e w4 ⟨rfl, hb⟩
    have HB4 := hid (bel HB3.out hb)
    have HTY_4 := hid (HTY_3.out.below hb)
    have HX_4 := hid (HX_3.out.below hb)
    clear hb
    cases R with
    | false =>
      clear hR hF
      go_wp2_with fail
      refine (awake_any _).mono ?_
      rintro e w5 ⟨rfl, hb⟩
      have HB5 := hid (bel HB4.out hb)
      have HTY_5 := hid (HTY_4.out.below hb)
      have HX_5 := hid (HX_4.out.below hb)
      clear hb
      go_wp2
      go_ret
      exact ⟨rfl, HB5.out⟩
    | true =>
      obtain ⟨X, hX⟩ : ∃ X : ByteArray, X = strOf (printM T.data.toList S.data.toList (PSL l)) := ⟨_, rfl⟩
      have hXs : X.size ≤ 20000 := by rw [hX, size_strOf]; exact print_size hF
      have HPR := hid (fun w (h : TyB T S A n cap l w) => print_any T S A n cap l w h.1 h.2.1 h.2.2 hF)
      rw [← hX] at HPR
      have HPA := hid (parse_back hR.symm (X := X) (by rw [hX]; rfl) hXs)
      have HSA := hid (fun (A A2 : Option Addr) (n c n2 c2 : Nat) (w : World) (h1 : TyB T S A n c l w) (h2 : TyB T S A2 n2 c2 l w) => same_any T S A n c l T S A2 n2 c2 l w h1.1 h2.1 h1.2.1 h1.2.2 h2.2.1 h2.2.2)
      rw [same_self] at HSA
      have HSB := hid (fun (A A2 : Option Addr) (n c n2 c2 : Nat) (w : World) (h1 : TyB T S A n c l w) (h2 : TyB T S A2 n2 c2 l w) => refSame_any T S A n c l T S A2 n2 c2 l w h1.1 h2.1 h1.2.1 h1.2.2 h2.2.1 h2.2.2)
      rw [same_self] at HSB
      clear hR hF hX hXs
      obtain ⟨c0, c1, c2⟩ := HX_4.out.facts
      go_wp2_with fail
      clear c0 c1 c2
      refine (HPR.out _ HTY_4.out).mono ?_
      rintro e w5 ⟨rfl, hb⟩
      have HB5 := hid (bel HB4.out hb)
      have HTY_5 := hid (HTY_4.out.below hb)
      have HX_5 := hid (HX_4.out.below hb)
      clear hb
      go_wp2_with fail
      refine (HPA.out _).mono ?_
      rintro e w6 ⟨⟨A1, n1, c1, rfl, h1, h2, h3⟩, hb⟩
      have HB6 := hid (bel HB5.out hb)
      have HTY_6 := hid (HTY_5.out.below hb)
      have HX_6 := hid (HX_5.out.below hb)
      clear hb
      have ht1 : TyB T S A1 n1 c1 l w6 := ⟨h3, h1, h2⟩
      have HT1 := hid (ht1)
      clear h1 h2 h3 ht1
      go_upto_region 4 with (fail)
      generalize hwa : World.alloc _ _ = v7
      have hxa : B3 25 v7 (w6.heap.size) (.string T) (.string S) (.slice A1 n1 c1) := by rw [← hwa]; exact heap_alloc_new _ _
      have hb : Below w6.heap.size w6 v7 := by rw [← hwa]; exact (Below.refl _ _).alloc (Nat.le_refl _) _
      have HX1 := hid hxa
      clear hwa hxa
      have HB7 := hid (bel HB6.out hb)
      have HTY_7 := hid (HTY_6.out.below hb)
      have HX_7 := hid (HX_6.out.below hb)
      have HT1_7 := hid (HT1.out.below hb)
      clear hb
      obtain ⟨c0, c1, c2⟩ := HX_7.out.facts
      obtain ⟨d0, d1, d2⟩ := HX1.out.facts
      go_wp2_with fail
      clear c0 c1 c2 d0 d1 d2
      refine (HSA.out _ _ _ _ _ _ _ HT1_7.out HTY_7.out).mono ?_
      rintro e w8 ⟨rfl, hb⟩
      have HB8 := hid (bel HB7.out hb)
      have HTY_8 := hid (HTY_7.out.below hb)
      have HX_8 := hid (HX_7.out.below hb)
      have HT1_8 := hid (HT1_7.out.below hb)
      have HX1_8 := hid (HX1.out.below hb)
      clear hb
      obtain ⟨c0, c1, c2⟩ := HX_8.out.facts
      obtain ⟨d0, d1, d2⟩ := HX1_8.out.facts
      go_wp2_with fail
      clear c0 c1 c2 d0 d1 d2
      refine (HSB.out _ _ _ _ _ _ _ HT1_8.out HTY_8.out).mono ?_
      rintro e w9 ⟨rfl, hb⟩
      have HB9 := hid (bel HB8.out hb)
      have HTY_9 := hid (HTY_8.out.below hb)
      have HX_9 := hid (HX_8.out.below hb)
      have HT1_9 := hid (HT1_8.out.below hb)
      have HX1_9 := hid (HX1_8.out.below hb)
      clear hb
      go_wp2
      go_ret
      exact ⟨rfl, HB9.out⟩
end Go.Proofs.YtlbgcibdpeaomaaDoor.Laws
