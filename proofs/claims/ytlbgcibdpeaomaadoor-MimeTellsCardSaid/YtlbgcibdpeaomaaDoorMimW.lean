/- Types: awake. -/
import Derived.Test.YtlbgcibdpeaomaaDoorMimN
namespace Go.Proofs.YtlbgcibdpeaomaaDoor.MimW
open Go.RowKit Go.Proofs.YtlbgcibdpeaomaaDoor.Base Go.Proofs.YtlbgcibdpeaomaaDoor.Base2 Go.Proofs.YtlbgcibdpeaomaaDoor.UtfL Go.Proofs.YtlbgcibdpeaomaaDoor.TokP Go.Proofs.YtlbgcibdpeaomaaDoor.MimP Go.Proofs.YtlbgcibdpeaomaaDoor.MimB Go.Proofs.YtlbgcibdpeaomaaDoor.MimC Go.Proofs.YtlbgcibdpeaomaaDoor.MimD Go.Proofs.YtlbgcibdpeaomaaDoor.MimE Go.Proofs.YtlbgcibdpeaomaaDoor.MimQ Go.Proofs.YtlbgcibdpeaomaaDoor.MimF Go.Proofs.YtlbgcibdpeaomaaDoor.MimH Go.Proofs.YtlbgcibdpeaomaaDoor.MimI Go.Proofs.YtlbgcibdpeaomaaDoor.MimL Go.Proofs.YtlbgcibdpeaomaaDoor.MimN Go.Proofs.YtlbgcibdpeaomaaDoor.Mim0 Go.Proofs.YtlbgcibdpeaomaaDoor.Mim1

def D0 : List UInt8 := [32, 84, 101, 120, 116, 47, 72, 84, 77, 76, 32, 59, 32, 67, 104, 97, 114, 115, 101, 116, 61, 34, 97, 32, 98, 34, 59, 99, 104, 97, 114, 115, 101, 116, 61, 99]
def D1 : List UInt8 := [116, 101, 120, 116]
def D2 : List UInt8 := [104, 116, 109, 108]
def D3 : PL := [([99, 104, 97, 114, 115, 101, 116], [97, 32, 98])]
theorem demo : mime D0 = some ⟨D1, D2, D3⟩ := by kernel_rfl
theorem demo_print : printM D1 D2 D3 = [116, 101, 120, 116, 47, 104, 116, 109, 108, 59, 99, 104, 97, 114, 115, 101, 116, 61, 34, 97, 32, 98, 34] := by kernel_rfl
theorem demo_right : rightL D1 D2 D3 = true := by kernel_rfl
theorem few_demo : FewB (strOf D1) (strOf D2) (psS D3) := ⟨by decide, by decide, by intro p hp; simp [psS, D3] at hp; subst hp; decide⟩
set_option maxRecDepth 100000 in
set_option maxHeartbeats 4000000 in
theorem awake_any (w : World) : Calls Tryd.prog 9 #[] w fun e w' => e = .returned (.bool true) ∧ Below w.heap.size w w' := by
  have hp : ∀ w, Calls Tryd.prog 10 #[.string (strOf D0)] w (PrsA w (strOf D1) (strOf D2) (psS D3) true) := fun w => (MimD.parse_any (strOf D0) w (by decide)).mono fun e w' h => prs_of demo h
  obtain ⟨T, hT⟩ : ∃ T, T = strOf D1 := ⟨_, rfl⟩
  obtain ⟨S, hS⟩ : ∃ S, S = strOf D2 := ⟨_, rfl⟩
  obtain ⟨l, hl⟩ : ∃ l, l = psS D3 := ⟨_, rfl⟩
  have hF := few_demo
  have hpr := demo_print
  have hri := demo_right
  rw [← hT, ← hS, ← hl] at hp hF
  have hPL : PSL l = D3 := by rw [hl, PSL_psS]
  have hTd : T.data.toList = D1 := by rw [hT]; rfl
  have hSd : S.data.toList = D2 := by rw [hS]; rfl
  rw [← hTd, ← hSd, ← hPL] at hpr hri
  obtain ⟨X, hX⟩ : ∃ X : ByteArray, X = strOf (printM T.data.toList S.data.toList (PSL l)) := ⟨_, rfl⟩
  have q1 : (X.toList == [116, 101, 120, 116, 47, 104, 116, 109, 108, 59, 99, 104, 97, 114, 115, 101, 116, 61, 34, 97, 32, 98, 34]) = true := by
    rw [hX, hpr, Lib.toList_data]
    rfl
  have HP := hid hp
  have HPR := hid (fun (A : Option Addr) (n c : Nat) (w : World) (h1 : Prm w A n l) (h2 : n ≤ c) (h3 : c ≤ maxLen) => print_any T S A n c l w h1 h2 h3 hF)
  rw [← hX] at HPR
  have HRI := hid (fun (A : Option Addr) (n c : Nat) (w : World) (h1 : Prm w A n l) (h2 : n ≤ c) (h3 : c ≤ maxLen) => right_any T S A n c l w h1 h2 h3 (MimI.FewB.mid hF))
  rw [hri] at HRI
  have HSA := hid (fun (A : Option Addr) (n c : Nat) (w : World) (h1 : Prm w A n l) (h2 : n ≤ c) (h3 : c ≤ maxLen) => same_any T S A n c l T S A n c l w h1 h1 h2 h3 h2 h3)
  rw [same_self] at HSA
  clear hp hT hS hl hF hpr hri hPL hTd hSd hX
  go_enter Tryd.func9, Tryd.ntmps9
  go_wp2_with fail
  refine (HP.out _).mono ?_
  rintro e w1 ⟨⟨A, n, c, rfl, h1, h2, h3⟩, hb1⟩
  have HB1 := hid hb1
  have H1 := hid h1
  have H2 := hid h2
  have H3 := hid h3
  clear hb1 h1 h2 h3
  go_upto_region 2 with (fail)
  generalize hwa : w1.alloc _ = wa
  have hxa : B3 25 wa w1.heap.size (.string T) (.string S) (.slice A n c) := by rw [← hwa]; exact heap_alloc_new _ _
  have hba : Below w1.heap.size w1 wa := by rw [← hwa]; exact (Below.refl _ _).alloc (Nat.le_refl _) _
  have HXa := hid hxa
  have HBa := hid (bel HB1.out hba)
  have HPa := hid (H3.out.below hba)
  obtain ⟨c0, c1, c2⟩ := hxa.facts
  clear hwa hxa hba
  go_wp2_with fail
  clear c0 c1 c2
  refine (HPR.out _ _ _ _ HPa.out H1.out H2.out).mono ?_
  rintro e w2 ⟨rfl, hb2⟩
  have HX2 := hid (HXa.out.below hb2)
  have HB2 := hid (bel HBa.out hb2)
  have HP2 := hid (HPa.out.below hb2)
  obtain ⟨c0, c1, c2⟩ := HX2.out.facts
  clear hb2
  go_wp2_with fail
  clear c0 c1 c2
  refine (HRI.out _ _ _ _ HP2.out H1.out H2.out).mono ?_
  rintro e w3 ⟨rfl, hb3⟩
  have HX3 := hid (HX2.out.below hb3)
  have HB3 := hid (bel HB2.out hb3)
  have HP3 := hid (HP2.out.below hb3)
  obtain ⟨c0, c1, c2⟩ := HX3.out.facts
  clear hb3
  go_wp2_with fail
  clear c0 c1 c2
  refine (HSA.out _ _ _ _ HP3.out H1.out H2.out).mono ?_
  rintro e w4 ⟨rfl, hb4⟩
  have HB4 := hid (bel HB3.out hb4)
  clear hb4
  go_wp2
  go_ret
  exact ⟨rfl, HB4.out⟩
end Go.Proofs.YtlbgcibdpeaomaaDoor.MimW
