/- The walk of the law PathWalks: it returns true, whatever it is called with. -/
import Derived.Test.YtpodicomfmkpcaaPthQ
namespace Go.Proofs.Ytpodicomfmkpcaa.Laws
open Go.RowKit Go.Proofs.Ytpodicomfmkpcaa.Base Go.Proofs.Ytpodicomfmkpcaa.Base2 Go.Proofs.Ytpodicomfmkpcaa.Base3 Go.Proofs.Ytpodicomfmkpcaa.PthP Go.Proofs.Ytpodicomfmkpcaa.PthE Go.Proofs.Ytpodicomfmkpcaa.PthG Go.Proofs.Ytpodicomfmkpcaa.PthH Go.Proofs.Ytpodicomfmkpcaa.PthI Go.Proofs.Ytpodicomfmkpcaa.PthJ Go.Proofs.Ytpodicomfmkpcaa.PthL Go.Proofs.Ytpodicomfmkpcaa.PthM Go.Proofs.Ytpodicomfmkpcaa.PthN Go.Proofs.Ytpodicomfmkpcaa.PthQ

set_option linter.unusedSimpArgs false in
set_option maxRecDepth 100000 in
set_option maxHeartbeats 4000000 in
theorem PathWalks_any (file sp : Bool) (A : Option Addr) (n cap : Nat) (l : List ByteArray) (s : ByteArray) (w : World) (hR : Rds w A n (l.map Value.string)) (hnc : n ≤ cap) (hcm : cap ≤ maxLen) (_hk : ∀ s ∈ l, s.size ≤ maxLen) (_hs : s.size ≤ maxLen) :
    Calls Try.prog 4 #[.bool file, .bool sp, .slice A n cap, .string s] w fun e w' => e = .returned (.bool true) ∧ Below w.heap.size w w' := by
  obtain ⟨i0, hi, hz0, hz1, hz2⟩ := info_parts info_str
  have hln : l.length = n := by rw [← hR.1, List.length_map]
  have HLN := hid hln
  have HR := hid hR
  obtain ⟨F, hF⟩ : ∃ F, F = PthW.fewB l := ⟨_, rfl⟩
  have HF := hid hF
  clear hR hF hln
  go_enter Try.func4, Try.ntmps4
  go_wp2_with fail
  refine (PthW.awake_any _).mono ?_
  rintro e w2 ⟨rfl, hb2⟩
  go_wp2_with fail
  refine (PthW.few_any _ _ _ _ _ (HR.out.below hb2) hnc hcm).mono ?_
  rintro e w3 ⟨rfl, hw3⟩
  subst hw3
  rw [← HF.out]
  cases F with
  | false =>
    go_wp2_with fail
    refine (PthW.awake_any _).mono ?_
    rintro e w3 ⟨rfl, hb3⟩
    go_wp2
    go_ret
    exact ⟨rfl, bel hb2 hb3⟩
  | true =>
    by_cases h400 : s.size ≤ 400
    · have hn20 : n ≤ 20 := by
        have h := HF.out.symm
        unfold PthW.fewB at h
        rw [Bool.and_eq_true] at h
        have := of_decide_eq_true h.2
        rw [HLN.out] at this
        exact this
      have hownA : (w2.alloc (.cells #[] 9)).ownsRow w.heap.size 9 1 (.slice (some ⟨w2.heap.size, 0, none⟩) 0 0) 0 [] := owns_base (World.ownsRow_made w2 #[] 0 (Nat.le_refl _) (by decide) rfl) hb2.size
      have hbelA : Below w.heap.size w (w2.alloc (.cells #[] 9)) := hb2.alloc hb2.size _
      have HRA : Hid (Rds (w2.alloc (.cells #[] 9)) A n (l.map Value.string)) := HR.out.below hbelA
      clear hb2
      go_wp2_with (at_builtin; refine wpList_app_any rfl _ _ 24 rfl w.heap.size 9 i0 (.string ByteArray.empty) 16 Try.underlying24 hi hz0 hz1 hz2 rfl _ 0 [] rfl hownA hbelA hbelA.size A n cap (l.map Value.string) rfl HRA.out (strs_one _) (by unfold maxLen; omega) (by omega) ?_)
      intro v3 w3 hown3 hbel3
      replace hown3 : w3.ownsRow w.heap.size 9 1 v3 n (l.map Value.string) := by simpa using hown3
      clear hownA hbelA HRA
      obtain ⟨wA, wc, rfl, hwnc, hwcm, hwR⟩ := owns_form hown3
      have HWR := hid hwR
      have HB3 := hid hbel3
      clear hwR hown3 hbel3
      go_wp2_with fail
      refine (walk_any file sp A n cap l s _ (HR.out.below HB3.out) hnc hcm (by omega)).mono ?_
      obtain ⟨X, hX⟩ : ∃ X, X = wb file sp l [] s.data.toList := ⟨_, rfl⟩
      rw [← hX]
      have HX := hid hX
      clear hX
      rintro e w4 ⟨v4, rfl, hown4, hb4⟩
      obtain ⟨xA, xc, rfl, hxnc, hxcm, hxR⟩ := owns_form hown4
      have HXR := hid hxR
      have HWR4 := hid (HWR.out.below hb4)
      have HB4 : Hid (Below w.heap.size w w4) := bel HB3.out hb4
      clear hxR hown4 hb4
      go_wp2_with fail
      refine (shorten_any file A n cap l _ (HR.out.below HB4.out) hnc hcm (by omega)).mono ?_
      obtain ⟨Y, hY⟩ : ∃ Y, Y = sho file l := ⟨_, rfl⟩
      have hyl : Y.length ≤ n := by have := length_sho_le file l; rw [← hY, HLN.out] at this; exact this
      rw [← hY]
      have HY := hid hY
      clear hY
      rintro e w5 ⟨v5, rfl, hown5, hb5⟩
      obtain ⟨m, hm⟩ : ∃ m, m = Y.length := ⟨_, rfl⟩
      rw [← hm] at hown5 hyl
      obtain ⟨yA, yc, rfl, hync, hycm, hyR⟩ := owns_form hown5
      have hyA : m = 0 ∨ ∃ g, yA = some ⟨g, 0, none⟩ ∧ w4.heap.size ≤ g ∧ g < w5.heap.size := by
        rcases hown5.2 with ⟨h1, h2⟩ | ⟨g, c', cur, h1, h2, h3, _⟩
        · exact .inl h2
        · injection h1 with h1 _ _
          exact .inr ⟨g, h1, h2, (Array.getElem?_eq_some_iff.1 h3).1⟩
      have HYA := hid hyA
      have HO5 := hid hown5
      have HB5 := hid hb5
      have HM := hid hm
      unfold maxLen at hycm
      clear hyR hyA hown5 hb5 hm
      go_wp2
      go_loopw [12, 39] (fun _ vk wr => ∃ (k : Nat) (xs : List Value), k ≤ m ∧ vk = .int .i64 (k : Int) ∧ Hid (wr.ownsRow w4.heap.size 9 1 (.slice yA m yc) m xs) ∧ Hid (Below w4.heap.size w4 wr)) (fun _ vk _ => m - (intOf vk).toNat)
      case atStart => exact ⟨0, _, Nat.zero_le _, rfl, HO5, HB5⟩
      case round =>
        clear HO5 HB5
        obtain ⟨k, xs, hk, rfl, HO, HBW⟩ := hrel
        by_cases hlt : k < m
        · obtain ⟨g, rfl, hg4, hg5⟩ : ∃ g, yA = some ⟨g, 0, none⟩ ∧ w4.heap.size ≤ g ∧ g < w5.heap.size := HYA.out.resolve_left (by omega)
          have hxl : xs.length = m := by have := HO.out.1; rw [Nat.mul_one] at this; exact this
          obtain ⟨u, hcell⟩ : ∃ u, wr.cell? ⟨g, k, none⟩ = some u := ⟨xs[k]'(by omega), by rw [HO.out.cellAt k (by omega)]; exact List.getElem?_eq_getElem _⟩
          have hfr := HO.out.frozenAt k
          have hst := (HO.out.stored k (.string ⟨#[99, 104, 97, 110, 103, 101, 100]⟩)).1
          have HST := hid hst
          have HBS : Hid (Below w4.heap.size w4 (wr.setCell ⟨g, k, none⟩ (.string ⟨#[99, 104, 97, 110, 103, 101, 100]⟩))) := HBW.out.setCell hg4 _
          clear hst hxl
          go_wp2
          go_roundw
          case rel => exact ⟨k + 1, _, by omega, by go_num, HST, HBS⟩
          case measure => simp [intOf]; omega
        · obtain rfl : k = m := by omega
          have HBR : Hid (Below w.heap.size w wr) := bel HB4.out HBW.out
          have HXR2 := hid (HXR.out.below HBW.out)
          have HWR2 := hid (HWR4.out.below HBW.out)
          clear HXR HWR HWR4
          go_wp2_with fail
          refine (refWalk_any file sp A n cap l s _ (HR.out.below HBR.out) hnc hcm (by omega)).mono ?_
          rw [← HX.out]
          rintro e w6 ⟨v6, rfl, hown6, hb6⟩
          obtain ⟨zA, zc, rfl, hznc, hzcm, hzR⟩ := owns_form hown6
          have HZR := hid hzR
          have HB6 : Hid (Below w.heap.size w w6) := bel HBR.out hb6
          have HXR3 := hid (HXR2.out.below hb6)
          have HWR3 := hid (HWR2.out.below hb6)
          clear HXR2 HWR2 hzR hown6 hb6
          go_wp2_with fail
          refine (ref10_any _ _ _ _ _ _ _ _ _ HXR3.out HZR.out hxnc hxcm hznc hzcm).mono ?_
          rintro e w7 ⟨rfl, hb7⟩
          rw [decide_eq_true rfl]
          have HB7 : Hid (Below w.heap.size w w7) := bel HB6.out hb7
          have HWR5 := hid (HWR3.out.below hb7)
          clear HXR3 HWR3 HZR hb7
          go_wp2_with fail
          refine (shorten_any file A n cap l _ (HR.out.below HB7.out) hnc hcm (by omega)).mono ?_
          rw [← HY.out]
          rintro e w8 ⟨v8, rfl, hown8, hb8⟩
          obtain ⟨aA, ac, rfl, hanc, hacm, haR⟩ := owns_form hown8
          have HAR := hid haR
          have HB8 : Hid (Below w.heap.size w w8) := bel HB7.out hb8
          have HWR6 := hid (HWR5.out.below hb8)
          clear haR hown8 hb8 HWR5
          go_wp2_with fail
          refine (refShorten_any file A n cap l _ (HR.out.below HB8.out) hnc hcm (by omega)).mono ?_
          rw [← HY.out]
          rintro e w9 ⟨bA, bn, bc, rfl, hbn, hbnc, hbcm, hbR, hb9⟩
          have HBRR := hid hbR
          have HB9 : Hid (Below w.heap.size w w9) := bel HB8.out hb9
          have HAR9 := hid (HAR.out.below hb9)
          have HWR7 := hid (HWR6.out.below hb9)
          clear hbR hb9 HAR HWR6 hbn
          go_wp2_with fail
          refine (ref10_any _ _ _ _ _ _ _ _ _ HAR9.out HBRR.out hanc hacm hbnc hbcm).mono ?_
          rintro e w10 ⟨rfl, hb10⟩
          rw [decide_eq_true rfl]
          have HB10 : Hid (Below w.heap.size w w10) := bel HB9.out hb10
          have HWR8 := hid (HWR7.out.below hb10)
          clear HAR9 HBRR hb10 HWR7
          go_wp2_with fail
          refine (ref10_any _ _ _ _ _ _ _ _ _ (HR.out.below HB10.out) HWR8.out hnc hcm hwnc hwcm).mono ?_
          rintro e w11 ⟨rfl, hb11⟩
          rw [decide_eq_true rfl]
          go_wp2
          go_ret
          exact ⟨rfl, bel HB10.out hb11⟩
    · go_wp2_with fail
      refine (PthW.awake_any _).mono ?_
      rintro e w3 ⟨rfl, hb3⟩
      go_wp2
      go_ret
      exact ⟨rfl, bel hb2 hb3⟩
end Go.Proofs.Ytpodicomfmkpcaa.Laws
