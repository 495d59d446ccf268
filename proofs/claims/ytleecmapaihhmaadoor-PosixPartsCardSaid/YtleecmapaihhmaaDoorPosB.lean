/- Which paths with slashes are fine, by the code and by the document. -/
import Derived.Test.YtleecmapaihhmaaDoorPosA
import Derived.Test.YtleecmapaihhmaaDoorMB
set_option linter.unusedSimpArgs false
set_option linter.unusedVariables false
namespace Go.Proofs.YtleecmapaihhmaaDoor.PosB
open Go.RowKit Go.Proofs.YtleecmapaihhmaaDoor.Base Go.Proofs.YtleecmapaihhmaaDoor.Base2 Go.Proofs.YtleecmapaihhmaaDoor.Base3 Go.Proofs.YtleecmapaihhmaaDoor.SlsP Go.Proofs.YtleecmapaihhmaaDoor.PosQ Go.Proofs.YtleecmapaihhmaaDoor.Sls Go.Proofs.YtleecmapaihhmaaDoor.PosA
open Go.Proofs.YtleecmapaihhmaaDoor.Spl (Max)
open Go.Proofs.YtleecmapaihhmaaDoor.UtfR (val)

theorem pre47 : ∀ L : List UInt8, Lib.hasPrefix L [47] = decide (L.head? = some 47)
  | [] => rfl
  | c :: L => by
    by_cases h : c = 47
    · subst h
      rw [decide_eq_true (show (47 :: L).head? = some 47 from rfl)]
      simp [Lib.hasPrefix, List.isPrefixOf]
    · rw [decide_eq_false (by simpa using h)]
      simp only [Lib.hasPrefix, List.isPrefixOf, Bool.and_true, beq_eq_false_iff_ne, ne_eq]
      exact fun e => h e.symm
theorem ext1 (s : ByteArray) : (s.extract 1 s.size).data.toList = s.data.toList.drop 1 := by
  rw [Regs.ext_drop s 1 s.size rfl]
  rfl
theorem ext1_size (s : ByteArray) : (s.extract 1 s.size).size ≤ s.size := by rw [ByteArray.size_extract]; omega
set_option linter.unusedSimpArgs false in
set_option maxRecDepth 100000 in
set_option maxHeartbeats 8000000 in
theorem refFine_any (s : ByteArray) (w : World) (hs : s.size ≤ 900000) :
    Calls Tryd.prog 10 #[.string s] w fun e w' => e = .returned (.bool (fine s.data.toList)) ∧ Below w.heap.size w w' := by
  have hl : s.data.toList.length = s.size := Array.length_toList
  obtain ⟨b, hb⟩ : ∃ b, b = fine s.data.toList := ⟨_, rfl⟩
  rw [← hb]
  obtain ⟨v, hv⟩ : ∃ v, v = val s.data.toList := ⟨_, rfl⟩
  obtain ⟨z, hz⟩ : ∃ z, z = s.data.toList.contains 0 := ⟨_, rfl⟩
  obtain ⟨l, hll⟩ : ∃ l, l = spl 47 (s.data.toList.drop 1) := ⟨_, rfl⟩
  obtain ⟨E, hE⟩ : ∃ E, E = okRow l := ⟨_, rfl⟩
  have hV : b = (v && decide (s.data.toList.head? = some 47) && !z && E) := by rw [hb, hv, hz, hE, hll]; rfl
  have HHA : Hid (∀ w : World, Calls Tryd.prog 16 #[.string s, .int .u8 0] w fun e w' => e = .returned (.bool z) ∧ w = w') := fun w => by rw [hz]; exact TokA.has_any s 0 w (by omega)
  have Hcap : ∀ w : World, s.size ≤ grownCap w s.size 0 5 := fun w => grownCap_ge w s.size 0 5
  have HCAP := hid Hcap
  have HVA : Hid (∀ (A : Option Addr) (n cap : Nat) (w : World), Rds w A n (bcells s.data.toList) → n ≤ 1073741824 → n ≤ cap → Calls Tryd.prog 15 #[.slice A n cap] w fun e w' => e = .returned (.bool v) ∧ Below w.heap.size w w') := fun A n cap w h1 h2 h3 => by rw [hv]; exact RefV.valid_any A n cap _ w h1 h2 h3
  have HPA : Hid (∀ w : World, Calls Tryd.prog 20 #[.string (s.extract 1 s.size), .int .u8 47] w (OwnedL w l)) := fun w => by rw [hll, ← ext1]; exact refParts47_any _ w (by have := ext1_size s; omega)
  have hcv := fun (w : World) s => run_bytes_of_string (P := Tryd.prog) w 9 37 5 s Tryd.underlying9 Tryd.underlying37 Tryd.underlying5
  have hlen : l ≠ [] := by rw [hll]; exact spl_ne 47 _
  have hlen2 : l.length ≤ 900001 := by rw [hll]; have := length_spl 47 (s.data.toList.drop 1); rw [List.length_drop, hl] at this; omega
  have HL0 := hid hlen
  have HL2 := hid hlen2
  have HEE := hid hE
  have HVL := hid hV
  have HS9 := hid hs
  clear Hcap hb hz hll hE hv hlen hlen2 hs
  by_cases e0 : s.data.toList = []
  · have q0 : s.toList = [] := by rw [tl]; exact e0
    have HF : Hid (b = false) := by show _ = _; rw [hV, e0]; simp
    clear e0 hl hV
    go_enter Tryd.func10, Tryd.ntmps10
    go_wp2
    go_ret
    exact ⟨by rw [HF.out]; first | done | rfl, Below.refl _ _⟩
  · have q0 : (s.toList == []) = false := by rw [tl, beq_eq_false_iff_ne]; exact e0
    have q0' : s.toList.isEmpty = false := by rw [tl]; simpa using e0
    have h0 : 0 < s.size := by rw [← hl]; exact List.length_pos_iff.2 e0
    obtain ⟨c, hc⟩ : ∃ c, s[0] = c := ⟨_, rfl⟩
    have hhd : s.data.toList.head? = some c := by
      rw [List.head?_eq_getElem?, List.getElem?_eq_getElem (by rw [hl]; exact h0)]
      exact congrArg some hc
    have h0i : (1 : Int) ≤ (s.size : Int) := by omega
    by_cases h47 : c = 47
    · have q1 : ((c.toNat : Int) != 47) = false := by rw [h47]; rfl
      have hV2 : b = (v && !z && E) := by rw [hV, hhd, h47]; simp
      have HV2 := hid hV2
      clear e0 hl hV hhd h47 hV2
      cases z with
      | true =>
        have HF : Hid (b = false) := by show _ = _; rw [HV2.out]; simp
        go_enter Tryd.func10, Tryd.ntmps10
        go_wp2_with fail
        refine (HHA.out _).mono ?_
        rintro e w2 ⟨rfl, rfl⟩
        go_wp2
        go_ret
        exact ⟨by rw [HF.out]; first | done | rfl, Below.refl _ _⟩
      | false =>
        cases v with
        | false =>
          have HF : Hid (b = false) := by show _ = _; rw [HV2.out]; simp
          go_enter Tryd.func10, Tryd.ntmps10
          go_wp2_with fail
          refine (HHA.out _).mono ?_
          rintro e w2 ⟨rfl, hw2⟩
          subst hw2
          go_wp2_with fail
          refine (HVA.out _ s.size _ _ (rds_made s _ _ 5) (by have := HS9.out; omega) (HCAP.out _)).mono ?_
          rintro e w3 ⟨rfl, hb3⟩
          have HB := hid (((Below.refl w.heap.size w).alloc (Nat.le_refl _) _).drew.trans (hb3.mono (by simp)))
          clear hb3 hcv
          go_wp2
          go_ret
          exact ⟨by rw [HF.out]; first | done | rfl, HB.out⟩
        | true =>
          have HF : Hid (b = E) := by show _ = _; rw [HV2.out]; simp
          go_enter Tryd.func10, Tryd.ntmps10
          go_wp2_with fail
          refine (HHA.out _).mono ?_
          rintro e w2 ⟨rfl, hw2⟩
          subst hw2
          go_wp2_with fail
          refine (HVA.out _ s.size _ _ (rds_made s _ _ 5) (by have := HS9.out; omega) (HCAP.out _)).mono ?_
          rintro e w3 ⟨rfl, hb3⟩
          have HB := hid (((Below.refl w.heap.size w).alloc (Nat.le_refl _) _).drew.trans (hb3.mono (by simp)))
          clear hb3 hcv
          go_wp2_with fail
          refine (HPA.out _).mono ?_
          rintro e w4 ⟨v4, rfl, hown, hb4⟩
          obtain ⟨A4, c4, rfl, hc4, hm4, hr4⟩ := owns_form hown
          have HB4 := hid (bel HB.out hb4)
          have HR4 := hid hr4
          clear hown hb4 hr4
          go_wp2_with fail
          refine (rows_any A4 l.length c4 l _ HR4.out (by have := HL2.out; omega)).mono ?_
          rintro e w5 ⟨rfl, rfl⟩
          rw [← HEE.out, show decide (0 < l.length) = true from decide_eq_true (List.length_pos_iff.2 HL0.out), Bool.and_true]
          go_wp2
          go_ret
          exact ⟨by rw [HF.out]; first | done | rfl, HB4.out⟩
    · have q1 : ((c.toNat : Int) != 47) = true := by have h := ne_u8 (d := 47) h47; unfold bne; rw [show ((c.toNat : Int) == 47) = false from h]; rfl
      have HF : Hid (b = false) := by show _ = _; rw [hV, hhd]; simp [h47]
      clear e0 hl hV hhd h47
      go_enter Tryd.func10, Tryd.ntmps10
      go_wp2
      go_ret
      exact ⟨by rw [HF.out]; first | done | rfl, Below.refl _ _⟩
set_option linter.unusedSimpArgs false in
set_option maxRecDepth 100000 in
set_option maxHeartbeats 8000000 in
theorem fine_any (s : ByteArray) (w : World) (hs : s.size ≤ 900000) (hM : Max w) :
    Calls Tryd.prog 9 #[.string s] w fun e w' => e = .returned (.bool (fine s.data.toList)) ∧ Below w.heap.size w w' := by
  have hl : s.data.toList.length = s.size := Array.length_toList
  obtain ⟨b, hb⟩ : ∃ b, b = fine s.data.toList := ⟨_, rfl⟩
  rw [← hb]
  obtain ⟨v, hv⟩ : ∃ v, v = val s.data.toList := ⟨_, rfl⟩
  obtain ⟨z, hz⟩ : ∃ z, z = s.data.toList.contains 0 := ⟨_, rfl⟩
  obtain ⟨l, hll⟩ : ∃ l, l = spl 47 (s.data.toList.drop 1) := ⟨_, rfl⟩
  obtain ⟨E, hE⟩ : ∃ E, E = okRow l := ⟨_, rfl⟩
  have hV : b = (v && decide (s.data.toList.head? = some 47) && !z && E) := by rw [hb, hv, hz, hE, hll]; rfl
  have HVA : Hid (∀ (A : Option Addr) (n cap : Nat) (w : World), Rds w A n (bcells s.data.toList) → n ≤ 1073741824 → n ≤ cap → Calls Tryd.prog 21 #[.slice A n cap] w fun e w' => e = .returned (.bool v) ∧ Below w.heap.size w w') := fun A n cap w h1 h2 h3 => by rw [hv]; exact UtfR.valid_any A n cap _ w h1 h2 h3
  obtain ⟨p, hp⟩ : ∃ p, p = decide (s.data.toList.head? = some 47) := ⟨_, rfl⟩
  have HPX : Hid (∀ w : World, Calls Tryd.prog 22 #[.string s, .string ⟨#[47]⟩] w fun e w' => e = .returned (.bool p) ∧ w' = w) := fun w => by rw [hp, ← pre47]; exact Tryd.strings_HasPrefix s ⟨#[47]⟩ w
  have HCT : Hid (∀ w : World, Calls Tryd.prog 23 #[.string s, .string ⟨#[0]⟩] w fun e w' => e = .returned (.bool z) ∧ w = w') := fun w => by rw [hz]; exact contains1_any 0 s w
  have HSP : Hid (∀ w : World, Max w → Calls Tryd.prog 18 #[.string (s.extract 1 s.size), .string ⟨#[47]⟩] w (Spl.Read w l)) := fun w h => by rw [hll, ← ext1]; exact split47_any _ w (by have := ext1_size s; omega) h
  have HCAP : Hid (∀ w : World, s.size ≤ grownCap w s.size 0 5) := fun w => grownCap_ge w s.size 0 5
  have hcv := fun (w : World) s => run_bytes_of_string (P := Tryd.prog) w 9 37 5 s Tryd.underlying9 Tryd.underlying37 Tryd.underlying5
  have hpos : p = true → 1 ≤ s.size := by
    intro h
    rw [hp, decide_eq_true_iff] at h
    rw [← hl]
    cases e : s.data.toList with
    | nil => rw [e] at h; cases h
    | cons a t => simp
  rw [← hp] at hV
  have HPO := hid hpos
  have HEE := hid hE
  have HVL := hid hV
  have HS9 := hid hs
  have HM := hid hM
  have hlen2 : l.length ≤ 900001 := by rw [hll]; have := length_spl 47 (s.data.toList.drop 1); rw [List.length_drop, hl] at this; omega
  clear hb hz hll hE hv hs hl hV hp hpos hM
  go_enter Tryd.func9, Tryd.ntmps9
  go_wp2_with fail
  refine (HVA.out _ s.size _ _ (rds_made s _ _ 5) (by have := HS9.out; omega) (HCAP.out _)).mono ?_
  rintro e w3 ⟨rfl, hb3⟩
  have HB := hid (((Below.refl w.heap.size w).alloc (Nat.le_refl _) _).drew.trans (hb3.mono (by simp)))
  clear hb3 hcv
  cases v with
  | false =>
    have HF : Hid (b = false) := by show _ = _; rw [HVL.out]; simp
    go_wp2
    go_ret
    exact ⟨by rw [HF.out]; first | done | rfl, HB.out⟩
  | true =>
    go_wp2_with fail
    refine (HPX.out _).mono ?_
    rintro e w4 ⟨rfl, hw4⟩
    subst hw4
    cases p with
    | false =>
      have HF : Hid (b = false) := by show _ = _; rw [HVL.out]; simp
      go_wp2
      go_ret
      exact ⟨by rw [HF.out]; first | done | rfl, HB.out⟩
    | true =>
      have h0i : (1 : Int) ≤ (s.size : Int) := by have := HPO.out rfl; omega
      go_wp2_with fail
      refine (HCT.out _).mono ?_
      rintro e w5 ⟨rfl, hw5⟩
      subst hw5
      cases z with
      | true =>
        have HF : Hid (b = false) := by show _ = _; rw [HVL.out]; simp
        go_wp2
        go_ret
        exact ⟨by rw [HF.out]; first | done | rfl, HB.out⟩
      | false =>
        have HF : Hid (b = E) := by show _ = _; rw [HVL.out]; simp
        go_wp2_with fail
        refine (HSP.out _ (HM.out.below HB.out)).mono ?_
        rintro e w6 ⟨A, n, cp, rfl, hn, hnc, hcm, hR, hb6⟩
        have HN : Hid (l.length = n) := hn.symm
        have HR := hid hR
        have HB6 := hid (bel HB.out hb6)
        have hm : n ≤ 900001 := by omega
        have HE0 : Hid (E = okRow (l.drop 0)) := HEE.out
        clear hn hR hb6 hcm hlen2
        go_wp2
        go_loopw [4, 5, 24] (fun _ _ vk wr => ∃ k : Nat, k ≤ n ∧ vk = .int .i64 (k : Int) ∧ wr = w6 ∧ Hid (E = okRow (l.drop k))) (fun _ _ vk _ => n - (intOf vk).toNat)
        case atStart => exact ⟨0, Nat.zero_le _, rfl, rfl, HE0⟩
        case round =>
          clear HE0
          obtain ⟨k, hk, rfl, rfl, HE⟩ := hrel
          by_cases hlt : k < n
          · obtain ⟨g, off, rfl, hg, hc⟩ := cell_at HR.out k hlt HN.out
            obtain ⟨x, hx⟩ : ∃ x, x = l[k]'(by rw [HN.out]; exact hlt) := ⟨_, rfl⟩
            rw [← hx] at hc
            have hok := okRow_drop l k (by rw [HN.out]; exact hlt)
            rw [show l[k]'(by rw [HN.out]; exact hlt) = x from hx.symm, HN.out] at hok
            by_cases h1 : x = [46]
            · have f1 : ((strOf x).toList == [46]) = true := by rw [tl, h1]; rfl
              have HE2 : Hid (E = false) := by show _ = _; rw [HE.out, hok]; simp [okOne, h1]
              clear hok hx h1
              go_wp2
              go_ret
              exact ⟨by rw [HF.out, HE2.out]; first | done | rfl, HB6.out⟩
            · have f1 : ((strOf x).toList == [46]) = false := by rw [tl, beq_eq_false_iff_ne]; exact h1
              by_cases h2 : x = [46, 46]
              · have f2 : ((strOf x).toList == [46, 46]) = true := by rw [tl, h2]; rfl
                have HE2 : Hid (E = false) := by show _ = _; rw [HE.out, hok]; simp [okOne, h2]
                clear hok hx h1 h2
                go_wp2
                go_ret
                exact ⟨by rw [HF.out, HE2.out]; first | done | rfl, HB6.out⟩
              · have f2 : ((strOf x).toList == [46, 46]) = false := by rw [tl, beq_eq_false_iff_ne]; exact h2
                by_cases h3 : x = []
                · have f3 : (strOf x).toList = [] := by rw [tl]; exact h3
                  by_cases hla : k + 1 = n
                  · have hli : ¬ (k : Int) < (n : Int) - 1 := by omega
                    have HE2 : Hid (E = okRow (l.drop (k + 1))) := by show _ = _; rw [HE.out, hok]; simp [okOne, h1, h2, h3, hla]
                    clear hok hx h1 h2 h3 hla
                    go_wp2
                    go_roundw
                    case rel => exact ⟨k + 1, by omega, by go_num, by first | rfl | trivial, HE2⟩
                    case measure => simp [intOf]; omega
                  · have hli : (k : Int) < (n : Int) - 1 := by omega
                    have HE2 : Hid (E = false) := by show _ = _; rw [HE.out, hok]; simp [okOne, h1, h2, h3, hla]
                    clear hok hx h1 h2 h3 hla
                    go_wp2
                    go_ret
                    exact ⟨by rw [HF.out, HE2.out]; first | done | rfl, HB6.out⟩
                · have f3 : ((strOf x).toList == []) = false := by rw [tl, beq_eq_false_iff_ne]; exact h3
                  have f3' : (strOf x).toList.isEmpty = false := by rw [tl]; simpa [strOf] using h3
                  have HE2 : Hid (E = okRow (l.drop (k + 1))) := by show _ = _; rw [HE.out, hok]; simp [okOne, h1, h2, h3]
                  clear hok hx h1 h2 h3
                  go_wp2
                  go_roundw
                  case rel => exact ⟨k + 1, by omega, by go_num, by first | rfl | trivial, HE2⟩
                  case measure => simp [intOf]; omega
          · obtain rfl : k = n := by omega
            have HE2 : Hid (E = true) := by show _ = _; rw [HE.out, List.drop_eq_nil_of_le (by rw [HN.out]; exact Nat.le_refl _)]; rfl
            go_wp2
            go_ret
            exact ⟨by rw [HF.out, HE2.out]; first | done | rfl, HB6.out⟩
end Go.Proofs.YtleecmapaihhmaaDoor.PosB
