/- A drive path's URL, by the document. -/
import Derived.Test.YtleecmapaihhmaaGreatDoorWinD
import Derived.Test.YtleecmapaihhmaaGreatDoorMY
set_option linter.unusedSimpArgs false
set_option linter.unusedVariables false
namespace Go.Proofs.YtleecmapaihhmaaGreatDoor.WinE
open Go.RowKit Go.Proofs.YtleecmapaihhmaaGreatDoor.Base Go.Proofs.YtleecmapaihhmaaGreatDoor.Regs Go.Proofs.YtleecmapaihhmaaGreatDoor.Base2 Go.Proofs.YtleecmapaihhmaaGreatDoor.Base3 Go.Proofs.YtleecmapaihhmaaGreatDoor.SlsP Go.Proofs.YtleecmapaihhmaaGreatDoor.PosQ Go.Proofs.YtleecmapaihhmaaGreatDoor.Sls Go.Proofs.YtleecmapaihhmaaGreatDoor.PosA Go.Proofs.YtleecmapaihhmaaGreatDoor.PosC Go.Proofs.YtleecmapaihhmaaGreatDoor.PosU Go.Proofs.YtleecmapaihhmaaGreatDoor.WinP Go.Proofs.YtleecmapaihhmaaGreatDoor.WinA Go.Proofs.YtleecmapaihhmaaGreatDoor.WinD Go.Proofs.YtleecmapaihhmaaGreatDoor.WinU
open Go.Proofs.YtleecmapaihhmaaGreatDoor.PosS (seg)
open Go.Proofs.YtleecmapaihhmaaGreatDoor.PthP (nrm)

theorem Bx.host {w : World} {g : Nat} {h : List UInt8} {p : Value} (hB : Bx w g (fcells h p)) (q : List UInt8) : Bx (w.setCell ⟨g, 3, none⟩ (.string (strOf q))) g (fcells q p) := heap_setCell_same w g 3 _ _ _ hB
theorem Bx.thaw {w : World} {g : Nat} {h : List UInt8} {p : Value} (hB : Bx w g (fcells h p)) : w.frozen? ⟨g, 3, none⟩ = false ∧ w.frozen? ⟨g, 8, none⟩ = false := ⟨frozen_of_row w g 3 _ _ hB, frozen_of_row w g 8 _ _ hB⟩
theorem one_strs (l : List ByteArray) : ∀ u ∈ l.map Value.string, u.oneCell' = true := by
  intro u hu
  obtain ⟨s, _, rfl⟩ := List.mem_map.1 hu
  rfl
theorem owns_lit (w : World) (x : Value) (e : TypeId) : (w.alloc (.cells #[x] e)).ownsRow w.heap.size e 1 (.slice (some ⟨w.heap.size, 0, none⟩) 1 1) 1 [x] :=
  ⟨rfl, .inr ⟨w.heap.size, 1, #[x], rfl, Nat.le_refl _, heap_alloc_new w _, Nat.le_refl _, by decide, rfl, rfl⟩⟩
theorem kinds (l : List (List UInt8)) : (far l = true ∧ farO l = some (l.getD 2 [], l.drop 3) ∧ wap l = some ([], l.getD 2 [], l.drop 3)) ∨ (near l = true ∧ farO l = none ∧ nearO l = some (l.getD 0 [], l.drop 1) ∧ wap l = some (l.getD 0 [], [], l.drop 1) ∧ l.getD 0 [] ≠ []) ∨ (farO l = none ∧ nearO l = none ∧ wap l = none) := by
  cases hn : near l with
  | true =>
    have hf := near_far l hn
    refine .inr (.inl ⟨rfl, ?_, ?_, ?_, ?_⟩)
    · unfold farO; rw [hf, if_neg (by decide)]
    · unfold nearO; rw [hn, if_pos rfl]
    · unfold wap three; rw [hn, if_pos (.inl rfl), if_pos rfl]
    · intro e
      rw [WinC.near_eq, e] at hn
      have h0 : nrm [] = false := by decide
      rw [h0] at hn
      simp at hn
  | false =>
    cases hf : far l with
    | true =>
      refine .inl ⟨rfl, ?_, ?_⟩
      · unfold farO; rw [hf, if_pos rfl]
      · unfold wap three; rw [hn, hf, if_pos (.inr rfl), if_neg (by decide)]
    | false =>
      refine .inr (.inr ⟨?_, ?_, ?_⟩)
      · unfold farO; rw [hf, if_neg (by decide)]
      · unfold nearO; rw [hn, if_neg (by decide)]
      · unfold wap; rw [hn, hf, if_neg (by decide)]
set_option linter.unusedSimpArgs false in
set_option maxRecDepth 100000 in
set_option maxHeartbeats 8000000 in
theorem urlW_any (s : ByteArray) (w : World) (hs : s.size ≤ 900000) :
    Calls Tryz.prog 7 #[.string s] w (AnsF (.bool true) (.bool false) (hostW (wapart s.data.toList)) w (segW (wapart s.data.toList))) := by
  have hl : s.data.toList.length = s.size := Array.length_toList
  have hwl := fun d h l e => wapart_len (L := s.data.toList) (d := d) (h := h) (l := l) e
  obtain ⟨l, hll⟩ : ∃ l, l = pcs s.data.toList := ⟨_, rfl⟩
  have HF : Hid (∀ w : World, Calls Tryz.prog 15 #[.string s] w (AnsT w (farO l))) := fun w => by rw [hll]; exact far_any s w hs
  have HN : Hid (∀ w : World, Calls Tryz.prog 17 #[.string s] w (AnsT w (nearO l))) := fun w => by rw [hll]; exact near_any s w hs
  have hwa : wapart s.data.toList = wap l := by rw [hll]; rfl
  rw [hwa, hl] at hwl
  rw [hwa]
  obtain ⟨i0, hi, hz0, hz1, hz2⟩ := info_parts info_str
  obtain ⟨OH, hOH⟩ : ∃ o, o = hostW (wap l) := ⟨_, rfl⟩
  obtain ⟨OS, hOS⟩ : ∃ o, o = segW (wap l) := ⟨_, rfl⟩
  rw [← hOH, ← hOS]
  rcases kinds l with ⟨_, k1, k2⟩ | ⟨_, k1, k2, k3, k4⟩ | ⟨k1, k2, k3⟩
  · obtain ⟨ho, hho⟩ : ∃ h, h = l.getD 2 [] := ⟨_, rfl⟩
    obtain ⟨l3, hl3⟩ : ∃ x, x = l.drop 3 := ⟨_, rfl⟩
    rw [← hho, ← hl3] at k1 k2
    rw [k2] at hOH hOS hwl
    obtain ⟨hq1, hq2, _⟩ := hwl _ _ _ rfl
    obtain rfl : OH = ho := hOH
    have HOS : Hid (OS = some (l3.map seg)) := hOS
    rw [k1] at HF
    have HSG : Hid (∀ (A : Option Addr) (n cap : Nat) (w : World), Rds w A n ((l3.map strOf).map Value.string) → n ≤ 1000000 → Calls Tryz.prog 16 #[.slice A n cap] w (OwnedL w (l3.map seg))) := fun A n cap w h1 h2 => segments_any A n cap l3 w h1 h2 (fun x hx => by have := hq2 x hx; omega)
    have HLN : Hid (l3.length ≤ 1000000) := by show _ ≤ _; omega
    clear hl hll hwa hwl hOS hho hl3 k1 k2 hq1 hq2 HN hs
    go_enter Tryz.func7, Tryz.ntmps7
    go_upto_region 1 with (fail)
    generalize hw : World.alloc w _ = w1
    have h1 : Bx w1 w.heap.size (zcells) ∧ Below w.heap.size w w1 := by
      subst hw
      exact laid w _ _
    clear hw
    have HX1 := hid h1.1
    have HB1 := hid h1.2
    clear h1
    go_upto_region 2 with (fail)
    generalize hw : World.alloc w1 _ = w2
    have h1 : Bx w2 w1.heap.size (fcells [] (.slice none 0 0)) ∧ Below w1.heap.size w1 w2 := by
      subst hw
      exact laid w1 _ _
    clear hw
    have HU2 := hid h1.1
    have HX2 := hid (HX1.out.below h1.2)
    have HB2 := hid (bel HB1.out h1.2)
    have HGX : Hid (w.heap.size < w1.heap.size) := HX1.out.lt
    clear h1 HX1 HB1
    obtain ⟨gu, hgu⟩ : ∃ gu, gu = w1.heap.size := ⟨_, rfl⟩
    rw [← hgu] at HU2 HGX ⊢
    clear hgu
    go_wp2_with fail
    refine (HF.out _).mono ?_
    rintro e w3 ⟨hb, A, n, c, rfl, hn, hnc, hcm, hR⟩
    have HU3 := hid (HU2.out.below hb)
    have HX3 := hid (HX2.out.below hb)
    have HB3 := hid (bel HB2.out hb)
    have HLT : Hid (gu < w3.heap.size) := HU3.out.lt
    have HSG3 := hid (HSG.out A n c w3 hR (by rw [← hn]; exact HLN.out))
    clear hb hR hn hnc hcm HSG HLN
    go_wp2_with fail
    refine HSG3.out.mono ?_
    rintro e w5 ⟨v5, rfl, hown, hb5⟩
    have HU5 := hid (HU3.out.below hb5)
    have HX5 := hid (HX3.out.below hb5)
    have HB5 := hid (bel HB3.out hb5)
    have HO5 : Hid (w5.ownsRow w3.heap.size 9 1 v5 (l3.map seg).length (((l3.map seg).map strOf).map Value.string)) := hown
    obtain ⟨A5, c5, rfl, hc5, hm5, hr5⟩ := owns_form hown
    obtain ⟨n5, hn5⟩ : ∃ n5, n5 = (l3.map seg).length := ⟨_, rfl⟩
    rw [← hn5] at HO5 ⊢
    clear hown hb5 hr5 hm5 hc5 hn5
    obtain ⟨d0, d1, d2, d3, d4, d5, d6, d7, d8, d9, d10, d11, d12⟩ := HU5.out.facts
    obtain ⟨z3, z8⟩ := Bx.thaw HU5.out
    go_upto_region 5 with (fail)
    clear d0 d1 d2 d3 d4 d5 d6 d7 d8 d9 d10 d11 d12 z3 z8
    generalize hw : World.setCell (World.setCell w5 _ _) _ _ = w6
    have hgx : w.heap.size ≠ gu := by have := HGX.out; omega
    have HU6 : Hid (Bx w6 gu (fcells OH (.slice A5 n5 c5))) := by show Bx _ _ _; rw [← hw]; exact (Bx.host HU5.out OH).path _
    have HX6 : Hid (Bx w6 w.heap.size zcells) := by show Bx _ _ _; rw [← hw]; exact (HX5.out.set (k := gu) (i := 3) _ hgx).set (k := gu) (i := 8) _ hgx
    have HB6 : Hid (Below w.heap.size w w6) := by show Below _ _ _; rw [← hw]; exact (HB5.out.setCell (p := ⟨gu, 3, none⟩) (by have := HGX.out; show w.heap.size ≤ gu; omega) _).setCell (p := ⟨gu, 8, none⟩) (by have := HGX.out; show w.heap.size ≤ gu; omega) _
    have HO6 : Hid (w6.ownsRow w3.heap.size 9 1 (.slice A5 n5 c5) n5 (((l3.map seg).map strOf).map Value.string)) := by show World.ownsRow _ _ _ _ _ _ _; rw [← hw]; exact owns_set (owns_set HO5.out HLT.out) HLT.out
    clear hw hgx HU5 HX5 HB5 HO5
    obtain ⟨d0, d1, d2, d3, d4, d5, d6, d7, d8, d9, d10, d11, d12⟩ := HU6.out.facts
    go_wp2_with (refine store_cs HX6.out (fcells OH (.slice A5 n5 c5)) rfl rfl (one_f _ _ _ _) (.tmp 2) (.tmp 24) rfl rfl rfl rfl ?_)
    try simp only [Exit.inBlock, Exit.then]
    have hlt : w.heap.size < w3.heap.size := by have h1 := HGX.out; have h2 := HLT.out; omega
    exact bodyPost_ret (w := World.setRow w6 w.heap.size (fcells OH (.slice A5 n5 c5))) (res rfl (HX6.out.row _) rfl (.bool true) _ rfl rfl) rfl (ansf_some (hst := OH) HOS.out (below_row HB6.out (Nat.le_refl _) _) (owns_base (owns_row HO6.out hlt _) (by omega)))
  · obtain ⟨d, hd⟩ : ∃ h, h = l.getD 0 [] := ⟨_, rfl⟩
    obtain ⟨l1, hl1⟩ : ∃ x, x = l.drop 1 := ⟨_, rfl⟩
    rw [← hd, ← hl1] at k2 k3
    rw [← hd] at k4
    rw [k3] at hOH hOS hwl
    obtain ⟨hq1, hq2, _⟩ := hwl _ _ _ rfl
    obtain rfl : OH = [] := hOH
    have HOS : Hid (OS = some (d :: l1.map seg)) := by show _ = _; rw [hOS]; unfold segW pre; simp only; rw [if_neg k4]; rfl
    rw [k1] at HF
    rw [k2] at HN
    have HSG : Hid (∀ (A : Option Addr) (n cap : Nat) (w : World), Rds w A n ((l1.map strOf).map Value.string) → n ≤ 1000000 → Calls Tryz.prog 16 #[.slice A n cap] w (OwnedL w (l1.map seg))) := fun A n cap w h1 h2 => segments_any A n cap l1 w h1 h2 (fun x hx => by have := hq2 x hx; omega)
    have HLN : Hid (l1.length ≤ 1000000) := by show _ ≤ _; omega
    clear hl hll hwa hwl hOS hd hl1 k1 k2 k3 k4 hq1 hq2 hs
    go_enter Tryz.func7, Tryz.ntmps7
    go_upto_region 1 with (fail)
    generalize hw : World.alloc w _ = w1
    have h1 : Bx w1 w.heap.size (zcells) ∧ Below w.heap.size w w1 := by
      subst hw
      exact laid w _ _
    clear hw
    have HX1 := hid h1.1
    have HB1 := hid h1.2
    clear h1
    go_upto_region 2 with (fail)
    generalize hw : World.alloc w1 _ = w2
    have h1 : Bx w2 w1.heap.size (fcells [] (.slice none 0 0)) ∧ Below w1.heap.size w1 w2 := by
      subst hw
      exact laid w1 _ _
    clear hw
    have HU2 := hid h1.1
    have HX2 := hid (HX1.out.below h1.2)
    have HB2 := hid (bel HB1.out h1.2)
    have HGX : Hid (w.heap.size < w1.heap.size) := HX1.out.lt
    clear h1 HX1 HB1
    obtain ⟨gu, hgu⟩ : ∃ gu, gu = w1.heap.size := ⟨_, rfl⟩
    rw [← hgu] at HU2 HGX ⊢
    clear hgu
    go_wp2_with fail
    refine (HF.out _).mono ?_
    rintro e w3 ⟨hb, rfl⟩
    have HU3 := hid (HU2.out.below hb)
    have HX3 := hid (HX2.out.below hb)
    have HB3 := hid (bel HB2.out hb)
    clear hb
    go_wp2_with fail
    refine (HN.out _).mono ?_
    rintro e w4 ⟨hb, A, n, c, rfl, hn, hnc, hcm, hR⟩
    have HU4 := hid (HU3.out.below hb)
    have HX4 := hid (HX3.out.below hb)
    have HB4 := hid (bel HB3.out hb)
    have HLT : Hid (gu < w4.heap.size) := HU4.out.lt
    have HSG3 := hid (HSG.out A n c _ (hR.below ((Below.refl w4.heap.size w4).alloc (Nat.le_refl _) (.cells #[.string (strOf d)] 9))) (by rw [← hn]; exact HLN.out))
    have hl9 := HLN.out
    clear hb hR hn hnc hcm HSG HLN
    go_wp2_with fail
    refine HSG3.out.mono ?_
    rintro e w5 ⟨v5, rfl, hown, hb5⟩
    have hbs : Below w4.heap.size w4 w5 := ((Below.refl w4.heap.size w4).alloc (Nat.le_refl _) (.cells #[.string (strOf d)] 9)).trans (hb5.mono (by simp))
    have HU5 := hid (HU4.out.below hbs)
    have HX5 := hid (HX4.out.below hbs)
    have HB5 := hid (bel HB4.out hbs)
    have hownL : w5.ownsRow w4.heap.size 9 1 (.slice (some ⟨w4.heap.size, 0, none⟩) 1 1) 1 [.string (strOf d)] := owns_below (owns_lit w4 (.string (strOf d)) 9) hb5
    obtain ⟨A5, c5, rfl, hc5, hm5, hr5⟩ := owns_form hown
    obtain ⟨n5, hn5⟩ : ∃ n5, n5 = (l1.map seg).length := ⟨_, rfl⟩
    have hn9 : n5 ≤ 1000000 := by rw [hn5, List.length_map]; exact hl9
    rw [← hn5] at hr5 ⊢
    clear hown hb5 hm5 hc5 hn5 hl9
    go_wp2_with (at_builtin; refine wpList_app_any rfl _ _ 23 rfl w4.heap.size 9 i0 (.string ByteArray.empty) 16 Tryz.underlying23 hi hz0 hz1 hz2 rfl _ 1 [.string (strOf d)] rfl hownL hbs hbs.size A5 n5 c5 (((l1.map seg).map strOf).map Value.string) rfl hr5 (one_strs _) (by unfold maxLen; omega) (by omega) ?_)
    intro v7 w7 hown7 hbel7
    obtain ⟨A7, c7, rfl, hc7, hm7, hr7⟩ := owns_form hown7
    have HU7 := hid (HU4.out.below hbel7)
    have HX7 := hid (HX4.out.below hbel7)
    have HB7 := hid (bel HB4.out hbel7)
    have HO7 : Hid (w7.ownsRow w4.heap.size 9 1 (.slice A7 (1 + n5) c7) (1 + n5) (((d :: l1.map seg).map strOf).map Value.string)) := by show World.ownsRow _ _ _ _ _ _ _; simpa using hown7
    clear hown7 hbel7 hr7 hm7 hc7 hbs hownL hr5 HU5 HX5 HB5
    obtain ⟨d0, d1, d2, d3, d4, d5, d6, d7, d8, d9, d10, d11, d12⟩ := HU7.out.facts
    obtain ⟨z3, z8⟩ := Bx.thaw HU7.out
    go_upto_region 9 with (fail)
    clear d0 d1 d2 d3 d4 d5 d6 d7 d8 d9 d10 d11 d12 z3 z8
    generalize hw : World.setCell w7 _ _ = w8
    have hgx : w.heap.size ≠ gu := by have := HGX.out; omega
    have HU8 : Hid (Bx w8 gu (fcells [] (.slice A7 (1 + n5) c7))) := by show Bx _ _ _; rw [← hw]; exact HU7.out.path _
    have HX8 : Hid (Bx w8 w.heap.size zcells) := by show Bx _ _ _; rw [← hw]; exact HX7.out.set (k := gu) (i := 8) _ hgx
    have HB8 : Hid (Below w.heap.size w w8) := by show Below _ _ _; rw [← hw]; exact HB7.out.setCell (p := ⟨gu, 8, none⟩) (by have := HGX.out; show w.heap.size ≤ gu; omega) _
    have HO8 : Hid (w8.ownsRow w4.heap.size 9 1 (.slice A7 (1 + n5) c7) (1 + n5) (((d :: l1.map seg).map strOf).map Value.string)) := by show World.ownsRow _ _ _ _ _ _ _; rw [← hw]; exact owns_set HO7.out HLT.out
    clear hw hgx HU7 HX7 HB7 HO7
    obtain ⟨d0, d1, d2, d3, d4, d5, d6, d7, d8, d9, d10, d11, d12⟩ := HU8.out.facts
    go_wp2_with (refine store_cs HX8.out (fcells [] (.slice A7 (1 + n5) c7)) rfl rfl (one_f _ _ _ _) (.tmp 2) (.tmp 38) rfl rfl rfl rfl ?_)
    try simp only [Exit.inBlock, Exit.then]
    have hlt : w.heap.size < w4.heap.size := by have h1 := HGX.out; have h2 := HLT.out; omega
    exact bodyPost_ret (w := World.setRow w8 w.heap.size (fcells [] (.slice A7 (1 + n5) c7))) (res rfl (HX8.out.row _) rfl (.bool true) _ rfl rfl) rfl (ansf_some (hst := []) HOS.out (below_row HB8.out (Nat.le_refl _) _) (owns_base (owns_row HO8.out hlt _) (by omega)))
  · rw [k3] at hOS
    have HOS : Hid (OS = none) := hOS
    rw [k1] at HF
    rw [k2] at HN
    clear hl hll hwa hwl hOS hOH k1 k2 k3 hs
    go_enter Tryz.func7, Tryz.ntmps7
    go_upto_region 1 with (fail)
    generalize hw : World.alloc w _ = w1
    have h1 : Bx w1 w.heap.size (zcells) ∧ Below w.heap.size w w1 := by
      subst hw
      exact laid w _ _
    clear hw
    have HX1 := hid h1.1
    have HB1 := hid h1.2
    clear h1
    go_upto_region 2 with (fail)
    generalize hw : World.alloc w1 _ = w2
    have h1 : Bx w2 w1.heap.size (fcells [] (.slice none 0 0)) ∧ Below w1.heap.size w1 w2 := by
      subst hw
      exact laid w1 _ _
    clear hw
    have HU2 := hid h1.1
    have HX2 := hid (HX1.out.below h1.2)
    have HB2 := hid (bel HB1.out h1.2)
    have HGX : Hid (w.heap.size < w1.heap.size) := HX1.out.lt
    clear h1 HX1 HB1
    obtain ⟨gu, hgu⟩ : ∃ gu, gu = w1.heap.size := ⟨_, rfl⟩
    rw [← hgu] at HU2 HGX ⊢
    clear hgu
    go_wp2_with fail
    refine (HF.out _).mono ?_
    rintro e w3 ⟨hb, rfl⟩
    have HU3 := hid (HU2.out.below hb)
    have HX3 := hid (HX2.out.below hb)
    have HB3 := hid (bel HB2.out hb)
    clear hb
    go_wp2_with fail
    refine (HN.out _).mono ?_
    rintro e w4 ⟨hb, rfl⟩
    have HX4 := hid (HX3.out.below hb)
    have HB4 := hid (bel HB3.out hb)
    clear hb
    go_wp2_with (refine store_cs HX4.out zcells rfl rfl one_z (.tmp 2) (.tmp 39) rfl rfl rfl rfl ?_)
    try simp only [Exit.inBlock, Exit.then]
    exact bodyPost_ret (w := World.setRow w4 w.heap.size zcells) (res rfl (HX4.out.row zcells) rfl (.bool false) _ rfl rfl) rfl (ansf_none HOS.out (below_row HB4.out (Nat.le_refl _) zcells))
end Go.Proofs.YtleecmapaihhmaaGreatDoor.WinE
