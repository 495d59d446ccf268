/- Texts that belong together: PrsM. -/
import Derived.Test.YtaooiggckcfanaaGreatDoorMJ
import Derived.Test.YtaooiggckcfanaaGreatDoorMK
import Derived.Test.YtaooiggckcfanaaGreatDoorMA
set_option linter.unusedSimpArgs false
set_option linter.unusedVariables false
namespace Go.Proofs.YtaooiggckcfanaaGreatDoor.PrsM
open Go.RowKit Base Regs Base2 UtfA UtfL PthP PthB PthE PthL PthG PthH PthJ UrlA SixG HstP HstA HstB HstC Spl PrsP PrsA PrsQ PrsB Ubx PrsC PrsD PthD PrsE
def Hb (w0 : World) (gu gr gb : Nat) (b : U) (q : Value) (L : Nat → Bool) (w : World) : Prop :=
 UB w gu (if L 8 = true then hosted b else uF) (.slice none 0 0) ∧ UB w gr U0 (.slice none 0 0) ∧ UB w gb b q ∧ Below w0.heap.size w0 w ∧ gr ≠ gu ∧ gb ≠ gu ∧ w0.heap.size ≤ gu
theorem hbs {w0 : World} {gu gr gb : Nat} {b : U} {q : Value} {L : Nat → Bool} {w w' : World} (i : Nat) (hi : (i == 8) = false) (hb : Below w.heap.size w w') (hG : Hb w0 gu gr gb b q L w) : Hb w0 gu gr gb b q (did L i) w' := by
 rw [beq_eq_false_iff_ne] at hi
 obtain ⟨h1, h2, h3, h4, h5⟩ := hG
 unfold Hb
 rw [did_ne L (Ne.symm hi)]
 exact ⟨h1.below hb, h2.below hb, h3.below hb, bel h4 hb, h5⟩
theorem hb8 {w0 : World} {gu gr gb : Nat} {b : U} {q : Value} {L : Nat → Bool} {w : World} (hG : Hb w0 gu gr gb b q L w) : Hb w0 gu gr gb b q (did L 8) (w.setRow gu (cells (hosted b) (.slice none 0 0))) := by
 obtain ⟨h1, h2, h3, h4, h5, h6, h7⟩ := hG
 unfold Hb
 rw [did_self]
 exact ⟨h1.row _ _, h2.rowo h5 _, h3.rowo h6 _, below_setRow h4 h7 _, h5, h6, h7⟩
set_option maxRecDepth 100000 in
set_option maxHeartbeats 16000000 in
theorem fileB_any (T : List UInt8) (b : U) (gb : Nat) (A : Option Addr) (n c : Nat) (w : World) (hs : T.length ≤ 700000) (hn : n ≤ 100000) (hB : UB w gb b (.slice A n c)) (hP : PthIs w b A n c) (hL : Lad w) (hT : Tab.Pow w) (hM : Max w) : Calls Tryz.prog 64 #[.string (strOf T), .pointer (some ⟨gb, 0, none⟩)] w (AnsO w (file T (some b))) := by
 obtain ⟨O, hO⟩ : ∃ O, O = file T (some b) := ⟨_, rfl⟩
 rw [← hO]
 obtain ⟨s0, hs0⟩ : ∃ x, x = isSl true T 0 := ⟨_, rfl⟩
 obtain ⟨s1, hs1⟩ : ∃ x, x = isSl true T 1 := ⟨_, rfl⟩
 unfold file at hO
 rw [← hs0, ← hs1] at hO
 have hlen0 : s0 = true → 1 ≤ T.length := fun h => by
  rw [h] at hs0
  by_cases h2 : 0 < T.length
  ·omega
  ·rw [isSl_end _ _ _ h2] at hs0; cases hs0
 have HLEN0 := hid hlen0
 have hlen : s1 = true → 2 ≤ T.length := fun h => by
  rw [h] at hs1
  by_cases h2 : 1 < T.length
  ·omega
  ·rw [isSl_end _ _ _ h2] at hs1; cases hs1
 have HLEN := hid hlen
 have HS0 : Hid (∀ w : World, Calls Tryz.prog 116 #[.string ⟨#[102, 105, 108, 101]⟩, .string (strOf T), .int .i64 0] w fun e w' => e = .returned (.bool s0) ∧ Below w.heap.size w w') := fun w => by rw [hs0]; exact isSlash_any (strOf FILE) (strOf T) 0 w (by omega)
 have HS1 : Hid (∀ w : World, Calls Tryz.prog 116 #[.string ⟨#[102, 105, 108, 101]⟩, .string (strOf T), .int .i64 1] w fun e w' => e = .returned (.bool s1) ∧ Below w.heap.size w w') := fun w => by rw [hs1]; exact isSlash_any (strOf FILE) (strOf T) 1 w (by omega)
 have HO := hid hO
 have HFA : Hid (∀ (L : List UInt8) (w : World), L.length ≤ 900000 → Lad w → Tab.Pow w → Max w → Calls Tryz.prog 117 #[.string (strOf L)] w (AnsO w (far L))) := fun L w h a c d => far_any L w h a c d
 have HBG : Hid (∀ (L : List UInt8) (w : World), L.length ≤ 900000 → Calls Tryz.prog 120 #[.string (strOf L)] w fun e w' => e = .returned (.bool (bgn L)) ∧ w = w') := fun L w h => begins_any (strOf L) w (size_of (by omega))
 have HWK : Hid (∀ (A : Option Addr) (n c : Nat) (l : List ByteArray) (L : List UInt8) (w : World), Rds w A n (l.map Value.string) → n ≤ c → c ≤ maxLen → n + L.length ≤ 900000 → Calls Tryz.prog 123 #[.string ⟨#[102, 105, 108, 101]⟩, .slice A n c, .string (strOf L)] w (Owned w.heap.size w (walk FILE l L))) := fun A n c l L w h1 h2 h3 h4 => walk_any (strOf FILE) A n c l (strOf L) w h1 h2 h3 (by rw [size_strOf]; exact h4)
 have HL := hid hL
 have HT := hid hT
 have HM := hid hM
 clear hO hs0 hs1 hlen hlen0 hL hT hM
 have HXbw := hid hB
 have HP := hid hP
 have h7 : b.pth.length = n := by have := hP.1.1; simpa using this
 clear hB hP
 go_enter Tryz.func64, Tryz.ntmps64
 go_upto_region 1 with (fail)
 generalize hw : World.alloc w _ = w1
 have h1 : UB w1 (w.heap.size) (U0) (.slice none 0 0) ∧ Below w.heap.size w w1 := by
  subst hw
  exact laid1 w _ _
 clear hw
 have hlb := HXbw.out.lt
 have NE_b_r : Hid (gb ≠ w.heap.size) := by show _ ≠ _; omega
 have NE_r_b : Hid (w.heap.size ≠ gb) := by show _ ≠ _; omega
 clear hlb
 have LE_r : Hid (w.heap.size ≤ w.heap.size) := (Below.refl w.heap.size w).size
 have HXbw1 := hid (HXbw.out.below h1.2)
 have HBw1 := hid (bel (Below.refl w.heap.size w) h1.2)
 have HXrw1 := hid h1.1
 clear HXbw
 clear h1
 go_wp2_with fail
 refine (HS0.out _).mono ?_
 rintro e w2 ⟨rfl, hbx⟩
 have HXbw2 := hid (HXbw1.out.below hbx)
 have HXrw2 := hid (HXrw1.out.below hbx)
 have HBw2 := hid (bel HBw1.out hbx)
 clear HXbw1 HXrw1 HBw1
 clear hbx
 cases s0 with
 | true =>
  go_wp2_with fail
  refine (HS1.out _).mono ?_
  rintro e w3 ⟨rfl, hbx⟩
  have HXbw3 := hid (HXbw2.out.below hbx)
  have HXrw3 := hid (HXrw2.out.below hbx)
  have HBw3 := hid (bel HBw2.out hbx)
  clear HXbw2 HXrw2 HBw2
  clear hbx
  cases s1 with
  | true =>
   have hl2 := HLEN.out (by simp)
   have HO3 : Hid (O = far (T.drop 2)) := by show _ = _; rw [HO.out, if_pos (by simp)]
   obtain ⟨T2, hT2⟩ : ∃ x, x = T.drop 2 := ⟨_, rfl⟩
   have hx2 : (strOf T).extract 2 (strOf T).size = strOf T2 := by rw [str_right, hT2]; rfl
   have hkI : (2 : Int) ≤ ((strOf T).size : Int) := by rw [size_strOf]; omega
   rw [← hT2] at HO3
   have hT2l : T2.length ≤ 800000 := by rw [hT2, List.length_drop]; omega
   clear hT2 hl2
   go_wp2_with fail
   clear hx2
   refine (HFA.out _ _ (by omega) (HL.out.below HBw3.out) (pow_below HT.out HBw3.out) (HM.out.below HBw3.out)).mono ?_
   rintro e w4 ⟨hbx, u', A', n', c', ok, rfl, hown, hoo⟩
   have HLr : Hid (w.heap.size < w3.heap.size) := HXrw3.out.lt
   have HOW := hid hown
   have HOO := hid hoo
   clear hown hoo
   have HXbw4 := hid (HXbw3.out.below hbx)
   have HXrw4 := hid (HXrw3.out.below hbx)
   have HBw4 := hid (bel HBw3.out hbx)
   have HOB : Hid (w.heap.size ≤ w3.heap.size) := HBw3.out.size
   clear HXbw3 HXrw3 HBw3
   clear hbx
   go_wp2_with (refine store_box HXrw4.out u' A' n' c' (.tmp 4) (.tmp 17) rfl rfl rfl rfl ?_)
   try simp only [Exit.inBlock, Exit.then]
   exact bodyPost_ret (w := World.setRow w4 w.heap.size (cells u' (.slice A' n' c'))) (res2 (u := u') (p := .slice A' n' c') rfl (HXrw4.out.row u' _) ok _ rfl rfl) rfl ⟨below_setRow HBw4.out LE_r.out _, u', A', n', c', ok, rfl, (HOW.out.row HLr.out _).base HOB.out, by rw [HO3.out]; exact HOO.out⟩
  | false =>
   have hl1 := HLEN0.out (by simp)
   have HO3 : Hid (O = some { hosted b with pth := walk FILE (if nrm (b.pth.head?.elim [] fun x => x.data.toList) = true ∧ bgn (T.drop 1) = false then b.pth.take 1 else []) (T.drop 1) }) := by show _ = _; rw [HO.out, if_neg (by simp), if_pos (by simp)]; first | done | rfl
   obtain ⟨T2, hT2⟩ : ∃ x, x = T.drop 1 := ⟨_, rfl⟩
   have hx2 : (strOf T).extract 1 (strOf T).size = strOf T2 := by rw [str_right, hT2]; rfl
   have hkI : (1 : Int) ≤ ((strOf T).size : Int) := by rw [size_strOf]; omega
   rw [← hT2] at HO3
   have hT2l : T2.length ≤ 700000 := by rw [hT2, List.length_drop]; omega
   have HX2 := hid hx2
   clear hT2 hl1 hx2
   go_upto_region 4 with (fail)
   generalize hw : World.alloc w3 _ = w4
   have h1 : UB w4 (w3.heap.size) (uF) (.slice none 0 0) ∧ Below w3.heap.size w3 w4 := by
    subst hw
    exact laid1 w3 _ _
   clear hw
   have hlb := HXbw3.out.lt
   have NE_b_u : Hid (gb ≠ w3.heap.size) := by show _ ≠ _; omega
   have NE_u_b : Hid (w3.heap.size ≠ gb) := by show _ ≠ _; omega
   clear hlb
   have hlr := HXrw3.out.lt
   have NE_r_u : Hid (w.heap.size ≠ w3.heap.size) := by show _ ≠ _; omega
   have NE_u_r : Hid (w3.heap.size ≠ w.heap.size) := by show _ ≠ _; omega
   clear hlr
   have LE_u : Hid (w.heap.size ≤ w3.heap.size) := HBw3.out.size
   have HXbw4 := hid (HXbw3.out.below h1.2)
   have HXrw4 := hid (HXrw3.out.below h1.2)
   have HBw4 := hid (bel HBw3.out h1.2)
   have HXuw4 := hid h1.1
   clear HXbw3 HXrw3 HBw3
   clear h1
   go_upto_region 6 with (fail)
   refine wp_region_inv (by kernel_rfl) (fun L _ wq => Hb w w3.heap.size w.heap.size gb b (.slice A n c) L wq) [is (.pointer (some ⟨gb, 0, none⟩)), is (.pointer (some ⟨gb, 0, none⟩)), is (.agg (cells b (.slice A n c))), is (.agg (cells (hosted b) (.slice none 0 0))), is (.pointer (some ⟨gb, 0, none⟩)), is (.pointer (some ⟨gb, 0, none⟩)), is (.pointer (some ⟨gb, 8, none⟩)), is (.slice A n c), any, is (.slice A n c)] [[], [0], [1], [2], [], [4], [5], [6], [3], [7]] (by kernel_rfl) (by repeat (first | exact free_nil | refine free_is _ ?_ | refine free_any ?_)) ?_ ?_ ?_
   ·exact fun t => ⟨HXuw4.out, HXrw4.out, HXbw4.out, HBw4.out.drew, NE_r_u.out, NE_b_u.out, LE_u.out⟩
   ·refine ⟨?_, ?_, ?_, ?_, ?_, ?_, ?_, ?_, ?_, ?_, trivial⟩
    ·intro L t wq hG hL hC hN hh K hK
     clear hh
     simp only [filled, upd, Have, is, any, row, pick, Act.put, List.setIfInBounds_toArray, List.set_cons_zero, List.set_cons_succ, Nat.reduceAdd, Nat.reduceEqDiff, reduceIte] at hK ⊢
     go_simp
     exact hK _ _ rfl (hbs 0 (by decide) (Below.refl _ _) hG)
    ·intro L t wq hG hL hC hN hh K hK
     have e0 := hh.1
     simp only [pick] at e0
     replace e0 : t 0 = (.pointer (some ⟨gb, 0, none⟩)) := e0
     clear hh
     simp only [filled, upd, Have, is, any, row, pick, Act.put, List.setIfInBounds_toArray, List.set_cons_zero, List.set_cons_succ, Nat.reduceAdd, Nat.reduceEqDiff, reduceIte] at hK ⊢
     simp only [e0] at hK ⊢
     go_simp
     exact hK _ _ rfl (hbs 1 (by decide) (Below.refl _ _) hG)
    ·intro L t wq hG hL hC hN hh K hK
     have e1 := hh.1
     simp only [pick] at e1
     replace e1 : t 1 = (.pointer (some ⟨gb, 0, none⟩)) := e1
     clear hh
     simp only [filled, upd, Have, is, any, row, pick, Act.put, List.setIfInBounds_toArray, List.set_cons_zero, List.set_cons_succ, Nat.reduceAdd, Nat.reduceEqDiff, reduceIte] at hK ⊢
     simp only [e1] at hK ⊢
     obtain ⟨d0, d1, d2, d3, d4, d5, d6, d7, d8, d9, d10, d11, d12⟩ := hG.2.2.1.facts
     go_simp
     exact hK _ _ rfl (hbs 2 (by decide) (Below.refl _ _) hG)
    ·intro L t wq hG hL hC hN hh K hK
     have e2 := hh.1
     simp only [pick] at e2
     replace e2 : t 2 = (.agg (cells b (.slice A n c))) := e2
     clear hh
     simp only [filled, upd, Have, is, any, row, pick, Act.put, List.setIfInBounds_toArray, List.set_cons_zero, List.set_cons_succ, Nat.reduceAdd, Nat.reduceEqDiff, reduceIte] at hK ⊢
     simp only [e2] at hK ⊢
     go_simp
     refine (hosted_any b (.slice A n c) _).mono ?_
     rintro e w9 ⟨rfl, hb9⟩
     exact hK _ _ rfl (hbs 3 (by decide) hb9 hG)
    ·intro L t wq hG hL hC hN hh K hK
     clear hh
     simp only [filled, upd, Have, is, any, row, pick, Act.put, List.setIfInBounds_toArray, List.set_cons_zero, List.set_cons_succ, Nat.reduceAdd, Nat.reduceEqDiff, reduceIte] at hK ⊢
     go_simp
     exact hK _ _ rfl (hbs 4 (by decide) (Below.refl _ _) hG)
    ·intro L t wq hG hL hC hN hh K hK
     have e4 := hh.1
     simp only [pick] at e4
     replace e4 : t 4 = (.pointer (some ⟨gb, 0, none⟩)) := e4
     clear hh
     simp only [filled, upd, Have, is, any, row, pick, Act.put, List.setIfInBounds_toArray, List.set_cons_zero, List.set_cons_succ, Nat.reduceAdd, Nat.reduceEqDiff, reduceIte] at hK ⊢
     simp only [e4] at hK ⊢
     go_simp
     exact hK _ _ rfl (hbs 5 (by decide) (Below.refl _ _) hG)
    ·intro L t wq hG hL hC hN hh K hK
     have e5 := hh.1
     simp only [pick] at e5
     replace e5 : t 5 = (.pointer (some ⟨gb, 0, none⟩)) := e5
     clear hh
     simp only [filled, upd, Have, is, any, row, pick, Act.put, List.setIfInBounds_toArray, List.set_cons_zero, List.set_cons_succ, Nat.reduceAdd, Nat.reduceEqDiff, reduceIte] at hK ⊢
     simp only [e5] at hK ⊢
     go_simp
     exact hK _ _ rfl (hbs 6 (by decide) (Below.refl _ _) hG)
    ·intro L t wq hG hL hC hN hh K hK
     have e6 := hh.1
     simp only [pick] at e6
     replace e6 : t 6 = (.pointer (some ⟨gb, 8, none⟩)) := e6
     clear hh
     simp only [filled, upd, Have, is, any, row, pick, Act.put, List.setIfInBounds_toArray, List.set_cons_zero, List.set_cons_succ, Nat.reduceAdd, Nat.reduceEqDiff, reduceIte] at hK ⊢
     simp only [e6] at hK ⊢
     obtain ⟨d0, d1, d2, d3, d4, d5, d6, d7, d8, d9, d10, d11, d12⟩ := hG.2.2.1.facts
     go_simp
     exact hK _ _ rfl (hbs 7 (by decide) (Below.refl _ _) hG)
    ·intro L t wq hG hL hC hN hh K hK
     have e3 := hh.1
     simp only [pick] at e3
     replace e3 : t 3 = (.agg (cells (hosted b) (.slice none 0 0))) := e3
     clear hh
     simp only [filled, upd, Have, is, any, row, pick, Act.put, List.setIfInBounds_toArray, List.set_cons_zero, List.set_cons_succ, Nat.reduceAdd, Nat.reduceEqDiff, reduceIte] at hK ⊢
     simp only [e3] at hK ⊢
     have hu8 := hG.1
     simp only [hL, Bool.false_eq_true, reduceIte] at hu8
     refine wp_store_row 25 (.tmp 6) (.tmp 25) rfl w3.heap.size (cells (hosted b) (.slice none 0 0)) rfl rfl 25 _ hu8 (by kernel_rfl) rfl (by simp [cells, Value.oneCell']) ?_
     exact hK undef _ trivial (hb8 hG)
    ·intro L t wq hG hL hC hN hh K hK
     have e7 := hh.1
     simp only [pick] at e7
     replace e7 : t 7 = (.slice A n c) := e7
     clear hh
     simp only [filled, upd, Have, is, any, row, pick, Act.put, List.setIfInBounds_toArray, List.set_cons_zero, List.set_cons_succ, Nat.reduceAdd, Nat.reduceEqDiff, reduceIte] at hK ⊢
     simp only [e7] at hK ⊢
     go_simp
     exact hK _ _ rfl (hbs 9 (by decide) (Below.refl _ _) hG)
   ·intro Lz t wq hG hall hh
    have f9 := have_get hh 9 (by decide)
    simp only [pick] at f9
    replace f9 : t 9 = (.slice A n c) := f9
    clear hh
    simp only [filled, upd, Have, is, any, row, pick, Act.put, List.setIfInBounds_toArray, List.set_cons_zero, List.set_cons_succ, Nat.reduceAdd, Nat.reduceEqDiff, reduceIte]
    simp only [f9]
    obtain ⟨hxu, hxr, hxb, hb, _, _, _⟩ := hG
    simp only [hall 8 (by decide), reduceIte] at hxu
    have HXuwq := hid hxu
    have HXrwq := hid hxr
    have HXbwq := hid hxb
    have HBwq := hid hb
    clear hxu hxr hxb hb hall
    clear HXbw4 HXrw4 HXuw4 HBw4
    go_upto_region 8 with (fail)
    go_wp2_with fail
    refine (HS0.out _).mono ?_
    rintro e w6 ⟨rfl, hbx⟩
    have HXbw6 := hid (HXbwq.out.below hbx)
    have HXrw6 := hid (HXrwq.out.below hbx)
    have HXuw6 := hid (HXuwq.out.below hbx)
    have HBw6 := hid (bel HBwq.out hbx)
    clear HXbwq HXrwq HXuwq HBwq
    clear hbx
    have hx2 := HX2.out
    cases hbp : b.pth with
    | nil =>
     have h0 : n = 0 := by rw [hbp] at h7; exact h7.symm
     have hnI : ¬ (0 : Int) < (n : Int) := by omega
     have HO5 : Hid (O = some { hosted b with pth := walk FILE [] T2 }) := by show _ = _; rw [HO3.out, hbp]; simp [ite_self]
     clear hbp h0
     go_wp2_with fail
     refine (HWK.out none 0 0 ([]) T2 _ (Rds.nil _) (Nat.le_refl _) (Nat.zero_le _) (by omega)).mono ?_
     rintro e w7 ⟨q, rfl, hown, hbx⟩
     obtain ⟨Aq, cq, rfl, hq⟩ := pth_of_owned (u := { U0 with pth := walk FILE [] T2 }) hown
     clear hq
     replace hown := owns_base hown (Nat.le_refl _)
     have HLu : Hid (w3.heap.size < w6.heap.size) := HXuw6.out.lt
     have HLr : Hid (w.heap.size < w6.heap.size) := HXrw6.out.lt
     have HXbw7 := hid (HXbw6.out.below hbx)
     have HXrw7 := hid (HXrw6.out.below hbx)
     have HXuw7 := hid (HXuw6.out.below hbx)
     have HBw7 := hid (bel HBw6.out hbx)
     have HOqw7 := hid hown
     clear hown
     clear HXbw6 HXrw6 HXuw6 HBw6
     clear hbx
     have hlu := HLu.out
     have cx := HXuw7.out.facts.2.2.2.2.2.2.2.2.1
     have fx := HXuw7.out.thaw.2.2.2.2.2.2.2.2.1
     go_upto_region 18 with (fail)
     have hxb := HXbw7.out.set (k := w3.heap.size) (i := 8) (.slice Aq (walk FILE [] T2).length cq) (NE_b_u.out)
     have hxr := HXrw7.out.set (k := w3.heap.size) (i := 8) (.slice Aq (walk FILE [] T2).length cq) (NE_r_u.out)
     have hxu := HXuw7.out.path (.slice Aq (walk FILE [] T2).length cq)
     have hoq := SixC.owns_other (w' := w7.setCell ⟨w3.heap.size, 8, none⟩ (.slice Aq (walk FILE [] T2).length cq)) (gb := w3.heap.size) HOqw7.out (fun k hk => heap_setCell_other _ _ _ _ hk) (by omega)
     have hb := HBw7.out.setCell (p := ⟨w3.heap.size, 8, none⟩) (LE_u.out) (.slice Aq (walk FILE [] T2).length cq)
     clear HXbw7 HXrw7 HXuw7 HOqw7 HBw7
     clear cx fx
     generalize World.setCell w7 _ _ = w8 at hxb hxr hxu hoq hb ⊢
     have HXbw8 : Hid (UB w8 (gb) (b) (.slice A n c)) := hxb
     clear hxb
     have HXrw8 : Hid (UB w8 (w.heap.size) (U0) (.slice none 0 0)) := hxr
     clear hxr
     have HXuw8 : Hid (UB w8 (w3.heap.size) (hosted b) (.slice Aq (walk FILE [] T2).length cq)) := hxu
     clear hxu
     have HOqw8 := hid hoq
     clear hoq
     have HBw8 := hid hb
     clear hb
     clear hlu
     obtain ⟨c0, c1, c2', c3, c4, c5, c6, c7, c8, c9, c10, c11, c12⟩ := HXuw8.out.facts
     go_wp2_with (refine store_box HXrw8.out (hosted b) Aq (walk FILE [] T2).length cq (.tmp 4) (.tmp 72) rfl rfl rfl rfl ?_)
     try simp only [Exit.inBlock, Exit.then]
     have hpo : ∀ k, k ≠ w.heap.size → (World.setRow w8 (w.heap.size) (cells (hosted b) (.slice Aq (walk FILE [] T2).length cq))).heap[k]? = w8.heap[k]? := fun k hk => setRow_other _ _ _ _ hk
     have ho := owns_base (SixC.owns_other HOqw8.out hpo HLr.out) (by have h1 := LE_r.out; have h2 := HLr.out; omega : w.heap.size ≤ _)
     exact bodyPost_ret (w := World.setRow w8 w.heap.size (cells (hosted b) (.slice Aq (walk FILE [] T2).length cq))) (res2 (u := hosted b) (p := .slice Aq (walk FILE [] T2).length cq) rfl (HXrw8.out.row (hosted b) _) true _ rfl rfl) rfl (ans_some (u := { hosted b with pth := walk FILE [] T2 }) HO5.out (below_setRow HBw8.out LE_r.out _) ho)
    | cons x xs =>
     have hn1 : 1 ≤ n := by rw [hbp] at h7; simp at h7; omega
     obtain ⟨bb, off, rfl, hsp, hce⟩ := HP.out.1.spot (by omega)
     have hc0 : w.cell? ⟨bb, off, none⟩ = some (.string x) := by
      have := hce 0 (by rw [hbp]; simp)
      simp only [hbp, List.map_cons, List.getElem_cons_zero, Nat.add_zero] at this
      exact this
     have hc1 := HBw6.out.cell (p := ⟨bb, off, none⟩) hsp
     have hc2 := hc1.trans hc0
     have HC2 := hid hc2
     have HNR : Hid (∀ w : World, Calls Tryz.prog 119 #[.string x] w fun e w' => e = .returned (.bool (nrm x.data.toList)) ∧ w = w') := fun w => normal_any x w
     have hnI : (0 : Int) < (n : Int) := by omega
     have hn0 : 0 < n := by omega
     have HH1 : Hid (b.pth.head?.elim [] (fun x => x.data.toList) = x.data.toList) := by show _ = _; rw [hbp]; rfl
     have HH2 := hid hbp
     clear hbp hc0 hc1 hce hsp
     cases hnr : nrm x.data.toList with
     | false =>
      have HO5 : Hid (O = some { hosted b with pth := walk FILE [] T2 }) := by show _ = _; rw [HO3.out, HH1.out, hnr, if_neg (by simp)]
      rw [hnr] at HNR
      clear hnr
      go_wp2_with fail
      refine (HNR.out _).mono ?_
      rintro e wx ⟨rfl, hwx⟩
      obtain rfl : w6 = wx := by first | exact hwx | exact hwx.symm
      clear hwx
      go_wp2_with fail
      refine (HWK.out none 0 0 ([]) T2 _ (Rds.nil _) (Nat.le_refl _) (Nat.zero_le _) (by omega)).mono ?_
      rintro e w7 ⟨q, rfl, hown, hbx⟩
      obtain ⟨Aq, cq, rfl, hq⟩ := pth_of_owned (u := { U0 with pth := walk FILE [] T2 }) hown
      clear hq
      replace hown := owns_base hown (Nat.le_refl _)
      have HLu : Hid (w3.heap.size < w6.heap.size) := HXuw6.out.lt
      have HLr : Hid (w.heap.size < w6.heap.size) := HXrw6.out.lt
      have HXbw7 := hid (HXbw6.out.below hbx)
      have HXrw7 := hid (HXrw6.out.below hbx)
      have HXuw7 := hid (HXuw6.out.below hbx)
      have HBw7 := hid (bel HBw6.out hbx)
      have HOqw7 := hid hown
      clear hown
      clear HXbw6 HXrw6 HXuw6 HBw6
      clear hbx
      have hlu := HLu.out
      have cx := HXuw7.out.facts.2.2.2.2.2.2.2.2.1
      have fx := HXuw7.out.thaw.2.2.2.2.2.2.2.2.1
      go_upto_region 18 with (fail)
      have hxb := HXbw7.out.set (k := w3.heap.size) (i := 8) (.slice Aq (walk FILE [] T2).length cq) (NE_b_u.out)
      have hxr := HXrw7.out.set (k := w3.heap.size) (i := 8) (.slice Aq (walk FILE [] T2).length cq) (NE_r_u.out)
      have hxu := HXuw7.out.path (.slice Aq (walk FILE [] T2).length cq)
      have hoq := SixC.owns_other (w' := w7.setCell ⟨w3.heap.size, 8, none⟩ (.slice Aq (walk FILE [] T2).length cq)) (gb := w3.heap.size) HOqw7.out (fun k hk => heap_setCell_other _ _ _ _ hk) (by omega)
      have hb := HBw7.out.setCell (p := ⟨w3.heap.size, 8, none⟩) (LE_u.out) (.slice Aq (walk FILE [] T2).length cq)
      clear HXbw7 HXrw7 HXuw7 HOqw7 HBw7
      clear cx fx
      generalize World.setCell w7 _ _ = w8 at hxb hxr hxu hoq hb ⊢
      have HXbw8 : Hid (UB w8 (gb) (b) (.slice (some ⟨bb, off, none⟩) n c)) := hxb
      clear hxb
      have HXrw8 : Hid (UB w8 (w.heap.size) (U0) (.slice none 0 0)) := hxr
      clear hxr
      have HXuw8 : Hid (UB w8 (w3.heap.size) (hosted b) (.slice Aq (walk FILE [] T2).length cq)) := hxu
      clear hxu
      have HOqw8 := hid hoq
      clear hoq
      have HBw8 := hid hb
      clear hb
      clear hlu
      obtain ⟨c0, c1, c2', c3, c4, c5, c6, c7, c8, c9, c10, c11, c12⟩ := HXuw8.out.facts
      go_wp2_with (refine store_box HXrw8.out (hosted b) Aq (walk FILE [] T2).length cq (.tmp 4) (.tmp 72) rfl rfl rfl rfl ?_)
      try simp only [Exit.inBlock, Exit.then]
      have hpo : ∀ k, k ≠ w.heap.size → (World.setRow w8 (w.heap.size) (cells (hosted b) (.slice Aq (walk FILE [] T2).length cq))).heap[k]? = w8.heap[k]? := fun k hk => setRow_other _ _ _ _ hk
      have ho := owns_base (SixC.owns_other HOqw8.out hpo HLr.out) (by have h1 := LE_r.out; have h2 := HLr.out; omega : w.heap.size ≤ _)
      exact bodyPost_ret (w := World.setRow w8 w.heap.size (cells (hosted b) (.slice Aq (walk FILE [] T2).length cq))) (res2 (u := hosted b) (p := .slice Aq (walk FILE [] T2).length cq) rfl (HXrw8.out.row (hosted b) _) true _ rfl rfl) rfl (ans_some (u := { hosted b with pth := walk FILE [] T2 }) HO5.out (below_setRow HBw8.out LE_r.out _) ho)
     | true =>
      cases hbg : bgn T2 with
      | true =>
       have HO5 : Hid (O = some { hosted b with pth := walk FILE [] T2 }) := by show _ = _; rw [HO3.out, hbg, if_neg (by simp)]
       have HB1 := HBG.out T2
       rw [hbg] at HB1
       have HB2 := hid HB1
       rw [hnr] at HNR
       clear hnr hbg HB1
       go_wp2_with fail
       refine (HNR.out _).mono ?_
       rintro e wx ⟨rfl, hwx⟩
       obtain rfl : w6 = wx := by first | exact hwx | exact hwx.symm
       clear hwx
       go_wp2_with fail
       refine (HB2.out _ (by omega)).mono ?_
       rintro e wx ⟨rfl, hwx⟩
       obtain rfl : w6 = wx := by first | exact hwx | exact hwx.symm
       clear hwx
       go_wp2_with fail
       refine (HWK.out none 0 0 ([]) T2 _ (Rds.nil _) (Nat.le_refl _) (Nat.zero_le _) (by omega)).mono ?_
       rintro e w7 ⟨q, rfl, hown, hbx⟩
       obtain ⟨Aq, cq, rfl, hq⟩ := pth_of_owned (u := { U0 with pth := walk FILE [] T2 }) hown
       clear hq
       replace hown := owns_base hown (Nat.le_refl _)
       have HLu : Hid (w3.heap.size < w6.heap.size) := HXuw6.out.lt
       have HLr : Hid (w.heap.size < w6.heap.size) := HXrw6.out.lt
       have HXbw7 := hid (HXbw6.out.below hbx)
       have HXrw7 := hid (HXrw6.out.below hbx)
       have HXuw7 := hid (HXuw6.out.below hbx)
       have HBw7 := hid (bel HBw6.out hbx)
       have HOqw7 := hid hown
       clear hown
       clear HXbw6 HXrw6 HXuw6 HBw6
       clear hbx
       have hlu := HLu.out
       have cx := HXuw7.out.facts.2.2.2.2.2.2.2.2.1
       have fx := HXuw7.out.thaw.2.2.2.2.2.2.2.2.1
       go_upto_region 18 with (fail)
       have hxb := HXbw7.out.set (k := w3.heap.size) (i := 8) (.slice Aq (walk FILE [] T2).length cq) (NE_b_u.out)
       have hxr := HXrw7.out.set (k := w3.heap.size) (i := 8) (.slice Aq (walk FILE [] T2).length cq) (NE_r_u.out)
       have hxu := HXuw7.out.path (.slice Aq (walk FILE [] T2).length cq)
       have hoq := SixC.owns_other (w' := w7.setCell ⟨w3.heap.size, 8, none⟩ (.slice Aq (walk FILE [] T2).length cq)) (gb := w3.heap.size) HOqw7.out (fun k hk => heap_setCell_other _ _ _ _ hk) (by omega)
       have hb := HBw7.out.setCell (p := ⟨w3.heap.size, 8, none⟩) (LE_u.out) (.slice Aq (walk FILE [] T2).length cq)
       clear HXbw7 HXrw7 HXuw7 HOqw7 HBw7
       clear cx fx
       generalize World.setCell w7 _ _ = w8 at hxb hxr hxu hoq hb ⊢
       have HXbw8 : Hid (UB w8 (gb) (b) (.slice (some ⟨bb, off, none⟩) n c)) := hxb
       clear hxb
       have HXrw8 : Hid (UB w8 (w.heap.size) (U0) (.slice none 0 0)) := hxr
       clear hxr
       have HXuw8 : Hid (UB w8 (w3.heap.size) (hosted b) (.slice Aq (walk FILE [] T2).length cq)) := hxu
       clear hxu
       have HOqw8 := hid hoq
       clear hoq
       have HBw8 := hid hb
       clear hb
       clear hlu
       obtain ⟨c0, c1, c2', c3, c4, c5, c6, c7, c8, c9, c10, c11, c12⟩ := HXuw8.out.facts
       go_wp2_with (refine store_box HXrw8.out (hosted b) Aq (walk FILE [] T2).length cq (.tmp 4) (.tmp 72) rfl rfl rfl rfl ?_)
       try simp only [Exit.inBlock, Exit.then]
       have hpo : ∀ k, k ≠ w.heap.size → (World.setRow w8 (w.heap.size) (cells (hosted b) (.slice Aq (walk FILE [] T2).length cq))).heap[k]? = w8.heap[k]? := fun k hk => setRow_other _ _ _ _ hk
       have ho := owns_base (SixC.owns_other HOqw8.out hpo HLr.out) (by have h1 := LE_r.out; have h2 := HLr.out; omega : w.heap.size ≤ _)
       exact bodyPost_ret (w := World.setRow w8 w.heap.size (cells (hosted b) (.slice Aq (walk FILE [] T2).length cq))) (res2 (u := hosted b) (p := .slice Aq (walk FILE [] T2).length cq) rfl (HXrw8.out.row (hosted b) _) true _ rfl rfl) rfl (ans_some (u := { hosted b with pth := walk FILE [] T2 }) HO5.out (below_setRow HBw8.out LE_r.out _) ho)
      | false =>
       have HO5 : Hid (O = some { hosted b with pth := walk FILE (b.pth.take 1) T2 }) := by show _ = _; rw [HO3.out, HH1.out, hnr, hbg, if_pos (by simp)]
       have HB1 := HBG.out T2
       rw [hbg] at HB1
       have HB2 := hid HB1
       rw [hnr] at HNR
       clear hnr hbg HB1
       go_wp2_with fail
       refine (HNR.out _).mono ?_
       rintro e wx ⟨rfl, hwx⟩
       obtain rfl : w6 = wx := by first | exact hwx | exact hwx.symm
       clear hwx
       go_wp2_with fail
       refine (HB2.out _ (by omega)).mono ?_
       rintro e wx ⟨rfl, hwx⟩
       obtain rfl : w6 = wx := by first | exact hwx | exact hwx.symm
       clear hwx
       have hr1 : Rds w6 (some ⟨bb, off, none⟩) 1 ((b.pth.take 1).map Value.string) := by have h := ((HP.out.1.below HBw6.out).upto 1 (by omega)); rw [List.map_take]; exact h
       have HR1 := hid hr1
       clear hr1
       have hc1c : 1 ≤ c := by have := HP.out.2.1; omega
       go_wp2_with fail
       refine (HWK.out (some ⟨bb, off, none⟩) 1 c (b.pth.take 1) T2 _ HR1.out hc1c HP.out.2.2 (by omega)).mono ?_
       rintro e w7 ⟨q, rfl, hown, hbx⟩
       obtain ⟨Aq, cq, rfl, hq⟩ := pth_of_owned (u := { U0 with pth := walk FILE (b.pth.take 1) T2 }) hown
       clear hq
       replace hown := owns_base hown (Nat.le_refl _)
       have HLu : Hid (w3.heap.size < w6.heap.size) := HXuw6.out.lt
       have HLr : Hid (w.heap.size < w6.heap.size) := HXrw6.out.lt
       have HXbw7 := hid (HXbw6.out.below hbx)
       have HXrw7 := hid (HXrw6.out.below hbx)
       have HXuw7 := hid (HXuw6.out.below hbx)
       have HBw7 := hid (bel HBw6.out hbx)
       have HOqw7 := hid hown
       clear hown
       clear HXbw6 HXrw6 HXuw6 HBw6
       clear hbx
       have hlu := HLu.out
       have cx := HXuw7.out.facts.2.2.2.2.2.2.2.2.1
       have fx := HXuw7.out.thaw.2.2.2.2.2.2.2.2.1
       go_upto_region 18 with (fail)
       have hxb := HXbw7.out.set (k := w3.heap.size) (i := 8) (.slice Aq (walk FILE (b.pth.take 1) T2).length cq) (NE_b_u.out)
       have hxr := HXrw7.out.set (k := w3.heap.size) (i := 8) (.slice Aq (walk FILE (b.pth.take 1) T2).length cq) (NE_r_u.out)
       have hxu := HXuw7.out.path (.slice Aq (walk FILE (b.pth.take 1) T2).length cq)
       have hoq := SixC.owns_other (w' := w7.setCell ⟨w3.heap.size, 8, none⟩ (.slice Aq (walk FILE (b.pth.take 1) T2).length cq)) (gb := w3.heap.size) HOqw7.out (fun k hk => heap_setCell_other _ _ _ _ hk) (by omega)
       have hb := HBw7.out.setCell (p := ⟨w3.heap.size, 8, none⟩) (LE_u.out) (.slice Aq (walk FILE (b.pth.take 1) T2).length cq)
       clear HXbw7 HXrw7 HXuw7 HOqw7 HBw7
       clear cx fx
       generalize World.setCell w7 _ _ = w8 at hxb hxr hxu hoq hb ⊢
       have HXbw8 : Hid (UB w8 (gb) (b) (.slice (some ⟨bb, off, none⟩) n c)) := hxb
       clear hxb
       have HXrw8 : Hid (UB w8 (w.heap.size) (U0) (.slice none 0 0)) := hxr
       clear hxr
       have HXuw8 : Hid (UB w8 (w3.heap.size) (hosted b) (.slice Aq (walk FILE (b.pth.take 1) T2).length cq)) := hxu
       clear hxu
       have HOqw8 := hid hoq
       clear hoq
       have HBw8 := hid hb
       clear hb
       clear hlu
       obtain ⟨c0, c1, c2', c3, c4, c5, c6, c7, c8, c9, c10, c11, c12⟩ := HXuw8.out.facts
       go_wp2_with (refine store_box HXrw8.out (hosted b) Aq (walk FILE (b.pth.take 1) T2).length cq (.tmp 4) (.tmp 72) rfl rfl rfl rfl ?_)
       try simp only [Exit.inBlock, Exit.then]
       have hpo : ∀ k, k ≠ w.heap.size → (World.setRow w8 (w.heap.size) (cells (hosted b) (.slice Aq (walk FILE (b.pth.take 1) T2).length cq))).heap[k]? = w8.heap[k]? := fun k hk => setRow_other _ _ _ _ hk
       have ho := owns_base (SixC.owns_other HOqw8.out hpo HLr.out) (by have h1 := LE_r.out; have h2 := HLr.out; omega : w.heap.size ≤ _)
       exact bodyPost_ret (w := World.setRow w8 w.heap.size (cells (hosted b) (.slice Aq (walk FILE (b.pth.take 1) T2).length cq))) (res2 (u := hosted b) (p := .slice Aq (walk FILE (b.pth.take 1) T2).length cq) rfl (HXrw8.out.row (hosted b) _) true _ rfl rfl) rfl (ans_some (u := { hosted b with pth := walk FILE (b.pth.take 1) T2 }) HO5.out (below_setRow HBw8.out LE_r.out _) ho)
 | false =>
  clear HLEN HLEN0 HS1 HFA
  have HO2 : Hid (O = if T = [] then some (along (hosted b) b) else some { hosted b with pth := walk FILE (if bgn T = true then [] else sho true b.pth) T }) := by show _ = _; rw [HO.out, if_neg (by simp), if_neg (by simp)]
  clear HO
  go_upto_region 4 with (fail)
  generalize hw : World.alloc w2 _ = w3
  have h1 : UB w3 (w2.heap.size) (uF) (.slice none 0 0) ∧ Below w2.heap.size w2 w3 := by
   subst hw
   exact laid1 w2 _ _
  clear hw
  have hlb := HXbw2.out.lt
  have NE_b_u : Hid (gb ≠ w2.heap.size) := by show _ ≠ _; omega
  have NE_u_b : Hid (w2.heap.size ≠ gb) := by show _ ≠ _; omega
  clear hlb
  have hlr := HXrw2.out.lt
  have NE_r_u : Hid (w.heap.size ≠ w2.heap.size) := by show _ ≠ _; omega
  have NE_u_r : Hid (w2.heap.size ≠ w.heap.size) := by show _ ≠ _; omega
  clear hlr
  have LE_u : Hid (w.heap.size ≤ w2.heap.size) := HBw2.out.size
  have HXbw3 := hid (HXbw2.out.below h1.2)
  have HXrw3 := hid (HXrw2.out.below h1.2)
  have HBw3 := hid (bel HBw2.out h1.2)
  have HXuw3 := hid h1.1
  clear HXbw2 HXrw2 HBw2
  clear h1
  go_upto_region 6 with (fail)
  refine wp_region_inv (by kernel_rfl) (fun L _ wq => Hb w w2.heap.size w.heap.size gb b (.slice A n c) L wq) [is (.pointer (some ⟨gb, 0, none⟩)), is (.pointer (some ⟨gb, 0, none⟩)), is (.agg (cells b (.slice A n c))), is (.agg (cells (hosted b) (.slice none 0 0))), is (.pointer (some ⟨gb, 0, none⟩)), is (.pointer (some ⟨gb, 0, none⟩)), is (.pointer (some ⟨gb, 8, none⟩)), is (.slice A n c), any, is (.slice A n c)] [[], [0], [1], [2], [], [4], [5], [6], [3], [7]] (by kernel_rfl) (by repeat (first | exact free_nil | refine free_is _ ?_ | refine free_any ?_)) ?_ ?_ ?_
  ·exact fun t => ⟨HXuw3.out, HXrw3.out, HXbw3.out, HBw3.out.drew, NE_r_u.out, NE_b_u.out, LE_u.out⟩
  ·refine ⟨?_, ?_, ?_, ?_, ?_, ?_, ?_, ?_, ?_, ?_, trivial⟩
   ·intro L t wq hG hL hC hN hh K hK
    clear hh
    simp only [filled, upd, Have, is, any, row, pick, Act.put, List.setIfInBounds_toArray, List.set_cons_zero, List.set_cons_succ, Nat.reduceAdd, Nat.reduceEqDiff, reduceIte] at hK ⊢
    go_simp
    exact hK _ _ rfl (hbs 0 (by decide) (Below.refl _ _) hG)
   ·intro L t wq hG hL hC hN hh K hK
    have e0 := hh.1
    simp only [pick] at e0
    replace e0 : t 0 = (.pointer (some ⟨gb, 0, none⟩)) := e0
    clear hh
    simp only [filled, upd, Have, is, any, row, pick, Act.put, List.setIfInBounds_toArray, List.set_cons_zero, List.set_cons_succ, Nat.reduceAdd, Nat.reduceEqDiff, reduceIte] at hK ⊢
    simp only [e0] at hK ⊢
    go_simp
    exact hK _ _ rfl (hbs 1 (by decide) (Below.refl _ _) hG)
   ·intro L t wq hG hL hC hN hh K hK
    have e1 := hh.1
    simp only [pick] at e1
    replace e1 : t 1 = (.pointer (some ⟨gb, 0, none⟩)) := e1
    clear hh
    simp only [filled, upd, Have, is, any, row, pick, Act.put, List.setIfInBounds_toArray, List.set_cons_zero, List.set_cons_succ, Nat.reduceAdd, Nat.reduceEqDiff, reduceIte] at hK ⊢
    simp only [e1] at hK ⊢
    obtain ⟨d0, d1, d2, d3, d4, d5, d6, d7, d8, d9, d10, d11, d12⟩ := hG.2.2.1.facts
    go_simp
    exact hK _ _ rfl (hbs 2 (by decide) (Below.refl _ _) hG)
   ·intro L t wq hG hL hC hN hh K hK
    have e2 := hh.1
    simp only [pick] at e2
    replace e2 : t 2 = (.agg (cells b (.slice A n c))) := e2
    clear hh
    simp only [filled, upd, Have, is, any, row, pick, Act.put, List.setIfInBounds_toArray, List.set_cons_zero, List.set_cons_succ, Nat.reduceAdd, Nat.reduceEqDiff, reduceIte] at hK ⊢
    simp only [e2] at hK ⊢
    go_simp
    refine (hosted_any b (.slice A n c) _).mono ?_
    rintro e w9 ⟨rfl, hb9⟩
    exact hK _ _ rfl (hbs 3 (by decide) hb9 hG)
   ·intro L t wq hG hL hC hN hh K hK
    clear hh
    simp only [filled, upd, Have, is, any, row, pick, Act.put, List.setIfInBounds_toArray, List.set_cons_zero, List.set_cons_succ, Nat.reduceAdd, Nat.reduceEqDiff, reduceIte] at hK ⊢
    go_simp
    exact hK _ _ rfl (hbs 4 (by decide) (Below.refl _ _) hG)
   ·intro L t wq hG hL hC hN hh K hK
    have e4 := hh.1
    simp only [pick] at e4
    replace e4 : t 4 = (.pointer (some ⟨gb, 0, none⟩)) := e4
    clear hh
    simp only [filled, upd, Have, is, any, row, pick, Act.put, List.setIfInBounds_toArray, List.set_cons_zero, List.set_cons_succ, Nat.reduceAdd, Nat.reduceEqDiff, reduceIte] at hK ⊢
    simp only [e4] at hK ⊢
    go_simp
    exact hK _ _ rfl (hbs 5 (by decide) (Below.refl _ _) hG)
   ·intro L t wq hG hL hC hN hh K hK
    have e5 := hh.1
    simp only [pick] at e5
    replace e5 : t 5 = (.pointer (some ⟨gb, 0, none⟩)) := e5
    clear hh
    simp only [filled, upd, Have, is, any, row, pick, Act.put, List.setIfInBounds_toArray, List.set_cons_zero, List.set_cons_succ, Nat.reduceAdd, Nat.reduceEqDiff, reduceIte] at hK ⊢
    simp only [e5] at hK ⊢
    go_simp
    exact hK _ _ rfl (hbs 6 (by decide) (Below.refl _ _) hG)
   ·intro L t wq hG hL hC hN hh K hK
    have e6 := hh.1
    simp only [pick] at e6
    replace e6 : t 6 = (.pointer (some ⟨gb, 8, none⟩)) := e6
    clear hh
    simp only [filled, upd, Have, is, any, row, pick, Act.put, List.setIfInBounds_toArray, List.set_cons_zero, List.set_cons_succ, Nat.reduceAdd, Nat.reduceEqDiff, reduceIte] at hK ⊢
    simp only [e6] at hK ⊢
    obtain ⟨d0, d1, d2, d3, d4, d5, d6, d7, d8, d9, d10, d11, d12⟩ := hG.2.2.1.facts
    go_simp
    exact hK _ _ rfl (hbs 7 (by decide) (Below.refl _ _) hG)
   ·intro L t wq hG hL hC hN hh K hK
    have e3 := hh.1
    simp only [pick] at e3
    replace e3 : t 3 = (.agg (cells (hosted b) (.slice none 0 0))) := e3
    clear hh
    simp only [filled, upd, Have, is, any, row, pick, Act.put, List.setIfInBounds_toArray, List.set_cons_zero, List.set_cons_succ, Nat.reduceAdd, Nat.reduceEqDiff, reduceIte] at hK ⊢
    simp only [e3] at hK ⊢
    have hu8 := hG.1
    simp only [hL, Bool.false_eq_true, reduceIte] at hu8
    refine wp_store_row 25 (.tmp 6) (.tmp 25) rfl w2.heap.size (cells (hosted b) (.slice none 0 0)) rfl rfl 25 _ hu8 (by kernel_rfl) rfl (by simp [cells, Value.oneCell']) ?_
    exact hK undef _ trivial (hb8 hG)
   ·intro L t wq hG hL hC hN hh K hK
    have e7 := hh.1
    simp only [pick] at e7
    replace e7 : t 7 = (.slice A n c) := e7
    clear hh
    simp only [filled, upd, Have, is, any, row, pick, Act.put, List.setIfInBounds_toArray, List.set_cons_zero, List.set_cons_succ, Nat.reduceAdd, Nat.reduceEqDiff, reduceIte] at hK ⊢
    simp only [e7] at hK ⊢
    go_simp
    exact hK _ _ rfl (hbs 9 (by decide) (Below.refl _ _) hG)
  ·intro Lz t wq hG hall hh
   have f9 := have_get hh 9 (by decide)
   simp only [pick] at f9
   replace f9 : t 9 = (.slice A n c) := f9
   clear hh
   simp only [filled, upd, Have, is, any, row, pick, Act.put, List.setIfInBounds_toArray, List.set_cons_zero, List.set_cons_succ, Nat.reduceAdd, Nat.reduceEqDiff, reduceIte]
   simp only [f9]
   obtain ⟨hxu, hxr, hxb, hb, _, _, _⟩ := hG
   simp only [hall 8 (by decide), reduceIte] at hxu
   have HXuwq := hid hxu
   have HXrwq := hid hxr
   have HXbwq := hid hxb
   have HBwq := hid hb
   clear hxu hxr hxb hb hall
   clear HXbw3 HXrw3 HXuw3 HBw3
   go_upto_region 8 with (fail)
   go_wp2_with fail
   refine (HS0.out _).mono ?_
   rintro e w5 ⟨rfl, hbx⟩
   have HXbw5 := hid (HXbwq.out.below hbx)
   have HXrw5 := hid (HXrwq.out.below hbx)
   have HXuw5 := hid (HXuwq.out.below hbx)
   have HBw5 := hid (bel HBwq.out hbx)
   clear HXbwq HXrwq HXuwq HBwq
   clear hbx
   by_cases h0 : T = []
   ·
    have HO5 : Hid (O = some (along (hosted b) b)) := by show _ = _; rw [HO2.out, if_pos h0]
    have q0 : ((strOf T).toList == []) = true := by rw [str_tl, h0]; rfl
    have q1 : (strOf T).toList = [] := by rw [str_tl, h0]
    clear h0
    go_upto_region 14 with (fail)
    have HLr : Hid (w.heap.size < w5.heap.size) := HXrw5.out.lt
    refine wp_region_rel_tail (by kernel_rfl) 5 [is (.agg (cells (hosted b) (.slice none 0 0))), is (.pointer (some ⟨gb, 0, none⟩)), is (.pointer (some ⟨gb, 0, none⟩)), is (.agg (cells b (.slice A n c))), urla (some (along (hosted b) b)) w5.heap.size] [[], [], [1], [1, 2], [0, 1, 2, 3], [0, 1, 2, 3, 4]] (by kernel_rfl) ?_ ?_
    ·refine ⟨?_, ?_, ?_, ?_, ?_, trivial⟩
     ·intro t wq hbq hh K hK
      clear hh
      simp only [filled, filledN, upd, Have, is, any, row, pick, Act.put, List.setIfInBounds_toArray, List.set_cons_zero, List.set_cons_succ, Nat.reduceAdd, Nat.reduceEqDiff, reduceIte] at hK ⊢
      obtain ⟨d0, d1, d2, d3, d4, d5, d6, d7, d8, d9, d10, d11, d12⟩ := (HXuw5.out.below hbq).facts
      go_simp
      exact hK _ _ (Below.refl _ _) rfl
     ·intro t wq hbq hh K hK
      clear hh
      simp only [filled, filledN, upd, Have, is, any, row, pick, Act.put, List.setIfInBounds_toArray, List.set_cons_zero, List.set_cons_succ, Nat.reduceAdd, Nat.reduceEqDiff, reduceIte] at hK ⊢
      go_simp
      exact hK _ _ (Below.refl _ _) rfl
     ·intro t wq hbq hh K hK
      have e1 := hh.1
      simp only [pick] at e1
      replace e1 : t 1 = (.pointer (some ⟨gb, 0, none⟩)) := e1
      clear hh
      simp only [filled, filledN, upd, Have, is, any, row, pick, Act.put, List.setIfInBounds_toArray, List.set_cons_zero, List.set_cons_succ, Nat.reduceAdd, Nat.reduceEqDiff, reduceIte] at hK ⊢
      simp only [e1] at hK ⊢
      go_simp
      exact hK _ _ (Below.refl _ _) rfl
     ·intro t wq hbq hh K hK
      have e2 := hh.2.1
      simp only [pick] at e2
      replace e2 : t 2 = (.pointer (some ⟨gb, 0, none⟩)) := e2
      clear hh
      simp only [filled, filledN, upd, Have, is, any, row, pick, Act.put, List.setIfInBounds_toArray, List.set_cons_zero, List.set_cons_succ, Nat.reduceAdd, Nat.reduceEqDiff, reduceIte] at hK ⊢
      simp only [e2] at hK ⊢
      obtain ⟨d0, d1, d2, d3, d4, d5, d6, d7, d8, d9, d10, d11, d12⟩ := (HXbw5.out.below hbq).facts
      go_simp
      exact hK _ _ (Below.refl _ _) rfl
     ·intro t wq hbq hh K hK
      have e0 := hh.1
      simp only [pick] at e0
      replace e0 : t 0 = (.agg (cells (hosted b) (.slice none 0 0))) := e0
      have e3 := hh.2.2.2.1
      simp only [pick] at e3
      replace e3 : t 3 = (.agg (cells b (.slice A n c))) := e3
      clear hh
      simp only [filled, filledN, upd, Have, is, any, row, pick, Act.put, List.setIfInBounds_toArray, List.set_cons_zero, List.set_cons_succ, Nat.reduceAdd, Nat.reduceEqDiff, reduceIte] at hK ⊢
      simp only [e0, e3] at hK ⊢
      go_simp
      refine (along_any (hosted b) b (.slice none 0 0) A n c _ (Ubx.PthIs.below HP.out (bel HBw5.out hbq)) (by omega)).mono ?_
      rintro e w9 ⟨hb9, Aq, nq, cq, rfl, hown⟩
      exact hK _ _ hb9 ⟨Aq, nq, cq, rfl, owns_base hown hbq.size⟩
    ·intro t wq hbq hh
     have f4 := have_get hh 4 (by decide)
     simp only [pick] at f4
     clear hh
     simp only [filled, filledN, upd, Have, is, any, row, pick, Act.put, List.setIfInBounds_toArray, List.set_cons_zero, List.set_cons_succ, Nat.reduceAdd, Nat.reduceEqDiff, reduceIte]
     obtain ⟨A4, n4, c4, f4, ho4⟩ := f4
     simp only [f4]
     have HXrwq := hid (HXrw5.out.below hbq)
     have HBwq := hid (bel HBw5.out hbq)
     have HOQ := hid ho4
     clear ho4 hbq
     refine store_box HXrwq.out (along (hosted b) b) A4 n4 c4 (.tmp 4) (.tmp 64) rfl rfl rfl rfl ?_
     go_wp2
     try simp only [Exit.inBlock, Exit.then]
     have ho := owns_base (SixC.owns_other (w' := World.setRow wq w.heap.size (cells (along (hosted b) b) (.slice A4 n4 c4))) (gb := w.heap.size) HOQ.out (fun k hk => setRow_other _ _ _ _ hk) HLr.out) (by have h1 := LE_r.out; have h2 := HLr.out; omega : w.heap.size ≤ _)
     exact bodyPost_ret (w := World.setRow wq w.heap.size (cells (along (hosted b) b) (.slice A4 n4 c4))) (res2 (u := along (hosted b) b) (p := .slice A4 n4 c4) rfl (HXrwq.out.row _ _) true _ rfl rfl) rfl (ans_some HO5.out (below_setRow HBwq.out LE_r.out _) ho)
   ·
    have HO3 : Hid (O = some { hosted b with pth := walk FILE (if bgn T = true then [] else sho true b.pth) T }) := by show _ = _; rw [HO2.out, if_neg h0]
    have q0 : ((strOf T).toList == []) = false := by rw [str_tl, beq_eq_false_iff_ne]; exact h0
    have q1 : ¬ (strOf T).toList = [] := by rw [str_tl]; exact h0
    have q2 : (strOf T).toList.isEmpty = false := by rw [str_tl]; simpa using h0
    clear h0 HO2
    cases hbg : bgn T with
    | true =>
     have HB1 := HBG.out T
     rw [hbg] at HB1
     have HB2 := hid HB1
     have HO5 : Hid (O = some { hosted b with pth := walk FILE [] T }) := by show _ = _; rw [HO3.out, hbg]; rfl
     clear HB1 hbg HO3
     go_wp2_with fail
     refine (HB2.out _ (by omega)).mono ?_
     rintro e wx ⟨rfl, hwx⟩
     obtain rfl : w5 = wx := by first | exact hwx | exact hwx.symm
     clear hwx
     go_wp2_with fail
     refine (HWK.out none 0 0 ([]) T _ (Rds.nil _) (Nat.le_refl _) (Nat.zero_le _) (by omega)).mono ?_
     rintro e w6 ⟨q, rfl, hown, hbx⟩
     obtain ⟨Aq, cq, rfl, hq⟩ := pth_of_owned (u := { U0 with pth := walk FILE [] T }) hown
     clear hq
     replace hown := owns_base hown (Nat.le_refl _)
     have HLu : Hid (w2.heap.size < w5.heap.size) := HXuw5.out.lt
     have HLr : Hid (w.heap.size < w5.heap.size) := HXrw5.out.lt
     have HXbw6 := hid (HXbw5.out.below hbx)
     have HXrw6 := hid (HXrw5.out.below hbx)
     have HXuw6 := hid (HXuw5.out.below hbx)
     have HBw6 := hid (bel HBw5.out hbx)
     have HOqw6 := hid hown
     clear hown
     clear HXbw5 HXrw5 HXuw5 HBw5
     clear hbx
     have hlu := HLu.out
     have cx := HXuw6.out.facts.2.2.2.2.2.2.2.2.1
     have fx := HXuw6.out.thaw.2.2.2.2.2.2.2.2.1
     go_upto_region 18 with (fail)
     have hxb := HXbw6.out.set (k := w2.heap.size) (i := 8) (.slice Aq (walk FILE [] T).length cq) (NE_b_u.out)
     have hxr := HXrw6.out.set (k := w2.heap.size) (i := 8) (.slice Aq (walk FILE [] T).length cq) (NE_r_u.out)
     have hxu := HXuw6.out.path (.slice Aq (walk FILE [] T).length cq)
     have hoq := SixC.owns_other (w' := w6.setCell ⟨w2.heap.size, 8, none⟩ (.slice Aq (walk FILE [] T).length cq)) (gb := w2.heap.size) HOqw6.out (fun k hk => heap_setCell_other _ _ _ _ hk) (by omega)
     have hb := HBw6.out.setCell (p := ⟨w2.heap.size, 8, none⟩) (LE_u.out) (.slice Aq (walk FILE [] T).length cq)
     clear HXbw6 HXrw6 HXuw6 HOqw6 HBw6
     clear cx fx
     generalize World.setCell w6 _ _ = w7 at hxb hxr hxu hoq hb ⊢
     have HXbw7 : Hid (UB w7 (gb) (b) (.slice A n c)) := hxb
     clear hxb
     have HXrw7 : Hid (UB w7 (w.heap.size) (U0) (.slice none 0 0)) := hxr
     clear hxr
     have HXuw7 : Hid (UB w7 (w2.heap.size) (hosted b) (.slice Aq (walk FILE [] T).length cq)) := hxu
     clear hxu
     have HOqw7 := hid hoq
     clear hoq
     have HBw7 := hid hb
     clear hb
     clear hlu
     obtain ⟨c0, c1, c2', c3, c4, c5, c6, c7, c8, c9, c10, c11, c12⟩ := HXuw7.out.facts
     go_wp2_with (refine store_box HXrw7.out (hosted b) Aq (walk FILE [] T).length cq (.tmp 4) (.tmp 72) rfl rfl rfl rfl ?_)
     try simp only [Exit.inBlock, Exit.then]
     have hpo : ∀ k, k ≠ w.heap.size → (World.setRow w7 (w.heap.size) (cells (hosted b) (.slice Aq (walk FILE [] T).length cq))).heap[k]? = w7.heap[k]? := fun k hk => setRow_other _ _ _ _ hk
     have ho := owns_base (SixC.owns_other HOqw7.out hpo HLr.out) (by have h1 := LE_r.out; have h2 := HLr.out; omega : w.heap.size ≤ _)
     exact bodyPost_ret (w := World.setRow w7 w.heap.size (cells (hosted b) (.slice Aq (walk FILE [] T).length cq))) (res2 (u := hosted b) (p := .slice Aq (walk FILE [] T).length cq) rfl (HXrw7.out.row (hosted b) _) true _ rfl rfl) rfl (ans_some (u := { hosted b with pth := walk FILE [] T }) HO5.out (below_setRow HBw7.out LE_r.out _) ho)
    | false =>
     have HB1 := HBG.out T
     rw [hbg] at HB1
     have HB2 := hid HB1
     have HO5 : Hid (O = some { hosted b with pth := walk FILE (sho true b.pth) T }) := by show _ = _; rw [HO3.out, hbg]; rfl
     clear HB1 hbg HO3
     go_wp2_with fail
     refine (HB2.out _ (by omega)).mono ?_
     rintro e wx ⟨rfl, hwx⟩
     obtain rfl : w5 = wx := by first | exact hwx | exact hwx.symm
     clear hwx
     go_wp2_with fail
     refine (shorten_any true A n c b.pth _ (HP.out.1.below HBw5.out) HP.out.2.1 HP.out.2.2 (by omega)).mono ?_
     rintro e w6 ⟨v, rfl, hown, hbx⟩
     obtain ⟨A4, c4, rfl, h4, h5, h6⟩ := owns_form hown
     have HXbw6 := hid (HXbw5.out.below hbx)
     have HXrw6 := hid (HXrw5.out.below hbx)
     have HXuw6 := hid (HXuw5.out.below hbx)
     have HBw6 := hid (bel HBw5.out hbx)
     clear HXbw5 HXrw5 HXuw5 HBw5
     clear hbx hown
     have hsl : (sho true b.pth).length ≤ n := by
      have h := length_sho true b.pth
      split at h <;> omega
     go_wp2_with fail
     refine (HWK.out A4 (sho true b.pth).length c4 (sho true b.pth) T _ h6 h4 h5 (by omega)).mono ?_
     rintro e w7 ⟨q, rfl, hown, hbx⟩
     obtain ⟨Aq, cq, rfl, hq⟩ := pth_of_owned (u := { U0 with pth := walk FILE (sho true b.pth) T }) hown
     clear hq
     replace hown := owns_base hown (Nat.le_refl _)
     have HLu : Hid (w2.heap.size < w6.heap.size) := HXuw6.out.lt
     have HLr : Hid (w.heap.size < w6.heap.size) := HXrw6.out.lt
     have HXbw7 := hid (HXbw6.out.below hbx)
     have HXrw7 := hid (HXrw6.out.below hbx)
     have HXuw7 := hid (HXuw6.out.below hbx)
     have HBw7 := hid (bel HBw6.out hbx)
     have HOqw7 := hid hown
     clear hown
     clear HXbw6 HXrw6 HXuw6 HBw6
     clear hbx
     have hlu := HLu.out
     have cx := HXuw7.out.facts.2.2.2.2.2.2.2.2.1
     have fx := HXuw7.out.thaw.2.2.2.2.2.2.2.2.1
     go_upto_region 18 with (fail)
     have hxb := HXbw7.out.set (k := w2.heap.size) (i := 8) (.slice Aq (walk FILE (sho true b.pth) T).length cq) (NE_b_u.out)
     have hxr := HXrw7.out.set (k := w2.heap.size) (i := 8) (.slice Aq (walk FILE (sho true b.pth) T).length cq) (NE_r_u.out)
     have hxu := HXuw7.out.path (.slice Aq (walk FILE (sho true b.pth) T).length cq)
     have hoq := SixC.owns_other (w' := w7.setCell ⟨w2.heap.size, 8, none⟩ (.slice Aq (walk FILE (sho true b.pth) T).length cq)) (gb := w2.heap.size) HOqw7.out (fun k hk => heap_setCell_other _ _ _ _ hk) (by omega)
     have hb := HBw7.out.setCell (p := ⟨w2.heap.size, 8, none⟩) (LE_u.out) (.slice Aq (walk FILE (sho true b.pth) T).length cq)
     clear HXbw7 HXrw7 HXuw7 HOqw7 HBw7
     clear cx fx
     generalize World.setCell w7 _ _ = w8 at hxb hxr hxu hoq hb ⊢
     have HXbw8 : Hid (UB w8 (gb) (b) (.slice A n c)) := hxb
     clear hxb
     have HXrw8 : Hid (UB w8 (w.heap.size) (U0) (.slice none 0 0)) := hxr
     clear hxr
     have HXuw8 : Hid (UB w8 (w2.heap.size) (hosted b) (.slice Aq (walk FILE (sho true b.pth) T).length cq)) := hxu
     clear hxu
     have HOqw8 := hid hoq
     clear hoq
     have HBw8 := hid hb
     clear hb
     clear hlu
     obtain ⟨c0, c1, c2', c3, c4, c5, c6, c7, c8, c9, c10, c11, c12⟩ := HXuw8.out.facts
     go_wp2_with (refine store_box HXrw8.out (hosted b) Aq (walk FILE (sho true b.pth) T).length cq (.tmp 4) (.tmp 72) rfl rfl rfl rfl ?_)
     try simp only [Exit.inBlock, Exit.then]
     have hpo : ∀ k, k ≠ w.heap.size → (World.setRow w8 (w.heap.size) (cells (hosted b) (.slice Aq (walk FILE (sho true b.pth) T).length cq))).heap[k]? = w8.heap[k]? := fun k hk => setRow_other _ _ _ _ hk
     have ho := owns_base (SixC.owns_other HOqw8.out hpo HLr.out) (by have h1 := LE_r.out; have h2 := HLr.out; omega : w.heap.size ≤ _)
     exact bodyPost_ret (w := World.setRow w8 w.heap.size (cells (hosted b) (.slice Aq (walk FILE (sho true b.pth) T).length cq))) (res2 (u := hosted b) (p := .slice Aq (walk FILE (sho true b.pth) T).length cq) rfl (HXrw8.out.row (hosted b) _) true _ rfl rfl) rfl (ans_some (u := { hosted b with pth := walk FILE (sho true b.pth) T }) HO5.out (below_setRow HBw8.out LE_r.out _) ho)
end Go.Proofs.YtaooiggckcfanaaGreatDoor.PrsM
