/- Texts that belong together: PrsO, PrsS. -/
import Derived.Test.YtaooiggckcfanaaGreatDoorML
import Derived.Test.YtaooiggckcfanaaGreatDoorMM
set_option linter.unusedSimpArgs false
set_option linter.unusedVariables false
namespace Go.Proofs.YtaooiggckcfanaaGreatDoor.PrsO
open Go.RowKit Base Regs Base2 UtfA UtfL PthG PthH PthJ UrlA PrsP PrsA PrsQ PrsB Ubx Pbx PrsC PrsD PthL SixG HstC Spl PrsE PrsF PrsH PrsI PrsJ PrsM PrsN
set_option maxRecDepth 100000 in
set_option maxHeartbeats 16000000 in
theorem resolveB_any (p : Parts) (b : U) (gb : Nat) (A : Option Addr) (n c : Nat) (w : World) (hs : p.rest.length ≤ 700000) (hn : n ≤ 100000) (hB : UB w gb b (.slice A n c)) (hP : PthIs w b A n c) (hL : Lad w) (hT : Tab.Pow w) (hM : Max w) : Calls Tryz.prog 36 #[.agg (pcells p), .pointer (some ⟨gb, 0, none⟩)] w (AnsO w (PrsP.resolve p (some b))) := by
 obtain ⟨s, rt, q, f, hq, hf⟩ := p
 simp only at hs
 obtain ⟨O, hO⟩ : ∃ O, O = PrsP.resolve ⟨s, rt, q, f, hq, hf⟩ (some b) := ⟨_, rfl⟩
 rw [← hO]
 unfold PrsP.resolve at hO
 simp only at hO
 have HO := hid hO
 have HSP : Hid (∀ w : World, Calls Tryz.prog 24 #[.string (strOf s)] w fun e w' => e = .returned (.bool (special s)) ∧ w' = w) := fun w => special_any (strOf s) w
 have HPL : Hid (∀ w : World, Lad w → Tab.Pow w → Max w → Calls Tryz.prog 70 #[.agg (pcells ⟨s, rt, q, f, hq, hf⟩)] w (AnsO w (PrsP.plain ⟨s, rt, q, f, hq, hf⟩))) := fun w a c d => plain_any ⟨s, rt, q, f, hq, hf⟩ w (by show rt.length ≤ _; omega) a c d
 have HFN : Hid (∀ w : World, Lad w → Tab.Pow w → Max w → Calls Tryz.prog 64 #[.string (strOf rt), .pointer none] w (AnsO w (file rt none))) := fun w a c d => fileN_any rt w hs a c d
 have HSS : Hid (∀ w : World, Calls Tryz.prog 69 #[.string (strOf s)] w fun e w' => e = .returned (.string (cs (special s))) ∧ w' = w) := fun w => slashes_any (strOf s) w
 have HTR : Hid (∀ w : World, Calls Tryz.prog 68 #[.string (strOf rt), .string (cs true)] w fun e w' => e = .returned (.string (strOf (rt.dropWhile (stp1 true)))) ∧ Below w.heap.size w w') := fun w => trim_slashes rt w
 obtain ⟨T2, hT2⟩ : ∃ x, x = rt.dropWhile (stp1 true) := ⟨_, rfl⟩
 have hT2l : T2.length ≤ 900000 := by rw [hT2]; have := (List.dropWhile_sublist (stp1 true) (l := rt)).length_le; omega
 rw [← hT2] at HTR HO
 obtain ⟨OA, hOA⟩ : ∃ x, x = authority s T2 := ⟨_, rfl⟩
 have HAU : Hid (∀ w : World, Lad w → Tab.Pow w → Max w → Calls Tryz.prog 67 #[.string (strOf s), .string (strOf T2)] w (AnsO w OA)) := fun w a b c => by rw [hOA]; exact authority_any s T2 w hT2l a b c
 rw [← hOA] at HO
 have HL := hid hL
 have HT := hid hT
 have HM := hid hM
 clear hO hT2 hOA hL hT hM
 have HFB : Hid (∀ w : World, UB w gb b (.slice A n c) → PthIs w b A n c → Lad w → Tab.Pow w → Max w → Calls Tryz.prog 64 #[.string (strOf rt), .pointer (some ⟨gb, 0, none⟩)] w (AnsO w (file rt (some b)))) := fun w h1 h2 a d e => fileB_any rt b gb A n c w hs hn h1 h2 a d e
 obtain ⟨OR, hOR⟩ : ∃ x, x = relative rt b := ⟨_, rfl⟩
 have HRE : Hid (∀ w : World, PthIs w b A n c → Lad w → Tab.Pow w → Max w → Calls Tryz.prog 66 #[.string (strOf rt), .agg (cells b (.slice A n c))] w (AnsO w OR)) := fun w h a d e => by rw [hOR]; exact relative_any rt b A n c w hs hn h a d e
 obtain ⟨OO, hOO⟩ : ∃ x, x = PrsP.ofOpaque ⟨s, rt, q, f, hq, hf⟩ b := ⟨_, rfl⟩
 have HOO : Hid (∀ w : World, PthIs w b A n c → Calls Tryz.prog 71 #[.agg (pcells ⟨s, rt, q, f, hq, hf⟩), .agg (cells b (.slice A n c))] w (AnsO w OO)) := fun w h => by rw [hOO]; exact ofOpaque_any ⟨s, rt, q, f, hq, hf⟩ b A n c w hn h
 rw [← hOR, ← hOO] at HO
 obtain ⟨a2, ha2⟩ : ∃ x, x = Lib.hasPrefix rt [47, 47] := ⟨_, rfl⟩
 have HPR : Hid (∀ w : World, Calls Tryz.prog 65 #[.string (strOf rt), .string ⟨#[47, 47]⟩] w fun e w' => e = .returned (.bool a2) ∧ w' = w) := fun w => by rw [ha2]; exact Tryz.strings_HasPrefix (strOf rt) ⟨#[47, 47]⟩ w
 rw [← ha2] at HO
 have HP := hid hP
 have HXbw := hid hB
 clear hOR hOO ha2 hP hB
 go_enter Tryz.func36, Tryz.ntmps36
 go_upto_region 1 with (fail)
 generalize hw : World.alloc (World.alloc w _) _ = w1
 have h1 : PB w1 (w.heap.size) (⟨s, rt, q, f, hq, hf⟩) ∧ UB w1 ((w.heap.size + 1)) (U0) (.slice none 0 0) ∧ Below w.heap.size w w1 := by
  subst hw
  exact laid2 w _ _ _ _
 clear hw
 have LE_p : Hid (w.heap.size ≤ w.heap.size) := Nat.le_refl _
 have LE_r : Hid (w.heap.size ≤ (w.heap.size + 1)) := Nat.le_succ _
 have HXpw1 := hid h1.1
 have HXrw1 := hid h1.2.1
 have HBw1 := hid h1.2.2
 have HXbw1 := hid (HXbw.out.below h1.2.2)
 clear HXbw
 clear h1
 obtain ⟨p0, p1, p2, p3, p4, p5⟩ := HXpw1.out.facts
 obtain ⟨d0, d1, d2, d3, d4, d5, d6, d7, d8, d9, d10, d11, d12⟩ := HXbw1.out.facts
 by_cases hs1 : s = FILE
 ·
  have e0hs1 : ((strOf s).toList == [102, 105, 108, 101]) = true := by rw [str_tl, hs1]; first | done | rfl
  have e1hs1 : (strOf s).toList = [102, 105, 108, 101] := by rw [str_tl, hs1]; first | done | rfl
  by_cases hb1 : b.sch = FILE
  ·
   have HO5 : Hid (O = file rt (some b)) := by
    show _ = _
    rw [HO.out, if_pos hs1]
    first | (rw [if_pos hb1]; done) | (show file rt (if decide (b.sch = FILE) = true then some b else none) = _; rw [if_pos (decide_eq_true hb1)]) | (congr 1; simp [Option.filter, hb1]) | (trace_state; simp_all)
   have e0hb1 : ((strOf b.sch).toList == [102, 105, 108, 101]) = true := by rw [str_tl, hb1]; first | done | rfl
   have e1hb1 : (strOf b.sch).toList = [102, 105, 108, 101] := by rw [str_tl, hb1]; first | done | rfl
   clear hs1 hb1
   go_wp2_with fail
   refine (HFB.out _ HXbw1.out (Ubx.PthIs.below HP.out HBw1.out) (HL.out.below HBw1.out) (pow_below HT.out HBw1.out) (HM.out.below HBw1.out)).mono ?_
   rintro e w2 ⟨hbx, u', A', n', c', ok, rfl, hown, hoo⟩
   have HLr : Hid ((w.heap.size + 1) < w1.heap.size) := HXrw1.out.lt
   have HOW := hid hown
   have HOO := hid hoo
   clear hown hoo
   have HXbw2 := hid (HXbw1.out.below hbx)
   have HXpw2 := hid (HXpw1.out.below hbx)
   have HXrw2 := hid (HXrw1.out.below hbx)
   have HBw2 := hid (bel HBw1.out hbx)
   have HOB : Hid (w.heap.size ≤ w1.heap.size) := HBw1.out.size
   clear HXbw1 HXpw1 HXrw1 HBw1
   clear hbx
   go_wp2_with (refine store_box HXrw2.out u' A' n' c' (.tmp 4) (.tmp 23) rfl rfl rfl rfl ?_)
   try simp only [Exit.inBlock, Exit.then]
   exact bodyPost_ret (w := World.setRow w2 (w.heap.size + 1) (cells u' (.slice A' n' c'))) (res2 (u := u') (p := .slice A' n' c') rfl (HXrw2.out.row u' _) ok _ rfl rfl) rfl ⟨below_setRow HBw2.out LE_r.out _, u', A', n', c', ok, rfl, (HOW.out.row HLr.out _).base HOB.out, by rw [HO5.out]; exact HOO.out⟩
  ·
   have HO5 : Hid (O = file rt none) := by
    show _ = _
    rw [HO.out, if_pos hs1]
    first | (rw [if_neg hb1]; done) | (show file rt (if decide (b.sch = FILE) = true then some b else none) = _; rw [if_neg (by simpa using hb1)]) | (congr 1; simp [Option.filter, hb1]) | (trace_state; simp_all)
   have e0hb1 : ((strOf b.sch).toList == [102, 105, 108, 101]) = false := by rw [str_tl, beq_eq_false_iff_ne]; exact hb1
   have e1hb1 : ¬ (strOf b.sch).toList = [102, 105, 108, 101] := by rw [str_tl]; exact hb1
   clear hs1 hb1
   go_wp2_with fail
   refine (HFN.out _ (HL.out.below HBw1.out) (pow_below HT.out HBw1.out) (HM.out.below HBw1.out)).mono ?_
   rintro e w2 ⟨hbx, u', A', n', c', ok, rfl, hown, hoo⟩
   have HLr : Hid ((w.heap.size + 1) < w1.heap.size) := HXrw1.out.lt
   have HOW := hid hown
   have HOO := hid hoo
   clear hown hoo
   have HXbw2 := hid (HXbw1.out.below hbx)
   have HXpw2 := hid (HXpw1.out.below hbx)
   have HXrw2 := hid (HXrw1.out.below hbx)
   have HBw2 := hid (bel HBw1.out hbx)
   have HOB : Hid (w.heap.size ≤ w1.heap.size) := HBw1.out.size
   clear HXbw1 HXpw1 HXrw1 HBw1
   clear hbx
   go_wp2_with (refine store_box HXrw2.out u' A' n' c' (.tmp 4) (.tmp 23) rfl rfl rfl rfl ?_)
   try simp only [Exit.inBlock, Exit.then]
   exact bodyPost_ret (w := World.setRow w2 (w.heap.size + 1) (cells u' (.slice A' n' c'))) (res2 (u := u') (p := .slice A' n' c') rfl (HXrw2.out.row u' _) ok _ rfl rfl) rfl ⟨below_setRow HBw2.out LE_r.out _, u', A', n', c', ok, rfl, (HOW.out.row HLr.out _).base HOB.out, by rw [HO5.out]; exact HOO.out⟩
 ·
  have e0hs1 : ((strOf s).toList == [102, 105, 108, 101]) = false := by rw [str_tl, beq_eq_false_iff_ne]; exact hs1
  have e1hs1 : ¬ (strOf s).toList = [102, 105, 108, 101] := by rw [str_tl]; exact hs1
  cases hsp : special s with
  | true =>
   have HO2 : Hid (O = if b.sch = s ∧ a2 = false then OR else OA) := by show _ = _; rw [HO.out, if_neg hs1, if_pos hsp]
   rw [hsp] at HSP HSS
   clear hsp hs1
   go_wp2_with fail
   refine (HSP.out _).mono ?_
   rintro e wx ⟨rfl, hwx⟩
   obtain rfl : w1 = wx := by first | exact hwx | exact hwx.symm
   clear hwx
   clear p0 p1 p2 p3 p4 p5
   clear d0 d1 d2 d3 d4 d5 d6 d7 d8 d9 d10 d11 d12
   by_cases hb1 : b.sch = s
   ·
    have HEQ : Hid (((strOf b.sch).toList == (strOf s).toList) = true) := by show _ = _; rw [hb1]; simp
    cases a2 with
    | true =>
     have HO5 : Hid (O = OA) := by show _ = _; rw [HO2.out, if_neg (by simp)]
     clear HO2 hb1
     go_upto_region 6 with (fail)
     refine wp_region_rel (by kernel_rfl) [is (.pointer (some ⟨gb, 0, none⟩)), is (.bool true), is (.bool true), is (.pointer (some ⟨gb, 0, none⟩)), is (.pointer (some ⟨gb, 0, none⟩)), is (.pointer (some ⟨gb, 0, none⟩)), is (.string (strOf b.sch)), is (.pointer (some ⟨w.heap.size, 0, none⟩)), is (.string (strOf s)), is (.bool true), is (.bool true), is (.bool true), is (.pointer (some ⟨w.heap.size, 1, none⟩)), is (.string (strOf rt)), is (.bool true), is (.bool false), is (.bool false)] [[], [0], [1], [2], [2, 3], [2, 4], [2, 5], [2], [2, 7], [2, 6, 8], [2, 9], [10], [11], [11, 12], [11, 13], [11, 14], [11, 15]] (by kernel_rfl) ?_ ?_
     ·refine ⟨?_, ?_, ?_, ?_, ?_, ?_, ?_, ?_, ?_, ?_, ?_, ?_, ?_, ?_, ?_, ?_, ?_, trivial⟩
      ·intro t wq hbq hh K hK
       clear hh
       simp only [filled, upd, Have, is, any, row, pick, Act.put, List.setIfInBounds_toArray, List.set_cons_zero, List.set_cons_succ, Nat.reduceAdd, Nat.reduceEqDiff, reduceIte] at hK ⊢
       go_simp
       exact hK _ _ (Below.refl _ _) rfl
      ·intro t wq hbq hh K hK
       have e0 := hh.1
       simp only [pick] at e0
       replace e0 : t 0 = (.pointer (some ⟨gb, 0, none⟩)) := e0
       clear hh
       simp only [filled, upd, Have, is, any, row, pick, Act.put, List.setIfInBounds_toArray, List.set_cons_zero, List.set_cons_succ, Nat.reduceAdd, Nat.reduceEqDiff, reduceIte] at hK ⊢
       simp only [e0] at hK ⊢
       go_simp
       first | exact hK _ _ (Below.refl _ _) rfl | exact hK _ _ (Below.refl _ _) (int_wrap (by omega) (by omega))
      ·intro t wq hbq hh K hK
       have e1 := hh.1
       simp only [pick] at e1
       replace e1 : t 1 = (.bool true) := e1
       clear hh
       simp only [filled, upd, Have, is, any, row, pick, Act.put, List.setIfInBounds_toArray, List.set_cons_zero, List.set_cons_succ, Nat.reduceAdd, Nat.reduceEqDiff, reduceIte] at hK ⊢
       simp only [e1] at hK ⊢
       go_simp
       exact hK _ _ (Below.refl _ _) rfl
      ·intro t wq hbq hh K hK
       have e2 := hh.1
       simp only [pick] at e2
       replace e2 : t 2 = (.bool true) := e2
       clear hh
       simp only [filled, upd, Have, is, any, row, pick, Act.put, List.setIfInBounds_toArray, List.set_cons_zero, List.set_cons_succ, Nat.reduceAdd, Nat.reduceEqDiff, reduceIte] at hK ⊢
       simp only [e2] at hK ⊢
       go_simp
       exact hK _ _ (Below.refl _ _) rfl
      ·intro t wq hbq hh K hK
       have e2 := hh.1
       simp only [pick] at e2
       replace e2 : t 2 = (.bool true) := e2
       have e3 := hh.2.1
       simp only [pick] at e3
       replace e3 : t 3 = (.pointer (some ⟨gb, 0, none⟩)) := e3
       clear hh
       simp only [filled, upd, Have, is, any, row, pick, Act.put, List.setIfInBounds_toArray, List.set_cons_zero, List.set_cons_succ, Nat.reduceAdd, Nat.reduceEqDiff, reduceIte] at hK ⊢
       simp only [e2, e3] at hK ⊢
       go_simp
       exact hK _ _ (Below.refl _ _) rfl
      ·intro t wq hbq hh K hK
       have e2 := hh.1
       simp only [pick] at e2
       replace e2 : t 2 = (.bool true) := e2
       have e4 := hh.2.1
       simp only [pick] at e4
       replace e4 : t 4 = (.pointer (some ⟨gb, 0, none⟩)) := e4
       clear hh
       simp only [filled, upd, Have, is, any, row, pick, Act.put, List.setIfInBounds_toArray, List.set_cons_zero, List.set_cons_succ, Nat.reduceAdd, Nat.reduceEqDiff, reduceIte] at hK ⊢
       simp only [e2, e4] at hK ⊢
       go_simp
       exact hK _ _ (Below.refl _ _) rfl
      ·intro t wq hbq hh K hK
       have e2 := hh.1
       simp only [pick] at e2
       replace e2 : t 2 = (.bool true) := e2
       have e5 := hh.2.1
       simp only [pick] at e5
       replace e5 : t 5 = (.pointer (some ⟨gb, 0, none⟩)) := e5
       clear hh
       simp only [filled, upd, Have, is, any, row, pick, Act.put, List.setIfInBounds_toArray, List.set_cons_zero, List.set_cons_succ, Nat.reduceAdd, Nat.reduceEqDiff, reduceIte] at hK ⊢
       simp only [e2, e5] at hK ⊢
       obtain ⟨d0, d1, d2, d3, d4, d5, d6, d7, d8, d9, d10, d11, d12⟩ := (HXbw1.out.below hbq).facts
       go_simp
       exact hK _ _ (Below.refl _ _) rfl
      ·intro t wq hbq hh K hK
       have e2 := hh.1
       simp only [pick] at e2
       replace e2 : t 2 = (.bool true) := e2
       clear hh
       simp only [filled, upd, Have, is, any, row, pick, Act.put, List.setIfInBounds_toArray, List.set_cons_zero, List.set_cons_succ, Nat.reduceAdd, Nat.reduceEqDiff, reduceIte] at hK ⊢
       simp only [e2] at hK ⊢
       go_simp
       exact hK _ _ (Below.refl _ _) rfl
      ·intro t wq hbq hh K hK
       have e2 := hh.1
       simp only [pick] at e2
       replace e2 : t 2 = (.bool true) := e2
       have e7 := hh.2.1
       simp only [pick] at e7
       replace e7 : t 7 = (.pointer (some ⟨w.heap.size, 0, none⟩)) := e7
       clear hh
       simp only [filled, upd, Have, is, any, row, pick, Act.put, List.setIfInBounds_toArray, List.set_cons_zero, List.set_cons_succ, Nat.reduceAdd, Nat.reduceEqDiff, reduceIte] at hK ⊢
       simp only [e2, e7] at hK ⊢
       have hc := (HXpw1.out.below hbq).facts.1
       go_simp
       exact hK _ _ (Below.refl _ _) rfl
      ·intro t wq hbq hh K hK
       have e2 := hh.1
       simp only [pick] at e2
       replace e2 : t 2 = (.bool true) := e2
       have e6 := hh.2.1
       simp only [pick] at e6
       replace e6 : t 6 = (.string (strOf b.sch)) := e6
       have e8 := hh.2.2.1
       simp only [pick] at e8
       replace e8 : t 8 = (.string (strOf s)) := e8
       clear hh
       simp only [filled, upd, Have, is, any, row, pick, Act.put, List.setIfInBounds_toArray, List.set_cons_zero, List.set_cons_succ, Nat.reduceAdd, Nat.reduceEqDiff, reduceIte] at hK ⊢
       simp only [e2, e6, e8] at hK ⊢
       have hqq := HEQ.out
       go_simp
       exact hK _ _ (Below.refl _ _) rfl
      ·intro t wq hbq hh K hK
       have e2 := hh.1
       simp only [pick] at e2
       replace e2 : t 2 = (.bool true) := e2
       have e9 := hh.2.1
       simp only [pick] at e9
       replace e9 : t 9 = (.bool true) := e9
       clear hh
       simp only [filled, upd, Have, is, any, row, pick, Act.put, List.setIfInBounds_toArray, List.set_cons_zero, List.set_cons_succ, Nat.reduceAdd, Nat.reduceEqDiff, reduceIte] at hK ⊢
       simp only [e2, e9] at hK ⊢
       go_simp
       exact hK _ _ (Below.refl _ _) rfl
      ·intro t wq hbq hh K hK
       have e10 := hh.1
       simp only [pick] at e10
       replace e10 : t 10 = (.bool true) := e10
       clear hh
       simp only [filled, upd, Have, is, any, row, pick, Act.put, List.setIfInBounds_toArray, List.set_cons_zero, List.set_cons_succ, Nat.reduceAdd, Nat.reduceEqDiff, reduceIte] at hK ⊢
       simp only [e10] at hK ⊢
       go_simp
       exact hK _ _ (Below.refl _ _) rfl
      ·intro t wq hbq hh K hK
       have e11 := hh.1
       simp only [pick] at e11
       replace e11 : t 11 = (.bool true) := e11
       clear hh
       simp only [filled, upd, Have, is, any, row, pick, Act.put, List.setIfInBounds_toArray, List.set_cons_zero, List.set_cons_succ, Nat.reduceAdd, Nat.reduceEqDiff, reduceIte] at hK ⊢
       simp only [e11] at hK ⊢
       go_simp
       exact hK _ _ (Below.refl _ _) rfl
      ·intro t wq hbq hh K hK
       have e11 := hh.1
       simp only [pick] at e11
       replace e11 : t 11 = (.bool true) := e11
       have e12 := hh.2.1
       simp only [pick] at e12
       replace e12 : t 12 = (.pointer (some ⟨w.heap.size, 1, none⟩)) := e12
       clear hh
       simp only [filled, upd, Have, is, any, row, pick, Act.put, List.setIfInBounds_toArray, List.set_cons_zero, List.set_cons_succ, Nat.reduceAdd, Nat.reduceEqDiff, reduceIte] at hK ⊢
       simp only [e11, e12] at hK ⊢
       have hc := (HXpw1.out.below hbq).facts.2.1
       go_simp
       exact hK _ _ (Below.refl _ _) rfl
      ·intro t wq hbq hh K hK
       have e11 := hh.1
       simp only [pick] at e11
       replace e11 : t 11 = (.bool true) := e11
       have e13 := hh.2.1
       simp only [pick] at e13
       replace e13 : t 13 = (.string (strOf rt)) := e13
       clear hh
       simp only [filled, upd, Have, is, any, row, pick, Act.put, List.setIfInBounds_toArray, List.set_cons_zero, List.set_cons_succ, Nat.reduceAdd, Nat.reduceEqDiff, reduceIte] at hK ⊢
       simp only [e11, e13] at hK ⊢
       go_simp
       refine (HPR.out _).mono ?_
       rintro e w9 ⟨rfl, hw9⟩
       subst hw9
       exact hK _ _ (Below.refl _ _) rfl
      ·intro t wq hbq hh K hK
       have e11 := hh.1
       simp only [pick] at e11
       replace e11 : t 11 = (.bool true) := e11
       have e14 := hh.2.1
       simp only [pick] at e14
       replace e14 : t 14 = (.bool true) := e14
       clear hh
       simp only [filled, upd, Have, is, any, row, pick, Act.put, List.setIfInBounds_toArray, List.set_cons_zero, List.set_cons_succ, Nat.reduceAdd, Nat.reduceEqDiff, reduceIte] at hK ⊢
       simp only [e11, e14] at hK ⊢
       go_simp
       exact hK _ _ (Below.refl _ _) rfl
      ·intro t wq hbq hh K hK
       have e11 := hh.1
       simp only [pick] at e11
       replace e11 : t 11 = (.bool true) := e11
       have e15 := hh.2.1
       simp only [pick] at e15
       replace e15 : t 15 = (.bool false) := e15
       clear hh
       simp only [filled, upd, Have, is, any, row, pick, Act.put, List.setIfInBounds_toArray, List.set_cons_zero, List.set_cons_succ, Nat.reduceAdd, Nat.reduceEqDiff, reduceIte] at hK ⊢
       simp only [e11, e15] at hK ⊢
       go_simp
       exact hK _ _ (Below.refl _ _) rfl
     ·intro t wz hbq hh
      have f16 := have_get hh 16 (by decide)
      simp only [pick] at f16
      replace f16 : t 16 = (.bool false) := f16
      clear hh
      simp only [filled, upd, Have, is, any, row, pick, Act.put, List.setIfInBounds_toArray, List.set_cons_zero, List.set_cons_succ, Nat.reduceAdd, Nat.reduceEqDiff, reduceIte]
      simp only [f16]
      have HXbwz := hid (HXbw1.out.below hbq)
      have HXpwz := hid (HXpw1.out.below hbq)
      have HXrwz := hid (HXrw1.out.below hbq)
      have HBwz := hid (bel HBw1.out hbq)
      clear HXbw1 HXpw1 HXrw1 HBw1
      clear hbq
      have HLr : Hid ((w.heap.size + 1) < wz.heap.size) := HXrwz.out.lt
      go_upto_region 8 with (fail)
      refine wp_region_rel_tail (by kernel_rfl) 11 [is (.pointer (some ⟨w.heap.size, 0, none⟩)), is (.string (strOf s)), is (.pointer (some ⟨w.heap.size, 1, none⟩)), is (.string (strOf rt)), is (.pointer (some ⟨w.heap.size, 0, none⟩)), is (.string (strOf s)), is (.string (cs true)), is (.string (strOf T2)), urlt OA wz.heap.size, urla OA wz.heap.size, is (.bool OA.isSome)] [[], [0], [], [2], [], [4], [4, 5], [2, 3, 4, 5, 6], [0, 1, 2, 3, 4, 5, 6, 7], [0, 1, 2, 3, 4, 5, 6, 7, 8], [0, 1, 2, 3, 4, 5, 6, 7, 8], [0, 1, 2, 3, 4, 5, 6, 7, 8, 9, 10]] (by kernel_rfl) ?_ ?_
      ·refine ⟨?_, ?_, ?_, ?_, ?_, ?_, ?_, ?_, ?_, ?_, ?_, trivial⟩
       ·intro t wq hbq hh K hK
        clear hh
        simp only [filled, filledN, upd, Have, is, any, row, pick, Act.put, List.setIfInBounds_toArray, List.set_cons_zero, List.set_cons_succ, Nat.reduceAdd, Nat.reduceEqDiff, reduceIte] at hK ⊢
        go_simp
        exact hK _ _ (Below.refl _ _) rfl
       ·intro t wq hbq hh K hK
        have e0 := hh.1
        simp only [pick] at e0
        replace e0 : t 0 = (.pointer (some ⟨w.heap.size, 0, none⟩)) := e0
        clear hh
        simp only [filled, filledN, upd, Have, is, any, row, pick, Act.put, List.setIfInBounds_toArray, List.set_cons_zero, List.set_cons_succ, Nat.reduceAdd, Nat.reduceEqDiff, reduceIte] at hK ⊢
        simp only [e0] at hK ⊢
        have hc := (HXpwz.out.below hbq).facts.1
        go_simp
        exact hK _ _ (Below.refl _ _) rfl
       ·intro t wq hbq hh K hK
        clear hh
        simp only [filled, filledN, upd, Have, is, any, row, pick, Act.put, List.setIfInBounds_toArray, List.set_cons_zero, List.set_cons_succ, Nat.reduceAdd, Nat.reduceEqDiff, reduceIte] at hK ⊢
        go_simp
        exact hK _ _ (Below.refl _ _) rfl
       ·intro t wq hbq hh K hK
        have e2 := hh.1
        simp only [pick] at e2
        replace e2 : t 2 = (.pointer (some ⟨w.heap.size, 1, none⟩)) := e2
        clear hh
        simp only [filled, filledN, upd, Have, is, any, row, pick, Act.put, List.setIfInBounds_toArray, List.set_cons_zero, List.set_cons_succ, Nat.reduceAdd, Nat.reduceEqDiff, reduceIte] at hK ⊢
        simp only [e2] at hK ⊢
        have hc := (HXpwz.out.below hbq).facts.2.1
        go_simp
        exact hK _ _ (Below.refl _ _) rfl
       ·intro t wq hbq hh K hK
        clear hh
        simp only [filled, filledN, upd, Have, is, any, row, pick, Act.put, List.setIfInBounds_toArray, List.set_cons_zero, List.set_cons_succ, Nat.reduceAdd, Nat.reduceEqDiff, reduceIte] at hK ⊢
        go_simp
        exact hK _ _ (Below.refl _ _) rfl
       ·intro t wq hbq hh K hK
        have e4 := hh.1
        simp only [pick] at e4
        replace e4 : t 4 = (.pointer (some ⟨w.heap.size, 0, none⟩)) := e4
        clear hh
        simp only [filled, filledN, upd, Have, is, any, row, pick, Act.put, List.setIfInBounds_toArray, List.set_cons_zero, List.set_cons_succ, Nat.reduceAdd, Nat.reduceEqDiff, reduceIte] at hK ⊢
        simp only [e4] at hK ⊢
        have hc := (HXpwz.out.below hbq).facts.1
        go_simp
        exact hK _ _ (Below.refl _ _) rfl
       ·intro t wq hbq hh K hK
        have e5 := hh.2.1
        simp only [pick] at e5
        replace e5 : t 5 = (.string (strOf s)) := e5
        clear hh
        simp only [filled, filledN, upd, Have, is, any, row, pick, Act.put, List.setIfInBounds_toArray, List.set_cons_zero, List.set_cons_succ, Nat.reduceAdd, Nat.reduceEqDiff, reduceIte] at hK ⊢
        simp only [e5] at hK ⊢
        go_simp
        refine (HSS.out _).mono ?_
        rintro e w9 ⟨rfl, hw9⟩
        subst hw9
        exact hK _ _ (Below.refl _ _) rfl
       ·intro t wq hbq hh K hK
        have e3 := hh.2.1
        simp only [pick] at e3
        replace e3 : t 3 = (.string (strOf rt)) := e3
        have e6 := hh.2.2.2.2.1
        simp only [pick] at e6
        replace e6 : t 6 = (.string (cs true)) := e6
        clear hh
        simp only [filled, filledN, upd, Have, is, any, row, pick, Act.put, List.setIfInBounds_toArray, List.set_cons_zero, List.set_cons_succ, Nat.reduceAdd, Nat.reduceEqDiff, reduceIte] at hK ⊢
        simp only [e3, e6] at hK ⊢
        go_simp
        refine (HTR.out _).mono ?_
        rintro e w9 ⟨rfl, hb9⟩
        exact hK _ _ hb9 rfl
       ·intro t wq hbq hh K hK
        have e1 := hh.2.1
        simp only [pick] at e1
        replace e1 : t 1 = (.string (strOf s)) := e1
        have e7 := hh.2.2.2.2.2.2.2.1
        simp only [pick] at e7
        replace e7 : t 7 = (.string (strOf T2)) := e7
        clear hh
        simp only [filled, filledN, upd, Have, is, any, row, pick, Act.put, List.setIfInBounds_toArray, List.set_cons_zero, List.set_cons_succ, Nat.reduceAdd, Nat.reduceEqDiff, reduceIte] at hK ⊢
        simp only [e1, e7] at hK ⊢
        go_simp
        refine (HAU.out _ (HL.out.below (bel HBwz.out hbq)) (pow_below HT.out (bel HBwz.out hbq)) (HM.out.below (bel HBwz.out hbq))).mono ?_
        intro e w9 ha
        obtain ⟨hb9, A9, n9, c9, rfl, ho9⟩ := Regs.anso_urlt ha
        exact hK _ _ hb9 ⟨A9, n9, c9, rfl, owns_base ho9 hbq.size⟩
       ·intro t wq hbq hh K hK
        have e8 := hh.2.2.2.2.2.2.2.2.1
        simp only [pick] at e8
        clear hh
        simp only [filled, filledN, upd, Have, is, any, row, pick, Act.put, List.setIfInBounds_toArray, List.set_cons_zero, List.set_cons_succ, Nat.reduceAdd, Nat.reduceEqDiff, reduceIte] at hK ⊢
        obtain ⟨A8, n8, c8, e8, ho8⟩ := e8
        simp only [e8] at hK ⊢
        go_simp
        exact hK _ _ (Below.refl _ _) ⟨_, _, _, rfl, ho8⟩
       ·intro t wq hbq hh K hK
        have e8 := hh.2.2.2.2.2.2.2.2.1
        simp only [pick] at e8
        clear hh
        simp only [filled, filledN, upd, Have, is, any, row, pick, Act.put, List.setIfInBounds_toArray, List.set_cons_zero, List.set_cons_succ, Nat.reduceAdd, Nat.reduceEqDiff, reduceIte] at hK ⊢
        obtain ⟨A8, n8, c8, e8, ho8⟩ := e8
        simp only [e8] at hK ⊢
        go_simp
        exact hK _ _ (Below.refl _ _) rfl
      ·intro t wq hbq hh
       have f9 := have_get hh 9 (by decide)
       simp only [pick] at f9
       have f10 := have_get hh 10 (by decide)
       simp only [pick] at f10
       replace f10 : t 10 = (.bool OA.isSome) := f10
       clear hh
       simp only [filled, filledN, upd, Have, is, any, row, pick, Act.put, List.setIfInBounds_toArray, List.set_cons_zero, List.set_cons_succ, Nat.reduceAdd, Nat.reduceEqDiff, reduceIte]
       obtain ⟨A9, n9, c9, f9, ho9⟩ := f9
       simp only [f9, f10]
       have HXrq := hid (HXrwz.out.below hbq)
       have HBq := hid (bel HBwz.out hbq)
       have HOQ := hid ho9
       clear ho9 hbq
       refine store_box HXrq.out ((OA).getD U0) A9 n9 c9 (.tmp 4) (.tmp 63) rfl rfl rfl rfl ?_
       go_wp2
       try simp only [Exit.inBlock, Exit.then]
       have ho := owns_base (SixC.owns_other (w' := World.setRow wq (w.heap.size + 1) (cells ((OA).getD U0) (.slice A9 n9 c9))) (gb := (w.heap.size + 1)) (HOQ.out) (fun k hk => setRow_other _ _ _ _ hk) HLr.out) (by have h1 := LE_r.out; have h2 := HLr.out; omega : w.heap.size ≤ _)
       refine bodyPost_ret (w := World.setRow wq (w.heap.size + 1) (cells ((OA).getD U0) (.slice A9 n9 c9))) (res2 (u := (OA).getD U0) (p := .slice A9 n9 c9) rfl (HXrq.out.row _ _) (OA).isSome _ rfl rfl) rfl ?_
       rw [HO5.out]
       exact Regs.urlt_anso (below_setRow HBq.out LE_r.out _) ho
    | false =>
     have HO5 : Hid (O = OR) := by show _ = _; rw [HO2.out, if_pos ⟨hb1, rfl⟩]
     clear HO2 hb1
     go_upto_region 6 with (fail)
     refine wp_region_rel (by kernel_rfl) [is (.pointer (some ⟨gb, 0, none⟩)), is (.bool true), is (.bool true), is (.pointer (some ⟨gb, 0, none⟩)), is (.pointer (some ⟨gb, 0, none⟩)), is (.pointer (some ⟨gb, 0, none⟩)), is (.string (strOf b.sch)), is (.pointer (some ⟨w.heap.size, 0, none⟩)), is (.string (strOf s)), is (.bool true), is (.bool true), is (.bool true), is (.pointer (some ⟨w.heap.size, 1, none⟩)), is (.string (strOf rt)), is (.bool false), is (.bool true), is (.bool true)] [[], [0], [1], [2], [2, 3], [2, 4], [2, 5], [2], [2, 7], [2, 6, 8], [2, 9], [10], [11], [11, 12], [11, 13], [11, 14], [11, 15]] (by kernel_rfl) ?_ ?_
     ·refine ⟨?_, ?_, ?_, ?_, ?_, ?_, ?_, ?_, ?_, ?_, ?_, ?_, ?_, ?_, ?_, ?_, ?_, trivial⟩
      ·intro t wq hbq hh K hK
       clear hh
       simp only [filled, upd, Have, is, any, row, pick, Act.put, List.setIfInBounds_toArray, List.set_cons_zero, List.set_cons_succ, Nat.reduceAdd, Nat.reduceEqDiff, reduceIte] at hK ⊢
       go_simp
       exact hK _ _ (Below.refl _ _) rfl
      ·intro t wq hbq hh K hK
       have e0 := hh.1
       simp only [pick] at e0
       replace e0 : t 0 = (.pointer (some ⟨gb, 0, none⟩)) := e0
       clear hh
       simp only [filled, upd, Have, is, any, row, pick, Act.put, List.setIfInBounds_toArray, List.set_cons_zero, List.set_cons_succ, Nat.reduceAdd, Nat.reduceEqDiff, reduceIte] at hK ⊢
       simp only [e0] at hK ⊢
       go_simp
       first | exact hK _ _ (Below.refl _ _) rfl | exact hK _ _ (Below.refl _ _) (int_wrap (by omega) (by omega))
      ·intro t wq hbq hh K hK
       have e1 := hh.1
       simp only [pick] at e1
       replace e1 : t 1 = (.bool true) := e1
       clear hh
       simp only [filled, upd, Have, is, any, row, pick, Act.put, List.setIfInBounds_toArray, List.set_cons_zero, List.set_cons_succ, Nat.reduceAdd, Nat.reduceEqDiff, reduceIte] at hK ⊢
       simp only [e1] at hK ⊢
       go_simp
       exact hK _ _ (Below.refl _ _) rfl
      ·intro t wq hbq hh K hK
       have e2 := hh.1
       simp only [pick] at e2
       replace e2 : t 2 = (.bool true) := e2
       clear hh
       simp only [filled, upd, Have, is, any, row, pick, Act.put, List.setIfInBounds_toArray, List.set_cons_zero, List.set_cons_succ, Nat.reduceAdd, Nat.reduceEqDiff, reduceIte] at hK ⊢
       simp only [e2] at hK ⊢
       go_simp
       exact hK _ _ (Below.refl _ _) rfl
      ·intro t wq hbq hh K hK
       have e2 := hh.1
       simp only [pick] at e2
       replace e2 : t 2 = (.bool true) := e2
       have e3 := hh.2.1
       simp only [pick] at e3
       replace e3 : t 3 = (.pointer (some ⟨gb, 0, none⟩)) := e3
       clear hh
       simp only [filled, upd, Have, is, any, row, pick, Act.put, List.setIfInBounds_toArray, List.set_cons_zero, List.set_cons_succ, Nat.reduceAdd, Nat.reduceEqDiff, reduceIte] at hK ⊢
       simp only [e2, e3] at hK ⊢
       go_simp
       exact hK _ _ (Below.refl _ _) rfl
      ·intro t wq hbq hh K hK
       have e2 := hh.1
       simp only [pick] at e2
       replace e2 : t 2 = (.bool true) := e2
       have e4 := hh.2.1
       simp only [pick] at e4
       replace e4 : t 4 = (.pointer (some ⟨gb, 0, none⟩)) := e4
       clear hh
       simp only [filled, upd, Have, is, any, row, pick, Act.put, List.setIfInBounds_toArray, List.set_cons_zero, List.set_cons_succ, Nat.reduceAdd, Nat.reduceEqDiff, reduceIte] at hK ⊢
       simp only [e2, e4] at hK ⊢
       go_simp
       exact hK _ _ (Below.refl _ _) rfl
      ·intro t wq hbq hh K hK
       have e2 := hh.1
       simp only [pick] at e2
       replace e2 : t 2 = (.bool true) := e2
       have e5 := hh.2.1
       simp only [pick] at e5
       replace e5 : t 5 = (.pointer (some ⟨gb, 0, none⟩)) := e5
       clear hh
       simp only [filled, upd, Have, is, any, row, pick, Act.put, List.setIfInBounds_toArray, List.set_cons_zero, List.set_cons_succ, Nat.reduceAdd, Nat.reduceEqDiff, reduceIte] at hK ⊢
       simp only [e2, e5] at hK ⊢
       obtain ⟨d0, d1, d2, d3, d4, d5, d6, d7, d8, d9, d10, d11, d12⟩ := (HXbw1.out.below hbq).facts
       go_simp
       exact hK _ _ (Below.refl _ _) rfl
      ·intro t wq hbq hh K hK
       have e2 := hh.1
       simp only [pick] at e2
       replace e2 : t 2 = (.bool true) := e2
       clear hh
       simp only [filled, upd, Have, is, any, row, pick, Act.put, List.setIfInBounds_toArray, List.set_cons_zero, List.set_cons_succ, Nat.reduceAdd, Nat.reduceEqDiff, reduceIte] at hK ⊢
       simp only [e2] at hK ⊢
       go_simp
       exact hK _ _ (Below.refl _ _) rfl
      ·intro t wq hbq hh K hK
       have e2 := hh.1
       simp only [pick] at e2
       replace e2 : t 2 = (.bool true) := e2
       have e7 := hh.2.1
       simp only [pick] at e7
       replace e7 : t 7 = (.pointer (some ⟨w.heap.size, 0, none⟩)) := e7
       clear hh
       simp only [filled, upd, Have, is, any, row, pick, Act.put, List.setIfInBounds_toArray, List.set_cons_zero, List.set_cons_succ, Nat.reduceAdd, Nat.reduceEqDiff, reduceIte] at hK ⊢
       simp only [e2, e7] at hK ⊢
       have hc := (HXpw1.out.below hbq).facts.1
       go_simp
       exact hK _ _ (Below.refl _ _) rfl
      ·intro t wq hbq hh K hK
       have e2 := hh.1
       simp only [pick] at e2
       replace e2 : t 2 = (.bool true) := e2
       have e6 := hh.2.1
       simp only [pick] at e6
       replace e6 : t 6 = (.string (strOf b.sch)) := e6
       have e8 := hh.2.2.1
       simp only [pick] at e8
       replace e8 : t 8 = (.string (strOf s)) := e8
       clear hh
       simp only [filled, upd, Have, is, any, row, pick, Act.put, List.setIfInBounds_toArray, List.set_cons_zero, List.set_cons_succ, Nat.reduceAdd, Nat.reduceEqDiff, reduceIte] at hK ⊢
       simp only [e2, e6, e8] at hK ⊢
       have hqq := HEQ.out
       go_simp
       exact hK _ _ (Below.refl _ _) rfl
      ·intro t wq hbq hh K hK
       have e2 := hh.1
       simp only [pick] at e2
       replace e2 : t 2 = (.bool true) := e2
       have e9 := hh.2.1
       simp only [pick] at e9
       replace e9 : t 9 = (.bool true) := e9
       clear hh
       simp only [filled, upd, Have, is, any, row, pick, Act.put, List.setIfInBounds_toArray, List.set_cons_zero, List.set_cons_succ, Nat.reduceAdd, Nat.reduceEqDiff, reduceIte] at hK ⊢
       simp only [e2, e9] at hK ⊢
       go_simp
       exact hK _ _ (Below.refl _ _) rfl
      ·intro t wq hbq hh K hK
       have e10 := hh.1
       simp only [pick] at e10
       replace e10 : t 10 = (.bool true) := e10
       clear hh
       simp only [filled, upd, Have, is, any, row, pick, Act.put, List.setIfInBounds_toArray, List.set_cons_zero, List.set_cons_succ, Nat.reduceAdd, Nat.reduceEqDiff, reduceIte] at hK ⊢
       simp only [e10] at hK ⊢
       go_simp
       exact hK _ _ (Below.refl _ _) rfl
      ·intro t wq hbq hh K hK
       have e11 := hh.1
       simp only [pick] at e11
       replace e11 : t 11 = (.bool true) := e11
       clear hh
       simp only [filled, upd, Have, is, any, row, pick, Act.put, List.setIfInBounds_toArray, List.set_cons_zero, List.set_cons_succ, Nat.reduceAdd, Nat.reduceEqDiff, reduceIte] at hK ⊢
       simp only [e11] at hK ⊢
       go_simp
       exact hK _ _ (Below.refl _ _) rfl
      ·intro t wq hbq hh K hK
       have e11 := hh.1
       simp only [pick] at e11
       replace e11 : t 11 = (.bool true) := e11
       have e12 := hh.2.1
       simp only [pick] at e12
       replace e12 : t 12 = (.pointer (some ⟨w.heap.size, 1, none⟩)) := e12
       clear hh
       simp only [filled, upd, Have, is, any, row, pick, Act.put, List.setIfInBounds_toArray, List.set_cons_zero, List.set_cons_succ, Nat.reduceAdd, Nat.reduceEqDiff, reduceIte] at hK ⊢
       simp only [e11, e12] at hK ⊢
       have hc := (HXpw1.out.below hbq).facts.2.1
       go_simp
       exact hK _ _ (Below.refl _ _) rfl
      ·intro t wq hbq hh K hK
       have e11 := hh.1
       simp only [pick] at e11
       replace e11 : t 11 = (.bool true) := e11
       have e13 := hh.2.1
       simp only [pick] at e13
       replace e13 : t 13 = (.string (strOf rt)) := e13
       clear hh
       simp only [filled, upd, Have, is, any, row, pick, Act.put, List.setIfInBounds_toArray, List.set_cons_zero, List.set_cons_succ, Nat.reduceAdd, Nat.reduceEqDiff, reduceIte] at hK ⊢
       simp only [e11, e13] at hK ⊢
       go_simp
       refine (HPR.out _).mono ?_
       rintro e w9 ⟨rfl, hw9⟩
       subst hw9
       exact hK _ _ (Below.refl _ _) rfl
      ·intro t wq hbq hh K hK
       have e11 := hh.1
       simp only [pick] at e11
       replace e11 : t 11 = (.bool true) := e11
       have e14 := hh.2.1
       simp only [pick] at e14
       replace e14 : t 14 = (.bool false) := e14
       clear hh
       simp only [filled, upd, Have, is, any, row, pick, Act.put, List.setIfInBounds_toArray, List.set_cons_zero, List.set_cons_succ, Nat.reduceAdd, Nat.reduceEqDiff, reduceIte] at hK ⊢
       simp only [e11, e14] at hK ⊢
       go_simp
       exact hK _ _ (Below.refl _ _) rfl
      ·intro t wq hbq hh K hK
       have e11 := hh.1
       simp only [pick] at e11
       replace e11 : t 11 = (.bool true) := e11
       have e15 := hh.2.1
       simp only [pick] at e15
       replace e15 : t 15 = (.bool true) := e15
       clear hh
       simp only [filled, upd, Have, is, any, row, pick, Act.put, List.setIfInBounds_toArray, List.set_cons_zero, List.set_cons_succ, Nat.reduceAdd, Nat.reduceEqDiff, reduceIte] at hK ⊢
       simp only [e11, e15] at hK ⊢
       go_simp
       exact hK _ _ (Below.refl _ _) rfl
     ·intro t wz hbq hh
      have f16 := have_get hh 16 (by decide)
      simp only [pick] at f16
      replace f16 : t 16 = (.bool true) := f16
      clear hh
      simp only [filled, upd, Have, is, any, row, pick, Act.put, List.setIfInBounds_toArray, List.set_cons_zero, List.set_cons_succ, Nat.reduceAdd, Nat.reduceEqDiff, reduceIte]
      simp only [f16]
      have HXbwz := hid (HXbw1.out.below hbq)
      have HXpwz := hid (HXpw1.out.below hbq)
      have HXrwz := hid (HXrw1.out.below hbq)
      have HBwz := hid (bel HBw1.out hbq)
      clear HXbw1 HXpw1 HXrw1 HBw1
      clear hbq
      have HLr : Hid ((w.heap.size + 1) < wz.heap.size) := HXrwz.out.lt
      go_upto_region 7 with (fail)
      refine wp_region_rel_tail (by kernel_rfl) 8 [is (.pointer (some ⟨w.heap.size, 1, none⟩)), is (.string (strOf rt)), is (.pointer (some ⟨gb, 0, none⟩)), is (.pointer (some ⟨gb, 0, none⟩)), is (.agg (cells b (.slice A n c))), urlt OR wz.heap.size, urla OR wz.heap.size, is (.bool OR.isSome)] [[], [0], [], [2], [2, 3], [0, 1, 2, 3, 4], [0, 1, 2, 3, 4, 5], [0, 1, 2, 3, 4, 5], [0, 1, 2, 3, 4, 5, 6, 7]] (by kernel_rfl) ?_ ?_
      ·refine ⟨?_, ?_, ?_, ?_, ?_, ?_, ?_, ?_, trivial⟩
       ·intro t wq hbq hh K hK
        clear hh
        simp only [filled, filledN, upd, Have, is, any, row, pick, Act.put, List.setIfInBounds_toArray, List.set_cons_zero, List.set_cons_succ, Nat.reduceAdd, Nat.reduceEqDiff, reduceIte] at hK ⊢
        go_simp
        exact hK _ _ (Below.refl _ _) rfl
       ·intro t wq hbq hh K hK
        have e0 := hh.1
        simp only [pick] at e0
        replace e0 : t 0 = (.pointer (some ⟨w.heap.size, 1, none⟩)) := e0
        clear hh
        simp only [filled, filledN, upd, Have, is, any, row, pick, Act.put, List.setIfInBounds_toArray, List.set_cons_zero, List.set_cons_succ, Nat.reduceAdd, Nat.reduceEqDiff, reduceIte] at hK ⊢
        simp only [e0] at hK ⊢
        have hc := (HXpwz.out.below hbq).facts.2.1
        go_simp
        exact hK _ _ (Below.refl _ _) rfl
       ·intro t wq hbq hh K hK
        clear hh
        simp only [filled, filledN, upd, Have, is, any, row, pick, Act.put, List.setIfInBounds_toArray, List.set_cons_zero, List.set_cons_succ, Nat.reduceAdd, Nat.reduceEqDiff, reduceIte] at hK ⊢
        go_simp
        exact hK _ _ (Below.refl _ _) rfl
       ·intro t wq hbq hh K hK
        have e2 := hh.1
        simp only [pick] at e2
        replace e2 : t 2 = (.pointer (some ⟨gb, 0, none⟩)) := e2
        clear hh
        simp only [filled, filledN, upd, Have, is, any, row, pick, Act.put, List.setIfInBounds_toArray, List.set_cons_zero, List.set_cons_succ, Nat.reduceAdd, Nat.reduceEqDiff, reduceIte] at hK ⊢
        simp only [e2] at hK ⊢
        go_simp
        exact hK _ _ (Below.refl _ _) rfl
       ·intro t wq hbq hh K hK
        have e3 := hh.2.1
        simp only [pick] at e3
        replace e3 : t 3 = (.pointer (some ⟨gb, 0, none⟩)) := e3
        clear hh
        simp only [filled, filledN, upd, Have, is, any, row, pick, Act.put, List.setIfInBounds_toArray, List.set_cons_zero, List.set_cons_succ, Nat.reduceAdd, Nat.reduceEqDiff, reduceIte] at hK ⊢
        simp only [e3] at hK ⊢
        obtain ⟨d0, d1, d2, d3, d4, d5, d6, d7, d8, d9, d10, d11, d12⟩ := (HXbwz.out.below hbq).facts
        go_simp
        exact hK _ _ (Below.refl _ _) rfl
       ·intro t wq hbq hh K hK
        have e1 := hh.2.1
        simp only [pick] at e1
        replace e1 : t 1 = (.string (strOf rt)) := e1
        have e4 := hh.2.2.2.2.1
        simp only [pick] at e4
        replace e4 : t 4 = (.agg (cells b (.slice A n c))) := e4
        clear hh
        simp only [filled, filledN, upd, Have, is, any, row, pick, Act.put, List.setIfInBounds_toArray, List.set_cons_zero, List.set_cons_succ, Nat.reduceAdd, Nat.reduceEqDiff, reduceIte] at hK ⊢
        simp only [e1, e4] at hK ⊢
        go_simp
        refine (HRE.out _ (Ubx.PthIs.below HP.out (bel HBwz.out hbq)) (HL.out.below (bel HBwz.out hbq)) (pow_below HT.out (bel HBwz.out hbq)) (HM.out.below (bel HBwz.out hbq))).mono ?_
        intro e w9 ha
        obtain ⟨hb9, A9, n9, c9, rfl, ho9⟩ := Regs.anso_urlt ha
        exact hK _ _ hb9 ⟨A9, n9, c9, rfl, owns_base ho9 hbq.size⟩
       ·intro t wq hbq hh K hK
        have e5 := hh.2.2.2.2.2.1
        simp only [pick] at e5
        clear hh
        simp only [filled, filledN, upd, Have, is, any, row, pick, Act.put, List.setIfInBounds_toArray, List.set_cons_zero, List.set_cons_succ, Nat.reduceAdd, Nat.reduceEqDiff, reduceIte] at hK ⊢
        obtain ⟨A5, n5, c5, e5, ho5⟩ := e5
        simp only [e5] at hK ⊢
        go_simp
        exact hK _ _ (Below.refl _ _) ⟨_, _, _, rfl, ho5⟩
       ·intro t wq hbq hh K hK
        have e5 := hh.2.2.2.2.2.1
        simp only [pick] at e5
        clear hh
        simp only [filled, filledN, upd, Have, is, any, row, pick, Act.put, List.setIfInBounds_toArray, List.set_cons_zero, List.set_cons_succ, Nat.reduceAdd, Nat.reduceEqDiff, reduceIte] at hK ⊢
        obtain ⟨A5, n5, c5, e5, ho5⟩ := e5
        simp only [e5] at hK ⊢
        go_simp
        exact hK _ _ (Below.refl _ _) rfl
      ·intro t wq hbq hh
       have f6 := have_get hh 6 (by decide)
       simp only [pick] at f6
       have f7 := have_get hh 7 (by decide)
       simp only [pick] at f7
       replace f7 : t 7 = (.bool OR.isSome) := f7
       clear hh
       simp only [filled, filledN, upd, Have, is, any, row, pick, Act.put, List.setIfInBounds_toArray, List.set_cons_zero, List.set_cons_succ, Nat.reduceAdd, Nat.reduceEqDiff, reduceIte]
       obtain ⟨A6, n6, c6, f6, ho6⟩ := f6
       simp only [f6, f7]
       have HXrq := hid (HXrwz.out.below hbq)
       have HBq := hid (bel HBwz.out hbq)
       have HOQ := hid ho6
       clear ho6 hbq
       refine store_box HXrq.out ((OR).getD U0) A6 n6 c6 (.tmp 4) (.tmp 52) rfl rfl rfl rfl ?_
       go_wp2
       try simp only [Exit.inBlock, Exit.then]
       have ho := owns_base (SixC.owns_other (w' := World.setRow wq (w.heap.size + 1) (cells ((OR).getD U0) (.slice A6 n6 c6))) (gb := (w.heap.size + 1)) (HOQ.out) (fun k hk => setRow_other _ _ _ _ hk) HLr.out) (by have h1 := LE_r.out; have h2 := HLr.out; omega : w.heap.size ≤ _)
       refine bodyPost_ret (w := World.setRow wq (w.heap.size + 1) (cells ((OR).getD U0) (.slice A6 n6 c6))) (res2 (u := (OR).getD U0) (p := .slice A6 n6 c6) rfl (HXrq.out.row _ _) (OR).isSome _ rfl rfl) rfl ?_
       rw [HO5.out]
       exact Regs.urlt_anso (below_setRow HBq.out LE_r.out _) ho
   ·
    have HEQ : Hid (((strOf b.sch).toList == (strOf s).toList) = false) := by show _ = _; rw [str_tl, str_tl, beq_eq_false_iff_ne]; exact hb1
    have HO5 : Hid (O = OA) := by show _ = _; rw [HO2.out, if_neg (fun h => hb1 h.1)]
    clear HO2 hb1
    go_upto_region 6 with (fail)
    refine wp_region_rel (by kernel_rfl) [is (.pointer (some ⟨gb, 0, none⟩)), is (.bool true), is (.bool true), is (.pointer (some ⟨gb, 0, none⟩)), is (.pointer (some ⟨gb, 0, none⟩)), is (.pointer (some ⟨gb, 0, none⟩)), is (.string (strOf b.sch)), is (.pointer (some ⟨w.heap.size, 0, none⟩)), is (.string (strOf s)), is (.bool false), is (.bool false), is (.bool false), is (undef), is (undef), is (undef), is (undef), is (.bool false)] [[], [0], [1], [2], [2, 3], [2, 4], [2, 5], [2], [2, 7], [2, 6, 8], [2, 9], [10], [11], [11, 12], [11, 13], [11, 14], [11, 15]] (by kernel_rfl) ?_ ?_
    ·refine ⟨?_, ?_, ?_, ?_, ?_, ?_, ?_, ?_, ?_, ?_, ?_, ?_, ?_, ?_, ?_, ?_, ?_, trivial⟩
     ·intro t wq hbq hh K hK
      clear hh
      simp only [filled, upd, Have, is, any, row, pick, Act.put, List.setIfInBounds_toArray, List.set_cons_zero, List.set_cons_succ, Nat.reduceAdd, Nat.reduceEqDiff, reduceIte] at hK ⊢
      go_simp
      exact hK _ _ (Below.refl _ _) rfl
     ·intro t wq hbq hh K hK
      have e0 := hh.1
      simp only [pick] at e0
      replace e0 : t 0 = (.pointer (some ⟨gb, 0, none⟩)) := e0
      clear hh
      simp only [filled, upd, Have, is, any, row, pick, Act.put, List.setIfInBounds_toArray, List.set_cons_zero, List.set_cons_succ, Nat.reduceAdd, Nat.reduceEqDiff, reduceIte] at hK ⊢
      simp only [e0] at hK ⊢
      go_simp
      first | exact hK _ _ (Below.refl _ _) rfl | exact hK _ _ (Below.refl _ _) (int_wrap (by omega) (by omega))
     ·intro t wq hbq hh K hK
      have e1 := hh.1
      simp only [pick] at e1
      replace e1 : t 1 = (.bool true) := e1
      clear hh
      simp only [filled, upd, Have, is, any, row, pick, Act.put, List.setIfInBounds_toArray, List.set_cons_zero, List.set_cons_succ, Nat.reduceAdd, Nat.reduceEqDiff, reduceIte] at hK ⊢
      simp only [e1] at hK ⊢
      go_simp
      exact hK _ _ (Below.refl _ _) rfl
     ·intro t wq hbq hh K hK
      have e2 := hh.1
      simp only [pick] at e2
      replace e2 : t 2 = (.bool true) := e2
      clear hh
      simp only [filled, upd, Have, is, any, row, pick, Act.put, List.setIfInBounds_toArray, List.set_cons_zero, List.set_cons_succ, Nat.reduceAdd, Nat.reduceEqDiff, reduceIte] at hK ⊢
      simp only [e2] at hK ⊢
      go_simp
      exact hK _ _ (Below.refl _ _) rfl
     ·intro t wq hbq hh K hK
      have e2 := hh.1
      simp only [pick] at e2
      replace e2 : t 2 = (.bool true) := e2
      have e3 := hh.2.1
      simp only [pick] at e3
      replace e3 : t 3 = (.pointer (some ⟨gb, 0, none⟩)) := e3
      clear hh
      simp only [filled, upd, Have, is, any, row, pick, Act.put, List.setIfInBounds_toArray, List.set_cons_zero, List.set_cons_succ, Nat.reduceAdd, Nat.reduceEqDiff, reduceIte] at hK ⊢
      simp only [e2, e3] at hK ⊢
      go_simp
      exact hK _ _ (Below.refl _ _) rfl
     ·intro t wq hbq hh K hK
      have e2 := hh.1
      simp only [pick] at e2
      replace e2 : t 2 = (.bool true) := e2
      have e4 := hh.2.1
      simp only [pick] at e4
      replace e4 : t 4 = (.pointer (some ⟨gb, 0, none⟩)) := e4
      clear hh
      simp only [filled, upd, Have, is, any, row, pick, Act.put, List.setIfInBounds_toArray, List.set_cons_zero, List.set_cons_succ, Nat.reduceAdd, Nat.reduceEqDiff, reduceIte] at hK ⊢
      simp only [e2, e4] at hK ⊢
      go_simp
      exact hK _ _ (Below.refl _ _) rfl
     ·intro t wq hbq hh K hK
      have e2 := hh.1
      simp only [pick] at e2
      replace e2 : t 2 = (.bool true) := e2
      have e5 := hh.2.1
      simp only [pick] at e5
      replace e5 : t 5 = (.pointer (some ⟨gb, 0, none⟩)) := e5
      clear hh
      simp only [filled, upd, Have, is, any, row, pick, Act.put, List.setIfInBounds_toArray, List.set_cons_zero, List.set_cons_succ, Nat.reduceAdd, Nat.reduceEqDiff, reduceIte] at hK ⊢
      simp only [e2, e5] at hK ⊢
      obtain ⟨d0, d1, d2, d3, d4, d5, d6, d7, d8, d9, d10, d11, d12⟩ := (HXbw1.out.below hbq).facts
      go_simp
      exact hK _ _ (Below.refl _ _) rfl
     ·intro t wq hbq hh K hK
      have e2 := hh.1
      simp only [pick] at e2
      replace e2 : t 2 = (.bool true) := e2
      clear hh
      simp only [filled, upd, Have, is, any, row, pick, Act.put, List.setIfInBounds_toArray, List.set_cons_zero, List.set_cons_succ, Nat.reduceAdd, Nat.reduceEqDiff, reduceIte] at hK ⊢
      simp only [e2] at hK ⊢
      go_simp
      exact hK _ _ (Below.refl _ _) rfl
     ·intro t wq hbq hh K hK
      have e2 := hh.1
      simp only [pick] at e2
      replace e2 : t 2 = (.bool true) := e2
      have e7 := hh.2.1
      simp only [pick] at e7
      replace e7 : t 7 = (.pointer (some ⟨w.heap.size, 0, none⟩)) := e7
      clear hh
      simp only [filled, upd, Have, is, any, row, pick, Act.put, List.setIfInBounds_toArray, List.set_cons_zero, List.set_cons_succ, Nat.reduceAdd, Nat.reduceEqDiff, reduceIte] at hK ⊢
      simp only [e2, e7] at hK ⊢
      have hc := (HXpw1.out.below hbq).facts.1
      go_simp
      exact hK _ _ (Below.refl _ _) rfl
     ·intro t wq hbq hh K hK
      have e2 := hh.1
      simp only [pick] at e2
      replace e2 : t 2 = (.bool true) := e2
      have e6 := hh.2.1
      simp only [pick] at e6
      replace e6 : t 6 = (.string (strOf b.sch)) := e6
      have e8 := hh.2.2.1
      simp only [pick] at e8
      replace e8 : t 8 = (.string (strOf s)) := e8
      clear hh
      simp only [filled, upd, Have, is, any, row, pick, Act.put, List.setIfInBounds_toArray, List.set_cons_zero, List.set_cons_succ, Nat.reduceAdd, Nat.reduceEqDiff, reduceIte] at hK ⊢
      simp only [e2, e6, e8] at hK ⊢
      have hqq := HEQ.out
      go_simp
      exact hK _ _ (Below.refl _ _) rfl
     ·intro t wq hbq hh K hK
      have e2 := hh.1
      simp only [pick] at e2
      replace e2 : t 2 = (.bool true) := e2
      have e9 := hh.2.1
      simp only [pick] at e9
      replace e9 : t 9 = (.bool false) := e9
      clear hh
      simp only [filled, upd, Have, is, any, row, pick, Act.put, List.setIfInBounds_toArray, List.set_cons_zero, List.set_cons_succ, Nat.reduceAdd, Nat.reduceEqDiff, reduceIte] at hK ⊢
      simp only [e2, e9] at hK ⊢
      go_simp
      exact hK _ _ (Below.refl _ _) rfl
     ·intro t wq hbq hh K hK
      have e10 := hh.1
      simp only [pick] at e10
      replace e10 : t 10 = (.bool false) := e10
      clear hh
      simp only [filled, upd, Have, is, any, row, pick, Act.put, List.setIfInBounds_toArray, List.set_cons_zero, List.set_cons_succ, Nat.reduceAdd, Nat.reduceEqDiff, reduceIte] at hK ⊢
      simp only [e10] at hK ⊢
      go_simp
      exact hK _ _ (Below.refl _ _) rfl
     ·intro t wq hbq hh K hK
      have e11 := hh.1
      simp only [pick] at e11
      replace e11 : t 11 = (.bool false) := e11
      clear hh
      simp only [filled, upd, Have, is, any, row, pick, Act.put, List.setIfInBounds_toArray, List.set_cons_zero, List.set_cons_succ, Nat.reduceAdd, Nat.reduceEqDiff, reduceIte] at hK ⊢
      simp only [e11] at hK ⊢
      go_simp
      exact hK _ _ (Below.refl _ _) rfl
     ·intro t wq hbq hh K hK
      have e11 := hh.1
      simp only [pick] at e11
      replace e11 : t 11 = (.bool false) := e11
      have e12 := hh.2.1
      simp only [pick] at e12
      replace e12 : t 12 = (undef) := e12
      clear hh
      simp only [filled, upd, Have, is, any, row, pick, Act.put, List.setIfInBounds_toArray, List.set_cons_zero, List.set_cons_succ, Nat.reduceAdd, Nat.reduceEqDiff, reduceIte] at hK ⊢
      simp only [e11, e12] at hK ⊢
      go_simp
      exact hK _ _ (Below.refl _ _) rfl
     ·intro t wq hbq hh K hK
      have e11 := hh.1
      simp only [pick] at e11
      replace e11 : t 11 = (.bool false) := e11
      have e13 := hh.2.1
      simp only [pick] at e13
      replace e13 : t 13 = (undef) := e13
      clear hh
      simp only [filled, upd, Have, is, any, row, pick, Act.put, List.setIfInBounds_toArray, List.set_cons_zero, List.set_cons_succ, Nat.reduceAdd, Nat.reduceEqDiff, reduceIte] at hK ⊢
      simp only [e11, e13] at hK ⊢
      go_simp
      exact hK _ _ (Below.refl _ _) rfl
     ·intro t wq hbq hh K hK
      have e11 := hh.1
      simp only [pick] at e11
      replace e11 : t 11 = (.bool false) := e11
      have e14 := hh.2.1
      simp only [pick] at e14
      replace e14 : t 14 = (undef) := e14
      clear hh
      simp only [filled, upd, Have, is, any, row, pick, Act.put, List.setIfInBounds_toArray, List.set_cons_zero, List.set_cons_succ, Nat.reduceAdd, Nat.reduceEqDiff, reduceIte] at hK ⊢
      simp only [e11, e14] at hK ⊢
      go_simp
      exact hK _ _ (Below.refl _ _) rfl
     ·intro t wq hbq hh K hK
      have e11 := hh.1
      simp only [pick] at e11
      replace e11 : t 11 = (.bool false) := e11
      have e15 := hh.2.1
      simp only [pick] at e15
      replace e15 : t 15 = (undef) := e15
      clear hh
      simp only [filled, upd, Have, is, any, row, pick, Act.put, List.setIfInBounds_toArray, List.set_cons_zero, List.set_cons_succ, Nat.reduceAdd, Nat.reduceEqDiff, reduceIte] at hK ⊢
      simp only [e11, e15] at hK ⊢
      go_simp
      exact hK _ _ (Below.refl _ _) rfl
    ·intro t wz hbq hh
     have f16 := have_get hh 16 (by decide)
     simp only [pick] at f16
     replace f16 : t 16 = (.bool false) := f16
     clear hh
     simp only [filled, upd, Have, is, any, row, pick, Act.put, List.setIfInBounds_toArray, List.set_cons_zero, List.set_cons_succ, Nat.reduceAdd, Nat.reduceEqDiff, reduceIte]
     simp only [f16]
     have HXbwz := hid (HXbw1.out.below hbq)
     have HXpwz := hid (HXpw1.out.below hbq)
     have HXrwz := hid (HXrw1.out.below hbq)
     have HBwz := hid (bel HBw1.out hbq)
     clear HXbw1 HXpw1 HXrw1 HBw1
     clear hbq
     have HLr : Hid ((w.heap.size + 1) < wz.heap.size) := HXrwz.out.lt
     go_upto_region 8 with (fail)
     refine wp_region_rel_tail (by kernel_rfl) 11 [is (.pointer (some ⟨w.heap.size, 0, none⟩)), is (.string (strOf s)), is (.pointer (some ⟨w.heap.size, 1, none⟩)), is (.string (strOf rt)), is (.pointer (some ⟨w.heap.size, 0, none⟩)), is (.string (strOf s)), is (.string (cs true)), is (.string (strOf T2)), urlt OA wz.heap.size, urla OA wz.heap.size, is (.bool OA.isSome)] [[], [0], [], [2], [], [4], [4, 5], [2, 3, 4, 5, 6], [0, 1, 2, 3, 4, 5, 6, 7], [0, 1, 2, 3, 4, 5, 6, 7, 8], [0, 1, 2, 3, 4, 5, 6, 7, 8], [0, 1, 2, 3, 4, 5, 6, 7, 8, 9, 10]] (by kernel_rfl) ?_ ?_
     ·refine ⟨?_, ?_, ?_, ?_, ?_, ?_, ?_, ?_, ?_, ?_, ?_, trivial⟩
      ·intro t wq hbq hh K hK
       clear hh
       simp only [filled, filledN, upd, Have, is, any, row, pick, Act.put, List.setIfInBounds_toArray, List.set_cons_zero, List.set_cons_succ, Nat.reduceAdd, Nat.reduceEqDiff, reduceIte] at hK ⊢
       go_simp
       exact hK _ _ (Below.refl _ _) rfl
      ·intro t wq hbq hh K hK
       have e0 := hh.1
       simp only [pick] at e0
       replace e0 : t 0 = (.pointer (some ⟨w.heap.size, 0, none⟩)) := e0
       clear hh
       simp only [filled, filledN, upd, Have, is, any, row, pick, Act.put, List.setIfInBounds_toArray, List.set_cons_zero, List.set_cons_succ, Nat.reduceAdd, Nat.reduceEqDiff, reduceIte] at hK ⊢
       simp only [e0] at hK ⊢
       have hc := (HXpwz.out.below hbq).facts.1
       go_simp
       exact hK _ _ (Below.refl _ _) rfl
      ·intro t wq hbq hh K hK
       clear hh
       simp only [filled, filledN, upd, Have, is, any, row, pick, Act.put, List.setIfInBounds_toArray, List.set_cons_zero, List.set_cons_succ, Nat.reduceAdd, Nat.reduceEqDiff, reduceIte] at hK ⊢
       go_simp
       exact hK _ _ (Below.refl _ _) rfl
      ·intro t wq hbq hh K hK
       have e2 := hh.1
       simp only [pick] at e2
       replace e2 : t 2 = (.pointer (some ⟨w.heap.size, 1, none⟩)) := e2
       clear hh
       simp only [filled, filledN, upd, Have, is, any, row, pick, Act.put, List.setIfInBounds_toArray, List.set_cons_zero, List.set_cons_succ, Nat.reduceAdd, Nat.reduceEqDiff, reduceIte] at hK ⊢
       simp only [e2] at hK ⊢
       have hc := (HXpwz.out.below hbq).facts.2.1
       go_simp
       exact hK _ _ (Below.refl _ _) rfl
      ·intro t wq hbq hh K hK
       clear hh
       simp only [filled, filledN, upd, Have, is, any, row, pick, Act.put, List.setIfInBounds_toArray, List.set_cons_zero, List.set_cons_succ, Nat.reduceAdd, Nat.reduceEqDiff, reduceIte] at hK ⊢
       go_simp
       exact hK _ _ (Below.refl _ _) rfl
      ·intro t wq hbq hh K hK
       have e4 := hh.1
       simp only [pick] at e4
       replace e4 : t 4 = (.pointer (some ⟨w.heap.size, 0, none⟩)) := e4
       clear hh
       simp only [filled, filledN, upd, Have, is, any, row, pick, Act.put, List.setIfInBounds_toArray, List.set_cons_zero, List.set_cons_succ, Nat.reduceAdd, Nat.reduceEqDiff, reduceIte] at hK ⊢
       simp only [e4] at hK ⊢
       have hc := (HXpwz.out.below hbq).facts.1
       go_simp
       exact hK _ _ (Below.refl _ _) rfl
      ·intro t wq hbq hh K hK
       have e5 := hh.2.1
       simp only [pick] at e5
       replace e5 : t 5 = (.string (strOf s)) := e5
       clear hh
       simp only [filled, filledN, upd, Have, is, any, row, pick, Act.put, List.setIfInBounds_toArray, List.set_cons_zero, List.set_cons_succ, Nat.reduceAdd, Nat.reduceEqDiff, reduceIte] at hK ⊢
       simp only [e5] at hK ⊢
       go_simp
       refine (HSS.out _).mono ?_
       rintro e w9 ⟨rfl, hw9⟩
       subst hw9
       exact hK _ _ (Below.refl _ _) rfl
      ·intro t wq hbq hh K hK
       have e3 := hh.2.1
       simp only [pick] at e3
       replace e3 : t 3 = (.string (strOf rt)) := e3
       have e6 := hh.2.2.2.2.1
       simp only [pick] at e6
       replace e6 : t 6 = (.string (cs true)) := e6
       clear hh
       simp only [filled, filledN, upd, Have, is, any, row, pick, Act.put, List.setIfInBounds_toArray, List.set_cons_zero, List.set_cons_succ, Nat.reduceAdd, Nat.reduceEqDiff, reduceIte] at hK ⊢
       simp only [e3, e6] at hK ⊢
       go_simp
       refine (HTR.out _).mono ?_
       rintro e w9 ⟨rfl, hb9⟩
       exact hK _ _ hb9 rfl
      ·intro t wq hbq hh K hK
       have e1 := hh.2.1
       simp only [pick] at e1
       replace e1 : t 1 = (.string (strOf s)) := e1
       have e7 := hh.2.2.2.2.2.2.2.1
       simp only [pick] at e7
       replace e7 : t 7 = (.string (strOf T2)) := e7
       clear hh
       simp only [filled, filledN, upd, Have, is, any, row, pick, Act.put, List.setIfInBounds_toArray, List.set_cons_zero, List.set_cons_succ, Nat.reduceAdd, Nat.reduceEqDiff, reduceIte] at hK ⊢
       simp only [e1, e7] at hK ⊢
       go_simp
       refine (HAU.out _ (HL.out.below (bel HBwz.out hbq)) (pow_below HT.out (bel HBwz.out hbq)) (HM.out.below (bel HBwz.out hbq))).mono ?_
       intro e w9 ha
       obtain ⟨hb9, A9, n9, c9, rfl, ho9⟩ := Regs.anso_urlt ha
       exact hK _ _ hb9 ⟨A9, n9, c9, rfl, owns_base ho9 hbq.size⟩
      ·intro t wq hbq hh K hK
       have e8 := hh.2.2.2.2.2.2.2.2.1
       simp only [pick] at e8
       clear hh
       simp only [filled, filledN, upd, Have, is, any, row, pick, Act.put, List.setIfInBounds_toArray, List.set_cons_zero, List.set_cons_succ, Nat.reduceAdd, Nat.reduceEqDiff, reduceIte] at hK ⊢
       obtain ⟨A8, n8, c8, e8, ho8⟩ := e8
       simp only [e8] at hK ⊢
       go_simp
       exact hK _ _ (Below.refl _ _) ⟨_, _, _, rfl, ho8⟩
      ·intro t wq hbq hh K hK
       have e8 := hh.2.2.2.2.2.2.2.2.1
       simp only [pick] at e8
       clear hh
       simp only [filled, filledN, upd, Have, is, any, row, pick, Act.put, List.setIfInBounds_toArray, List.set_cons_zero, List.set_cons_succ, Nat.reduceAdd, Nat.reduceEqDiff, reduceIte] at hK ⊢
       obtain ⟨A8, n8, c8, e8, ho8⟩ := e8
       simp only [e8] at hK ⊢
       go_simp
       exact hK _ _ (Below.refl _ _) rfl
     ·intro t wq hbq hh
      have f9 := have_get hh 9 (by decide)
      simp only [pick] at f9
      have f10 := have_get hh 10 (by decide)
      simp only [pick] at f10
      replace f10 : t 10 = (.bool OA.isSome) := f10
      clear hh
      simp only [filled, filledN, upd, Have, is, any, row, pick, Act.put, List.setIfInBounds_toArray, List.set_cons_zero, List.set_cons_succ, Nat.reduceAdd, Nat.reduceEqDiff, reduceIte]
      obtain ⟨A9, n9, c9, f9, ho9⟩ := f9
      simp only [f9, f10]
      have HXrq := hid (HXrwz.out.below hbq)
      have HBq := hid (bel HBwz.out hbq)
      have HOQ := hid ho9
      clear ho9 hbq
      refine store_box HXrq.out ((OA).getD U0) A9 n9 c9 (.tmp 4) (.tmp 63) rfl rfl rfl rfl ?_
      go_wp2
      try simp only [Exit.inBlock, Exit.then]
      have ho := owns_base (SixC.owns_other (w' := World.setRow wq (w.heap.size + 1) (cells ((OA).getD U0) (.slice A9 n9 c9))) (gb := (w.heap.size + 1)) (HOQ.out) (fun k hk => setRow_other _ _ _ _ hk) HLr.out) (by have h1 := LE_r.out; have h2 := HLr.out; omega : w.heap.size ≤ _)
      refine bodyPost_ret (w := World.setRow wq (w.heap.size + 1) (cells ((OA).getD U0) (.slice A9 n9 c9))) (res2 (u := (OA).getD U0) (p := .slice A9 n9 c9) rfl (HXrq.out.row _ _) (OA).isSome _ rfl rfl) rfl ?_
      rw [HO5.out]
      exact Regs.urlt_anso (below_setRow HBq.out LE_r.out _) ho
  | false =>
   have HO2 : Hid (O = if s ≠ [] then PrsP.plain ⟨s, rt, q, f, hq, hf⟩ else if b.opq = true then OO else if b.sch = FILE then file rt (some b) else OR) := by show _ = _; rw [HO.out, if_neg hs1, if_neg (by rw [hsp]; simp)]
   rw [hsp] at HSP
   clear hsp hs1
   go_wp2_with fail
   refine (HSP.out _).mono ?_
   rintro e wx ⟨rfl, hwx⟩
   obtain rfl : w1 = wx := by first | exact hwx | exact hwx.symm
   clear hwx
   by_cases h0 : s = []
   ·
    have HO3 : Hid (O = if b.opq = true then OO else if b.sch = FILE then file rt (some b) else OR) := by show _ = _; rw [HO2.out, if_neg (by simp [h0])]
    have e0h0 : ((strOf s).toList == []) = true := by rw [str_tl, h0]; first | done | rfl
    have e1h0 : (strOf s).toList = [] := by rw [str_tl, h0]; first | done | rfl
    clear h0 HO2
    cases hbo : b.opq with
    | true =>
     have HO5 : Hid (O = OO) := by show _ = _; rw [HO3.out, if_pos hbo]
     rw [hbo] at d6
     clear hbo HO3
     go_upto_region 14 with (fail)
     clear p0 p1 p2 p3 p4 p5
     clear d0 d1 d2 d3 d4 d5 d6 d7 d8 d9 d10 d11 d12
     have HLr : Hid ((w.heap.size + 1) < w1.heap.size) := HXrw1.out.lt
     go_upto_region 14 with (fail)
     refine wp_region_rel_tail (by kernel_rfl) 7 [is (.agg (pcells ⟨s, rt, q, f, hq, hf⟩)), is (.pointer (some ⟨gb, 0, none⟩)), is (.pointer (some ⟨gb, 0, none⟩)), is (.agg (cells b (.slice A n c))), urlt OO w1.heap.size, urla OO w1.heap.size, is (.bool OO.isSome)] [[], [], [1], [1, 2], [0, 1, 2, 3], [0, 1, 2, 3, 4], [0, 1, 2, 3, 4], [0, 1, 2, 3, 4, 5, 6]] (by kernel_rfl) ?_ ?_
     ·refine ⟨?_, ?_, ?_, ?_, ?_, ?_, ?_, trivial⟩
      ·intro t wq hbq hh K hK
       clear hh
       simp only [filled, filledN, upd, Have, is, any, row, pick, Act.put, List.setIfInBounds_toArray, List.set_cons_zero, List.set_cons_succ, Nat.reduceAdd, Nat.reduceEqDiff, reduceIte] at hK ⊢
       obtain ⟨p0, p1, p2, p3, p4, p5⟩ := (HXpw1.out.below hbq).facts
       go_simp
       exact hK _ _ (Below.refl _ _) rfl
      ·intro t wq hbq hh K hK
       clear hh
       simp only [filled, filledN, upd, Have, is, any, row, pick, Act.put, List.setIfInBounds_toArray, List.set_cons_zero, List.set_cons_succ, Nat.reduceAdd, Nat.reduceEqDiff, reduceIte] at hK ⊢
       go_simp
       exact hK _ _ (Below.refl _ _) rfl
      ·intro t wq hbq hh K hK
       have e1 := hh.1
       simp only [pick] at e1
       replace e1 : t 1 = (.pointer (some ⟨gb, 0, none⟩)) := e1
       clear hh
       simp only [filled, filledN, upd, Have, is, any, row, pick, Act.put, List.setIfInBounds_toArray, List.set_cons_zero, List.set_cons_succ, Nat.reduceAdd, Nat.reduceEqDiff, reduceIte] at hK ⊢
       simp only [e1] at hK ⊢
       go_simp
       exact hK _ _ (Below.refl _ _) rfl
      ·intro t wq hbq hh K hK
       have e2 := hh.2.1
       simp only [pick] at e2
       replace e2 : t 2 = (.pointer (some ⟨gb, 0, none⟩)) := e2
       clear hh
       simp only [filled, filledN, upd, Have, is, any, row, pick, Act.put, List.setIfInBounds_toArray, List.set_cons_zero, List.set_cons_succ, Nat.reduceAdd, Nat.reduceEqDiff, reduceIte] at hK ⊢
       simp only [e2] at hK ⊢
       obtain ⟨d0, d1, d2, d3, d4, d5, d6, d7, d8, d9, d10, d11, d12⟩ := (HXbw1.out.below hbq).facts
       go_simp
       exact hK _ _ (Below.refl _ _) rfl
      ·intro t wq hbq hh K hK
       have e0 := hh.1
       simp only [pick] at e0
       replace e0 : t 0 = (.agg (pcells ⟨s, rt, q, f, hq, hf⟩)) := e0
       have e3 := hh.2.2.2.1
       simp only [pick] at e3
       replace e3 : t 3 = (.agg (cells b (.slice A n c))) := e3
       clear hh
       simp only [filled, filledN, upd, Have, is, any, row, pick, Act.put, List.setIfInBounds_toArray, List.set_cons_zero, List.set_cons_succ, Nat.reduceAdd, Nat.reduceEqDiff, reduceIte] at hK ⊢
       simp only [e0, e3] at hK ⊢
       go_simp
       refine (HOO.out _ (Ubx.PthIs.below HP.out (bel HBw1.out hbq))).mono ?_
       intro e w9 ha
       obtain ⟨hb9, A9, n9, c9, rfl, ho9⟩ := Regs.anso_urlt ha
       exact hK _ _ hb9 ⟨A9, n9, c9, rfl, owns_base ho9 hbq.size⟩
      ·intro t wq hbq hh K hK
       have e4 := hh.2.2.2.2.1
       simp only [pick] at e4
       clear hh
       simp only [filled, filledN, upd, Have, is, any, row, pick, Act.put, List.setIfInBounds_toArray, List.set_cons_zero, List.set_cons_succ, Nat.reduceAdd, Nat.reduceEqDiff, reduceIte] at hK ⊢
       obtain ⟨A4, n4, c4, e4, ho4⟩ := e4
       simp only [e4] at hK ⊢
       go_simp
       exact hK _ _ (Below.refl _ _) ⟨_, _, _, rfl, ho4⟩
      ·intro t wq hbq hh K hK
       have e4 := hh.2.2.2.2.1
       simp only [pick] at e4
       clear hh
       simp only [filled, filledN, upd, Have, is, any, row, pick, Act.put, List.setIfInBounds_toArray, List.set_cons_zero, List.set_cons_succ, Nat.reduceAdd, Nat.reduceEqDiff, reduceIte] at hK ⊢
       obtain ⟨A4, n4, c4, e4, ho4⟩ := e4
       simp only [e4] at hK ⊢
       go_simp
       exact hK _ _ (Below.refl _ _) rfl
     ·intro t wq hbq hh
      have f5 := have_get hh 5 (by decide)
      simp only [pick] at f5
      have f6 := have_get hh 6 (by decide)
      simp only [pick] at f6
      replace f6 : t 6 = (.bool OO.isSome) := f6
      clear hh
      simp only [filled, filledN, upd, Have, is, any, row, pick, Act.put, List.setIfInBounds_toArray, List.set_cons_zero, List.set_cons_succ, Nat.reduceAdd, Nat.reduceEqDiff, reduceIte]
      obtain ⟨A5, n5, c5, f5, ho5⟩ := f5
      simp only [f5, f6]
      have HXrq := hid (HXrw1.out.below hbq)
      have HBq := hid (bel HBw1.out hbq)
      have HOQ := hid ho5
      clear ho5 hbq
      refine store_box HXrq.out ((OO).getD U0) A5 n5 c5 (.tmp 4) (.tmp 87) rfl rfl rfl rfl ?_
      go_wp2
      try simp only [Exit.inBlock, Exit.then]
      have ho := owns_base (SixC.owns_other (w' := World.setRow wq (w.heap.size + 1) (cells ((OO).getD U0) (.slice A5 n5 c5))) (gb := (w.heap.size + 1)) (HOQ.out) (fun k hk => setRow_other _ _ _ _ hk) HLr.out) (by have h1 := LE_r.out; have h2 := HLr.out; omega : w.heap.size ≤ _)
      refine bodyPost_ret (w := World.setRow wq (w.heap.size + 1) (cells ((OO).getD U0) (.slice A5 n5 c5))) (res2 (u := (OO).getD U0) (p := .slice A5 n5 c5) rfl (HXrq.out.row _ _) (OO).isSome _ rfl rfl) rfl ?_
      rw [HO5.out]
      exact Regs.urlt_anso (below_setRow HBq.out LE_r.out _) ho
    | false =>
     rw [hbo] at d6
     by_cases hb1 : b.sch = FILE
     ·
      have HO5 : Hid (O = file rt (some b)) := by show _ = _; rw [HO3.out, if_neg (by rw [hbo]; simp), if_pos hb1]
      have e0hb1 : ((strOf b.sch).toList == [102, 105, 108, 101]) = true := by rw [str_tl, hb1]; first | done | rfl
      have e1hb1 : (strOf b.sch).toList = [102, 105, 108, 101] := by rw [str_tl, hb1]; first | done | rfl
      clear hb1 hbo HO3
      go_wp2_with fail
      refine (HFB.out _ HXbw1.out (Ubx.PthIs.below HP.out HBw1.out) (HL.out.below HBw1.out) (pow_below HT.out HBw1.out) (HM.out.below HBw1.out)).mono ?_
      rintro e w2 ⟨hbx, u', A', n', c', ok, rfl, hown, hoo⟩
      have HLr : Hid ((w.heap.size + 1) < w1.heap.size) := HXrw1.out.lt
      have HOW := hid hown
      have HOO := hid hoo
      clear hown hoo
      have HXbw2 := hid (HXbw1.out.below hbx)
      have HXpw2 := hid (HXpw1.out.below hbx)
      have HXrw2 := hid (HXrw1.out.below hbx)
      have HBw2 := hid (bel HBw1.out hbx)
      have HOB : Hid (w.heap.size ≤ w1.heap.size) := HBw1.out.size
      clear HXbw1 HXpw1 HXrw1 HBw1
      clear hbx
      go_wp2_with (refine store_box HXrw2.out u' A' n' c' (.tmp 4) (.tmp 99) rfl rfl rfl rfl ?_)
      try simp only [Exit.inBlock, Exit.then]
      exact bodyPost_ret (w := World.setRow w2 (w.heap.size + 1) (cells u' (.slice A' n' c'))) (res2 (u := u') (p := .slice A' n' c') rfl (HXrw2.out.row u' _) ok _ rfl rfl) rfl ⟨below_setRow HBw2.out LE_r.out _, u', A', n', c', ok, rfl, (HOW.out.row HLr.out _).base HOB.out, by rw [HO5.out]; exact HOO.out⟩
     ·
      have HO5 : Hid (O = OR) := by show _ = _; rw [HO3.out, if_neg (by rw [hbo]; simp), if_neg hb1]
      have e0hb1 : ((strOf b.sch).toList == [102, 105, 108, 101]) = false := by rw [str_tl, beq_eq_false_iff_ne]; exact hb1
      have e1hb1 : ¬ (strOf b.sch).toList = [102, 105, 108, 101] := by rw [str_tl]; exact hb1
      clear hb1 hbo HO3
      go_upto_region 17 with (fail)
      clear p0 p1 p2 p3 p4 p5
      clear d0 d1 d2 d3 d4 d5 d6 d7 d8 d9 d10 d11 d12
      have HLr : Hid ((w.heap.size + 1) < w1.heap.size) := HXrw1.out.lt
      go_upto_region 17 with (fail)
      refine wp_region_rel_tail (by kernel_rfl) 8 [is (.pointer (some ⟨w.heap.size, 1, none⟩)), is (.string (strOf rt)), is (.pointer (some ⟨gb, 0, none⟩)), is (.pointer (some ⟨gb, 0, none⟩)), is (.agg (cells b (.slice A n c))), urlt OR w1.heap.size, urla OR w1.heap.size, is (.bool OR.isSome)] [[], [0], [], [2], [2, 3], [0, 1, 2, 3, 4], [0, 1, 2, 3, 4, 5], [0, 1, 2, 3, 4, 5], [0, 1, 2, 3, 4, 5, 6, 7]] (by kernel_rfl) ?_ ?_
      ·refine ⟨?_, ?_, ?_, ?_, ?_, ?_, ?_, ?_, trivial⟩
       ·intro t wq hbq hh K hK
        clear hh
        simp only [filled, filledN, upd, Have, is, any, row, pick, Act.put, List.setIfInBounds_toArray, List.set_cons_zero, List.set_cons_succ, Nat.reduceAdd, Nat.reduceEqDiff, reduceIte] at hK ⊢
        go_simp
        exact hK _ _ (Below.refl _ _) rfl
       ·intro t wq hbq hh K hK
        have e0 := hh.1
        simp only [pick] at e0
        replace e0 : t 0 = (.pointer (some ⟨w.heap.size, 1, none⟩)) := e0
        clear hh
        simp only [filled, filledN, upd, Have, is, any, row, pick, Act.put, List.setIfInBounds_toArray, List.set_cons_zero, List.set_cons_succ, Nat.reduceAdd, Nat.reduceEqDiff, reduceIte] at hK ⊢
        simp only [e0] at hK ⊢
        have hc := (HXpw1.out.below hbq).facts.2.1
        go_simp
        exact hK _ _ (Below.refl _ _) rfl
       ·intro t wq hbq hh K hK
        clear hh
        simp only [filled, filledN, upd, Have, is, any, row, pick, Act.put, List.setIfInBounds_toArray, List.set_cons_zero, List.set_cons_succ, Nat.reduceAdd, Nat.reduceEqDiff, reduceIte] at hK ⊢
        go_simp
        exact hK _ _ (Below.refl _ _) rfl
       ·intro t wq hbq hh K hK
        have e2 := hh.1
        simp only [pick] at e2
        replace e2 : t 2 = (.pointer (some ⟨gb, 0, none⟩)) := e2
        clear hh
        simp only [filled, filledN, upd, Have, is, any, row, pick, Act.put, List.setIfInBounds_toArray, List.set_cons_zero, List.set_cons_succ, Nat.reduceAdd, Nat.reduceEqDiff, reduceIte] at hK ⊢
        simp only [e2] at hK ⊢
        go_simp
        exact hK _ _ (Below.refl _ _) rfl
       ·intro t wq hbq hh K hK
        have e3 := hh.2.1
        simp only [pick] at e3
        replace e3 : t 3 = (.pointer (some ⟨gb, 0, none⟩)) := e3
        clear hh
        simp only [filled, filledN, upd, Have, is, any, row, pick, Act.put, List.setIfInBounds_toArray, List.set_cons_zero, List.set_cons_succ, Nat.reduceAdd, Nat.reduceEqDiff, reduceIte] at hK ⊢
        simp only [e3] at hK ⊢
        obtain ⟨d0, d1, d2, d3, d4, d5, d6, d7, d8, d9, d10, d11, d12⟩ := (HXbw1.out.below hbq).facts
        go_simp
        exact hK _ _ (Below.refl _ _) rfl
       ·intro t wq hbq hh K hK
        have e1 := hh.2.1
        simp only [pick] at e1
        replace e1 : t 1 = (.string (strOf rt)) := e1
        have e4 := hh.2.2.2.2.1
        simp only [pick] at e4
        replace e4 : t 4 = (.agg (cells b (.slice A n c))) := e4
        clear hh
        simp only [filled, filledN, upd, Have, is, any, row, pick, Act.put, List.setIfInBounds_toArray, List.set_cons_zero, List.set_cons_succ, Nat.reduceAdd, Nat.reduceEqDiff, reduceIte] at hK ⊢
        simp only [e1, e4] at hK ⊢
        go_simp
        refine (HRE.out _ (Ubx.PthIs.below HP.out (bel HBw1.out hbq)) (HL.out.below (bel HBw1.out hbq)) (pow_below HT.out (bel HBw1.out hbq)) (HM.out.below (bel HBw1.out hbq))).mono ?_
        intro e w9 ha
        obtain ⟨hb9, A9, n9, c9, rfl, ho9⟩ := Regs.anso_urlt ha
        exact hK _ _ hb9 ⟨A9, n9, c9, rfl, owns_base ho9 hbq.size⟩
       ·intro t wq hbq hh K hK
        have e5 := hh.2.2.2.2.2.1
        simp only [pick] at e5
        clear hh
        simp only [filled, filledN, upd, Have, is, any, row, pick, Act.put, List.setIfInBounds_toArray, List.set_cons_zero, List.set_cons_succ, Nat.reduceAdd, Nat.reduceEqDiff, reduceIte] at hK ⊢
        obtain ⟨A5, n5, c5, e5, ho5⟩ := e5
        simp only [e5] at hK ⊢
        go_simp
        exact hK _ _ (Below.refl _ _) ⟨_, _, _, rfl, ho5⟩
       ·intro t wq hbq hh K hK
        have e5 := hh.2.2.2.2.2.1
        simp only [pick] at e5
        clear hh
        simp only [filled, filledN, upd, Have, is, any, row, pick, Act.put, List.setIfInBounds_toArray, List.set_cons_zero, List.set_cons_succ, Nat.reduceAdd, Nat.reduceEqDiff, reduceIte] at hK ⊢
        obtain ⟨A5, n5, c5, e5, ho5⟩ := e5
        simp only [e5] at hK ⊢
        go_simp
        exact hK _ _ (Below.refl _ _) rfl
      ·intro t wq hbq hh
       have f6 := have_get hh 6 (by decide)
       simp only [pick] at f6
       have f7 := have_get hh 7 (by decide)
       simp only [pick] at f7
       replace f7 : t 7 = (.bool OR.isSome) := f7
       clear hh
       simp only [filled, filledN, upd, Have, is, any, row, pick, Act.put, List.setIfInBounds_toArray, List.set_cons_zero, List.set_cons_succ, Nat.reduceAdd, Nat.reduceEqDiff, reduceIte]
       obtain ⟨A6, n6, c6, f6, ho6⟩ := f6
       simp only [f6, f7]
       have HXrq := hid (HXrw1.out.below hbq)
       have HBq := hid (bel HBw1.out hbq)
       have HOQ := hid ho6
       clear ho6 hbq
       refine store_box HXrq.out ((OR).getD U0) A6 n6 c6 (.tmp 4) (.tmp 107) rfl rfl rfl rfl ?_
       go_wp2
       try simp only [Exit.inBlock, Exit.then]
       have ho := owns_base (SixC.owns_other (w' := World.setRow wq (w.heap.size + 1) (cells ((OR).getD U0) (.slice A6 n6 c6))) (gb := (w.heap.size + 1)) (HOQ.out) (fun k hk => setRow_other _ _ _ _ hk) HLr.out) (by have h1 := LE_r.out; have h2 := HLr.out; omega : w.heap.size ≤ _)
       refine bodyPost_ret (w := World.setRow wq (w.heap.size + 1) (cells ((OR).getD U0) (.slice A6 n6 c6))) (res2 (u := (OR).getD U0) (p := .slice A6 n6 c6) rfl (HXrq.out.row _ _) (OR).isSome _ rfl rfl) rfl ?_
       rw [HO5.out]
       exact Regs.urlt_anso (below_setRow HBq.out LE_r.out _) ho
   ·
    have HO5 : Hid (O = PrsP.plain ⟨s, rt, q, f, hq, hf⟩) := by show _ = _; rw [HO2.out, if_pos h0]
    have e0h0 : ((strOf s).toList == []) = false := by rw [str_tl, beq_eq_false_iff_ne]; exact h0
    have e1h0 : ¬ (strOf s).toList = [] := by rw [str_tl]; exact h0
    have e2 : (strOf s).toList.isEmpty = false := by rw [str_tl]; simpa using h0
    clear h0 HO2
    go_wp2_with fail
    refine (HPL.out _ (HL.out.below HBw1.out) (pow_below HT.out HBw1.out) (HM.out.below HBw1.out)).mono ?_
    rintro e w2 ⟨hbx, u', A', n', c', ok, rfl, hown, hoo⟩
    have HLr : Hid ((w.heap.size + 1) < w1.heap.size) := HXrw1.out.lt
    have HOW := hid hown
    have HOO := hid hoo
    clear hown hoo
    have HXbw2 := hid (HXbw1.out.below hbx)
    have HXpw2 := hid (HXpw1.out.below hbx)
    have HXrw2 := hid (HXrw1.out.below hbx)
    have HBw2 := hid (bel HBw1.out hbx)
    have HOB : Hid (w.heap.size ≤ w1.heap.size) := HBw1.out.size
    clear HXbw1 HXpw1 HXrw1 HBw1
    clear hbx
    go_wp2_with (refine store_box HXrw2.out u' A' n' c' (.tmp 4) (.tmp 71) rfl rfl rfl rfl ?_)
    try simp only [Exit.inBlock, Exit.then]
    exact bodyPost_ret (w := World.setRow w2 (w.heap.size + 1) (cells u' (.slice A' n' c'))) (res2 (u := u') (p := .slice A' n' c') rfl (HXrw2.out.row u' _) ok _ rfl rfl) rfl ⟨below_setRow HBw2.out LE_r.out _, u', A', n', c', ok, rfl, (HOW.out.row HLr.out _).base HOB.out, by rw [HO5.out]; exact HOO.out⟩
end Go.Proofs.YtaooiggckcfanaaGreatDoor.PrsO
namespace Go.Proofs.YtaooiggckcfanaaGreatDoor.PrsS
open Go.RowKit Base Regs Base2 UtfA UtfL PthG PthH PthJ UrlA PrsP PrsA PrsQ PrsB Ubx Pbx PrsC PrsD SixG HstC Spl ClnP PrsG PrsH PrsN PrsO PrsR
set_option maxRecDepth 100000 in
set_option maxHeartbeats 16000000 in
theorem parseB_any (T : List UInt8) (b : U) (gb : Nat) (A : Option Addr) (n c : Nat) (w : World) (hs : T.length ≤ 65536) (hn : n ≤ 100000) (hB : UB w gb b (.slice A n c)) (hP : PthIs w b A n c) (hL : Lad w) (hT : Tab.Pow w) (hM : Max w) (hU : Utab w) : Calls Tryz.prog 16 #[.string (strOf T), .pointer (some ⟨gb, 0, none⟩)] w (AnsP w (PrsP.url T (some b))) := by
 have hcl := clean_len T
 obtain ⟨C, hC⟩ : ∃ x, x = clean T := ⟨_, rfl⟩
 rw [← hC] at hcl
 obtain ⟨p, hp⟩ : ∃ x, x = PrsP.apart C := ⟨_, rfl⟩
 have hpl := apart_len C
 rw [← hp] at hpl
 obtain ⟨OR, hOR⟩ : ∃ x, x = PrsP.resolve p (some b) := ⟨_, rfl⟩
 obtain ⟨OU, hOU⟩ : ∃ x, x = PrsP.url T (some b) := ⟨_, rfl⟩
 have HOU : Hid (OU = OR.map fun u => PrsP.finish u p) := by show _ = _; rw [hOU]; unfold PrsP.url; rw [← hC, ← hp, ← hOR]
 rw [← hOU]
 have HCL : Hid (∀ w : World, Utab w → Calls Tryz.prog 19 #[.string (strOf T)] w fun e w' => e = .returned (.string (strOf C)) ∧ Below w.heap.size w w') := fun w h => by rw [hC]; exact clean_any T w (by omega) h
 have HAP : Hid (∀ w : World, Max w → Calls Tryz.prog 35 #[.string (strOf C)] w fun e w' => e = .returned (.agg (pcells p)) ∧ Below w.heap.size w w') := fun w h => by rw [hp]; exact apart_any C w (by omega) h
 have HRS : Hid (∀ w : World, UB w gb b (.slice A n c) → PthIs w b A n c → Lad w → Tab.Pow w → Max w → Calls Tryz.prog 36 #[.agg (pcells p), .pointer (some ⟨gb, 0, none⟩)] w (AnsO w OR)) := fun w h1 h2 a d e => by rw [hOR]; exact resolveB_any p b gb A n c w (by omega) hn h1 h2 a d e
 have HXbw := hid hB
 have HP := hid hP
 clear hB hP
 have HFI : Hid (∀ (u : U) (A : Option Addr) (n c : Nat) (w : World), Calls Tryz.prog 37 #[.agg (cells u (.slice A n c)), .agg (pcells p)] w fun e w' => e = .returned (.agg (cells (PrsP.finish u p) (.slice A n c))) ∧ Below w.heap.size w w') := fun u A n c w => finish_any u p A n c w (by omega) (by omega)
 have hTI : ¬ ((strOf T).size : Int) > 65536 := by rw [size_strOf]; omega
 have hTI2 : ((strOf T).size : Int) ≤ 65536 := by omega
 have HL := hid hL
 have HT := hid hT
 have HM := hid hM
 have HUT := hid hU
 clear hOU hOR hp hC hL hT hM hU hpl hcl
 obtain ⟨s, rt, q, f, hq, hf⟩ := p
 go_enter Tryz.func16, Tryz.ntmps16
 go_upto_region 1 with (fail)
 generalize hw : World.alloc w _ = w1
 have h1 : UB w1 (w.heap.size) (U0) (.slice none 0 0) ∧ Below w.heap.size w w1 := by
  subst hw
  exact laid1 w _ _
 clear hw
 have hlb := HXbw.out.lt
 have NE_b_r : Hid (gb ≠ w.heap.size) := by show _ ≠ _; omega
 have NE_r_b : Hid (w.heap.size ≠ gb) := by show _ ≠ _; omega
 clear hlb
 have LE_r : Hid (w.heap.size ≤ w.heap.size) := (Below.refl w.heap.size w).size
 have HXbw1 := hid (HXbw.out.below h1.2)
 have HBw1 := hid (bel (Below.refl w.heap.size w) h1.2)
 have HXrw1 := hid h1.1
 clear HXbw
 clear h1
 go_wp2_with fail
 refine (HCL.out _ (HUT.out.below HBw1.out)).mono ?_
 rintro e w2 ⟨rfl, hbx⟩
 have HXbw2 := hid (HXbw1.out.below hbx)
 have HXrw2 := hid (HXrw1.out.below hbx)
 have HBw2 := hid (bel HBw1.out hbx)
 clear HXbw1 HXrw1 HBw1
 clear hbx
 go_wp2_with fail
 refine (HAP.out _ (HM.out.below HBw2.out)).mono ?_
 rintro e w3 ⟨rfl, hbx⟩
 have HXbw3 := hid (HXbw2.out.below hbx)
 have HXrw3 := hid (HXrw2.out.below hbx)
 have HBw3 := hid (bel HBw2.out hbx)
 clear HXbw2 HXrw2 HBw2
 clear hbx
 rw [show Value.agg (pcells ⟨s, rt, q, f, hq, hf⟩) = .agg #[.string (strOf s), .string (strOf rt), .string (strOf q), .string (strOf f), .bool hq, .bool hf] from rfl]
 go_upto_region 4 with (fail)
 generalize hw : World.alloc w3 _ = w4
 have h1 : PB w4 (w3.heap.size) (⟨s, rt, q, f, hq, hf⟩) ∧ Below w3.heap.size w3 w4 := by
  subst hw
  exact laid1 w3 _ _
 clear hw
 have hlb := HXbw3.out.lt
 have NE_b_p : Hid (gb ≠ w3.heap.size) := by show _ ≠ _; omega
 have NE_p_b : Hid (w3.heap.size ≠ gb) := by show _ ≠ _; omega
 clear hlb
 have hlr := HXrw3.out.lt
 have NE_r_p : Hid (w.heap.size ≠ w3.heap.size) := by show _ ≠ _; omega
 have NE_p_r : Hid (w3.heap.size ≠ w.heap.size) := by show _ ≠ _; omega
 clear hlr
 have LE_p : Hid (w.heap.size ≤ w3.heap.size) := HBw3.out.size
 have HXbw4 := hid (HXbw3.out.below h1.2)
 have HXrw4 := hid (HXrw3.out.below h1.2)
 have HBw4 := hid (bel HBw3.out h1.2)
 have HXpw4 := hid h1.1
 clear HXbw3 HXrw3 HBw3
 clear h1
 obtain ⟨p0, p1, p2, p3, p4, p5⟩ := HXpw4.out.facts
 go_wp2_with fail
 clear p0 p1 p2 p3 p4 p5
 refine (HRS.out _ HXbw4.out (Ubx.PthIs.below HP.out HBw4.out) (HL.out.below HBw4.out) (pow_below HT.out HBw4.out) (HM.out.below HBw4.out)).mono ?_
 rintro e w5 ⟨hbx, u', A', n', c', ok, rfl, hown, hoo⟩
 have HLr : Hid (w.heap.size < w4.heap.size) := HXrw4.out.lt
 have HOB : Hid (w.heap.size ≤ w4.heap.size) := HBw4.out.size
 have HXbw5 := hid (HXbw4.out.below hbx)
 have HXrw5 := hid (HXrw4.out.below hbx)
 have HXpw5 := hid (HXpw4.out.below hbx)
 have HBw5 := hid (bel HBw4.out hbx)
 have HOO := hid hoo
 have HWw5 := hid (show Own w4 w5 u' A' n' c' from hown)
 clear hoo hown
 clear HXbw4 HXrw4 HXpw4 HBw4
 clear hbx
 rw [show Value.agg (cells u' (.slice A' n' c')) = .agg #[.string (strOf u'.sch), .string (strOf u'.usr), .string (strOf u'.pwd), .string (strOf u'.hst), .bool u'.hh, .int .i64 u'.port, .bool u'.opq, .string (strOf u'.txt), .slice A' n' c', .bool u'.hq, .bool u'.hf, .string (strOf u'.qry), .string (strOf u'.frg)] from rfl]
 go_upto_region 5 with (fail)
 generalize hw : World.alloc w5 _ = w6
 have h1 : UB w6 (w5.heap.size) (u') (.slice A' n' c') ∧ Below w5.heap.size w5 w6 := by
  subst hw
  exact laid1 w5 _ _
 clear hw
 have hlb := HXbw5.out.lt
 have NE_b_u : Hid (gb ≠ w5.heap.size) := by show _ ≠ _; omega
 have NE_u_b : Hid (w5.heap.size ≠ gb) := by show _ ≠ _; omega
 clear hlb
 have hlr := HXrw5.out.lt
 have NE_r_u : Hid (w.heap.size ≠ w5.heap.size) := by show _ ≠ _; omega
 have NE_u_r : Hid (w5.heap.size ≠ w.heap.size) := by show _ ≠ _; omega
 clear hlr
 have hlp := HXpw5.out.lt
 have NE_p_u : Hid (w3.heap.size ≠ w5.heap.size) := by show _ ≠ _; omega
 have NE_u_p : Hid (w5.heap.size ≠ w3.heap.size) := by show _ ≠ _; omega
 clear hlp
 have LE_u : Hid (w.heap.size ≤ w5.heap.size) := HBw5.out.size
 have HXbw6 := hid (HXbw5.out.below h1.2)
 have HXrw6 := hid (HXrw5.out.below h1.2)
 have HXpw6 := hid (HXpw5.out.below h1.2)
 have HBw6 := hid (bel HBw5.out h1.2)
 have HXuw6 := hid h1.1
 have HBU := hid h1.2
 clear HXbw5 HXrw5 HXpw5 HBw5
 clear h1
 skip
 cases ok with
 | false =>
  have HNO : Hid (OU = none) := by
   show _ = _
   rcases HOO.out with ⟨_, h⟩ | ⟨h, _⟩
   ·cases h
   ·rw [HOU.out, h]; rfl
  go_wp2_with (refine store_box HXrw6.out U0 none 0 0 (.tmp 4) (.tmp 24) rfl rfl rfl rfl ?_)
  try simp only [Exit.inBlock, Exit.then]
  refine bodyPost_ret (w := World.setRow w6 w.heap.size (cells U0 (.slice none 0 0))) (resI (u := U0) (p := .slice none 0 0) rfl (HXrw6.out.row U0 _) 2 _ rfl rfl) rfl ?_
  rw [HNO.out]
  exact ⟨below_setRow HBw6.out LE_r.out _, none, 0, 0, rfl, own_nil _ _ rfl⟩
 | true =>
  have HSO : Hid (OU = some (PrsP.finish u' ⟨s, rt, q, f, hq, hf⟩)) := by
   show _ = _
   rcases HOO.out with ⟨h, _⟩ | ⟨_, h, _⟩
   ·rw [HOU.out, h]; rfl
   ·cases h
  have hfp : (PrsP.finish u' ⟨s, rt, q, f, hq, hf⟩).pth = u'.pth := finish_pth _ _
  obtain ⟨d0, d1, d2, d3, d4, d5, d6, d7, d8, d9, d10, d11, d12⟩ := HXuw6.out.facts
  obtain ⟨p0, p1, p2, p3, p4, p5⟩ := HXpw6.out.facts
  go_wp2_with fail
  clear d0 d1 d2 d3 d4 d5 d6 d7 d8 d9 d10 d11 d12
  clear p0 p1 p2 p3 p4 p5
  skip
  have HLW : Hid (Below w5.heap.size w5 w6) := HBU.out
  refine (HFI.out u' A' n' c' _).mono ?_
  rintro e w7 ⟨rfl, hbx⟩
  have HXbw7 := hid (HXbw6.out.below hbx)
  have HXrw7 := hid (HXrw6.out.below hbx)
  have HXpw7 := hid (HXpw6.out.below hbx)
  have HXuw7 := hid (HXuw6.out.below hbx)
  have HBw7 := hid (bel HBw6.out hbx)
  clear HXbw6 HXrw6 HXpw6 HXuw6 HBw6
  have HBX9 := hid hbx
  clear hbx
  have hwn := (HWw5.out.below HLW.out).below HBX9.out
  go_wp2_with (refine store_box HXrw7.out (PrsP.finish u' ⟨s, rt, q, f, hq, hf⟩) A' n' c' (.tmp 4) (.tmp 27) rfl rfl rfl rfl ?_)
  try simp only [Exit.inBlock, Exit.then]
  have ho := (hwn.row HLr.out (cells (PrsP.finish u' ⟨s, rt, q, f, hq, hf⟩) (.slice A' n' c'))).base HOB.out
  refine bodyPost_ret (w := World.setRow w7 w.heap.size (cells (PrsP.finish u' ⟨s, rt, q, f, hq, hf⟩) (.slice A' n' c'))) (resI (u := PrsP.finish u' ⟨s, rt, q, f, hq, hf⟩) (p := .slice A' n' c') rfl (HXrw7.out.row _ _) 0 _ rfl rfl) rfl ?_
  rw [HSO.out]
  exact ⟨below_setRow HBw7.out LE_r.out _, A', n', c', rfl, by show Own _ _ (PrsP.finish u' ⟨s, rt, q, f, hq, hf⟩) _ _ _; unfold Own; rw [hfp]; exact ho⟩
set_option maxRecDepth 100000 in
set_option maxHeartbeats 16000000 in
theorem parseLong_any (T : ByteArray) (v : Value) (w : World) (hs : 65536 < T.size) (hv : v = .pointer none ∨ ∃ g, v = .pointer (some ⟨g, 0, none⟩)) : Calls Tryz.prog 16 #[.string T, v] w fun e w' => e = .returned (.tuple #[.agg (cells U0 (.slice none 0 0)), .int .i64 3]) ∧ Below w.heap.size w w' := by
 have hTI : ((T.size : Nat) : Int) > 65536 := by omega
 have hTJ : ¬ ((T.size : Nat) : Int) ≤ 65536 := by omega
 clear hs hv
 go_enter Tryz.func16, Tryz.ntmps16
 go_upto_region 1 with (fail)
 generalize hw : World.alloc w _ = w1
 have h1 : UB w1 (w.heap.size) (U0) (.slice none 0 0) ∧ Below w.heap.size w w1 := by
  subst hw
  exact laid1 w _ _
 clear hw
 have LE_r : Hid (w.heap.size ≤ w.heap.size) := (Below.refl w.heap.size w).size
 have HBw1 := hid (bel (Below.refl w.heap.size w) h1.2)
 have HXrw1 := hid h1.1
 clear h1
 go_wp2_with (refine store_box HXrw1.out U0 none 0 0 (.tmp 4) (.tmp 12) rfl rfl rfl rfl ?_)
 try simp only [Exit.inBlock, Exit.then]
 exact bodyPost_ret (w := World.setRow w1 w.heap.size (cells U0 (.slice none 0 0))) (resI (u := U0) (p := .slice none 0 0) rfl (HXrw1.out.row U0 _) 3 _ rfl rfl) rfl ⟨rfl, below_setRow HBw1.out LE_r.out _⟩
end Go.Proofs.YtaooiggckcfanaaGreatDoor.PrsS
