/- The walks of the laws MimeTells: they return true, whatever they are called with. -/
import Derived.Test.YtlbgcibdpeaomaaDoorLaw05b
import Derived.Test.YtlbgcibdpeaomaaDoorRegs
import Derived.Test.YtlbgcibdpeaomaaDoorMimJ
namespace Go.Proofs.YtlbgcibdpeaomaaDoor.Laws
open Go.RowKit Go.Proofs.YtlbgcibdpeaomaaDoor.Base Go.Proofs.YtlbgcibdpeaomaaDoor.Base2 Go.Proofs.YtlbgcibdpeaomaaDoor.Regs Go.Proofs.YtlbgcibdpeaomaaDoor.MimK Go.Proofs.YtlbgcibdpeaomaaDoor.UtfL Go.Proofs.YtlbgcibdpeaomaaDoor.TokP Go.Proofs.YtlbgcibdpeaomaaDoor.MimP Go.Proofs.YtlbgcibdpeaomaaDoor.MimB Go.Proofs.YtlbgcibdpeaomaaDoor.MimC Go.Proofs.YtlbgcibdpeaomaaDoor.MimD Go.Proofs.YtlbgcibdpeaomaaDoor.MimE Go.Proofs.YtlbgcibdpeaomaaDoor.MimQ Go.Proofs.YtlbgcibdpeaomaaDoor.MimF Go.Proofs.YtlbgcibdpeaomaaDoor.MimH Go.Proofs.YtlbgcibdpeaomaaDoor.MimI Go.Proofs.YtlbgcibdpeaomaaDoor.MimL Go.Proofs.YtlbgcibdpeaomaaDoor.MimN Go.Proofs.YtlbgcibdpeaomaaDoor.MimW Go.Proofs.YtlbgcibdpeaomaaDoor.Mim0 Go.Proofs.YtlbgcibdpeaomaaDoor.Mim1

set_option linter.unusedSimpArgs false in
set_option maxRecDepth 100000 in
set_option maxHeartbeats 8000000 in
theorem MimeTells_any (T S : ByteArray) (A : Option Addr) (n cap : Nat) (l : List (ByteArray × ByteArray)) (name : ByteArray) (w : World) (hT : T.size ≤ 140737488351232) (hS : S.size ≤ 140737488351232) (hr : Prm w A n l) (hc : n ≤ cap) (hm : cap ≤ maxLen) (hsh : Short l) (hz : name.size ≤ 140737488351232) : Calls Tryd.prog 4 #[.agg #[.string T, .string S, .slice A n cap], .string name] w fun e w' => e = .returned (.bool true) ∧ Below w.heap.size w w' := by
  have HF0 := hid (few_tb (A := A) (n := n) (cap := cap) hT hS hsh)
  have HTY0 : Hid (TyB T S A n cap l w) := ⟨hr, hc, hm⟩
  obtain ⟨gx, gb, hgx⟩ : ∃ (gx : ByteArray) (gb : Bool), GetV (getV l name.data.toList) = .tuple #[.string gx, .bool gb] := by
    cases getV l name.data.toList with
    | none => exact ⟨_, _, rfl⟩
    | some x => exact ⟨_, _, rfl⟩
  have HGC := hid (fun (w : World) (h : TyB T S A n cap l w) => MimG.get_any T S A n cap l name w h.1 h.2.1 h.2.2)
  have HGR : Hid (n ≤ 1073741824 → ∀ (w : World) (h : TyB T S A n cap l w), Calls Tryd.prog 16 #[.slice A n cap, .string name] w fun e w' => e = .returned (GetV (getV l name.data.toList)) ∧ Below w.heap.size w w') := fun hn w h => refGet_any A n cap l name w h.1 h.2.1 hn
  rw [hgx] at HGC HGR
  have HLN := hid hr.1
  clear hT hS hsh hr hc hm hgx hz
  go_enter Tryd.func4, Tryd.ntmps4
  go_upto_region 1 with (fail)
  generalize hwa : World.alloc _ _ = v0
  have hb : Below w.heap.size w v0 := by rw [← hwa]; exact (Below.refl _ _).alloc (Nat.le_refl _) _
  have hxa : B3 25 v0 (w.heap.size) (.string T) (.string S) (.slice A n cap) := by rw [← hwa]; exact heap_alloc_new _ _
  have HX := hid hxa
  clear hwa hxa
  have HB1 := hid hb
  have HTY_1 := hid (HTY0.out.below hb)
  clear hb
  go_wp2_with fail
  refine (awake_any _).mono ?_
  rintro e w2 ⟨rfl, hb⟩
  have HB2 := hid (bel HB1.out hb)
  have HTY_2 := hid (HTY_1.out.below hb)
  have HX_2 := hid (HX.out.below hb)
  clear hb
  obtain ⟨c0, c1, c2⟩ := HX_2.out.facts
  go_wp2_with fail
  clear c0 c1 c2
  refine (HF0.out _ HTY_2.out).mono ?_
  rintro e w3 ⟨fb, rfl, hfb, hb⟩
  have HB3 := hid (bel HB2.out hb)
  have HTY_3 := hid (HTY_2.out.below hb)
  have HX_3 := hid (HX_2.out.below hb)
  clear hb
  cases fb with
  | false =>
    clear hfb
    go_wp2_with fail
    refine (awake_any _).mono ?_
    rintro e w4 ⟨rfl, hb⟩
    have HB4 := hid (bel HB3.out hb)
    have HTY_4 := hid (HTY_3.out.below hb)
    have HX_4 := hid (HX_3.out.below hb)
    clear hb
    go_wp2
    go_ret
    exact ⟨rfl, HB4.out⟩
  | true =>
    have hF := hfb rfl
    clear hfb
    by_cases h2 : name.size ≤ 200
    · have h2i : ¬ (200 : Int) < (name.size : Int) := by omega
      clear h2
      obtain ⟨R1, hR⟩ : ∃ R, R = rightL T.data.toList S.data.toList (PSL l) := ⟨_, rfl⟩
      have HRC := hid (fun (w : World) (h : TyB T S A n cap l w) => right_any T S A n cap l w h.1 h.2.1 h.2.2 (MimI.FewB.mid hF))
      have HRR := hid (fun w h => refRight_tb hF w (h : TyB T S A n cap l w))
      rw [← hR] at HRC HRR
      obtain ⟨X, hX⟩ : ∃ X : ByteArray, X = strOf (printM T.data.toList S.data.toList (PSL l)) := ⟨_, rfl⟩
      have HPC := hid (fun w (h : TyB T S A n cap l w) => print_any T S A n cap l w h.1 h.2.1 h.2.2 hF)
      have HPR := hid (fun w (h : TyB T S A n cap l w) => MimJ.refPrint_any T S A n cap l w h.1 h.2.1 h.2.2 hF)
      rw [← hX] at HPC HPR
      obtain ⟨E, hE⟩ : ∃ E, E = ess T.data.toList S.data.toList := ⟨_, rfl⟩
      have hTz : T.size ≤ 200 := by have := hF.2.1; omega
      have hSz : S.size ≤ 200 := by have := hF.2.1; omega
      have HES := hid (fun w => essence_any T S (.slice A n cap) w (by omega) (by omega))
      rw [← hE] at HES
      obtain ⟨Y0, hY0⟩ : ∃ Y, Y = T.data.toList ++ [47] := ⟨_, rfl⟩
      have HA1 : Hid (∀ w : World, (Op.stringOp .add T ⟨#[47]⟩).run Tryd.prog w = .ok (.string (strOf Y0)) w) := fun w => by rw [hY0]; exact str_add' _ ⟨#[47]⟩ w (by show _ + 1 ≤ _; omega)
      have HA2 : Hid (∀ w : World, (Op.stringOp .add (strOf Y0) S).run Tryd.prog w = .ok (.string (strOf E)) w) := fun w => by
        rw [show E = Y0 ++ S.data.toList by rw [hE, hY0]; simp [ess]]
        exact str_add' _ S w (by rw [size_strOf, hY0, List.length_append, dl]; show T.size + 1 + _ ≤ _; omega)
      replace HGR := hid (HGR.out (by have := HLN.out; have := hF.1; omega))
      clear hF hR hX hE hTz hSz hY0
      obtain ⟨c0, c1, c2⟩ := HX_3.out.facts
      go_wp2_with fail
      clear c0 c1 c2
      refine (HGC.out _ HTY_3.out).mono ?_
      rintro e w4 ⟨rfl, hb⟩
      have HB4 := hid (bel HB3.out hb)
      have HTY_4 := hid (HTY_3.out.below hb)
      have HX_4 := hid (HX_3.out.below hb)
      clear hb
      obtain ⟨c0, c1, c2⟩ := HX_4.out.facts
      go_wp2_with fail
      clear c0 c1 c2
      refine (HGR.out _ HTY_4.out).mono ?_
      rintro e w5 ⟨rfl, hb⟩
      have HB5 := hid (bel HB4.out hb)
      have HTY_5 := hid (HTY_4.out.below hb)
      have HX_5 := hid (HX_4.out.below hb)
      clear hb
      go_upto_region 5 with (fail)
      refine wp_region_rel (by kernel_rfl) [is ((.agg #[.string T, .string S, .slice A n cap])), is (.bool R1), is ((.agg #[.string T, .string S, .slice A n cap])), is (.bool R1), is (.bool true), is (.bool true), is ((.agg #[.string T, .string S, .slice A n cap])), is (.string X), is ((.agg #[.string T, .string S, .slice A n cap])), is (.string X), is (.bool true), is (.bool true), is (.bool true), is ((.agg #[.string T, .string S, .slice A n cap])), is (.string (strOf E)), is (.pointer (some ⟨w.heap.size, 0, none⟩)), is (.string T), is (.string (strOf Y0)), is (.pointer (some ⟨w.heap.size, 1, none⟩)), is (.string S), is (.string (strOf E)), is (.bool true), is (.bool true), is (.bool true), is (.string gx), is (.string gx), is (.bool true), is (.bool true), is (.bool true), is (.bool gb), is (.bool gb), is (.bool true), is (.bool true), is (.bool true)] [[], [0], [], [2], [1, 3], [4], [5], [5, 6], [5], [5, 8], [5, 7, 9], [5, 10], [11], [12], [12, 13], [12], [12, 15], [12, 16], [12], [12, 18], [12, 17, 19], [12, 14, 20], [12, 21], [22], [23], [23], [23, 24, 25], [23, 26], [27], [28], [28], [28, 29, 30], [28, 31], [32]] (by kernel_rfl) ?_ ?_
      · refine ⟨?_, ?_, ?_, ?_, ?_, ?_, ?_, ?_, ?_, ?_, ?_, ?_, ?_, ?_, ?_, ?_, ?_, ?_, ?_, ?_, ?_, ?_, ?_, ?_, ?_, ?_, ?_, ?_, ?_, ?_, ?_, ?_, ?_, ?_, trivial⟩
        · intro t wq hbq hh K hK
          clear hh
          simp only [filled, upd, Have, is, any, row, pick, Act.put, List.setIfInBounds_toArray, List.set_cons_zero, List.set_cons_succ, Nat.reduceAdd, Nat.reduceEqDiff, reduceIte] at hK ⊢
          obtain ⟨c0, c1, c2⟩ := (HX_5.out.below hbq).facts
          go_simp
          exact hK _ _ (Below.refl _ _) rfl
        · intro t wq hbq hh K hK
          have e0 := hh.1
          simp only [pick] at e0
          replace e0 : t 0 = ((.agg #[.string T, .string S, .slice A n cap])) := e0
          clear hh
          simp only [filled, upd, Have, is, any, row, pick, Act.put, List.setIfInBounds_toArray, List.set_cons_zero, List.set_cons_succ, Nat.reduceAdd, Nat.reduceEqDiff, reduceIte] at hK ⊢
          simp only [e0] at hK ⊢
          go_simp
          refine (HRC.out _ (HTY_5.out.below hbq)).mono ?_
          rintro e w9 ⟨rfl, hb9⟩
          exact hK _ _ hb9 rfl
        · intro t wq hbq hh K hK
          clear hh
          simp only [filled, upd, Have, is, any, row, pick, Act.put, List.setIfInBounds_toArray, List.set_cons_zero, List.set_cons_succ, Nat.reduceAdd, Nat.reduceEqDiff, reduceIte] at hK ⊢
          obtain ⟨c0, c1, c2⟩ := (HX_5.out.below hbq).facts
          go_simp
          exact hK _ _ (Below.refl _ _) rfl
        · intro t wq hbq hh K hK
          have e2 := hh.1
          simp only [pick] at e2
          replace e2 : t 2 = ((.agg #[.string T, .string S, .slice A n cap])) := e2
          clear hh
          simp only [filled, upd, Have, is, any, row, pick, Act.put, List.setIfInBounds_toArray, List.set_cons_zero, List.set_cons_succ, Nat.reduceAdd, Nat.reduceEqDiff, reduceIte] at hK ⊢
          simp only [e2] at hK ⊢
          go_simp
          refine (HRR.out _ (HTY_5.out.below hbq)).mono ?_
          rintro e w9 ⟨rfl, hb9⟩
          exact hK _ _ hb9 rfl
        · intro t wq hbq hh K hK
          have e1 := hh.1
          simp only [pick] at e1
          replace e1 : t 1 = (.bool R1) := e1
          have e3 := hh.2.1
          simp only [pick] at e3
          replace e3 : t 3 = (.bool R1) := e3
          clear hh
          simp only [filled, upd, Have, is, any, row, pick, Act.put, List.setIfInBounds_toArray, List.set_cons_zero, List.set_cons_succ, Nat.reduceAdd, Nat.reduceEqDiff, reduceIte] at hK ⊢
          simp only [e1, e3] at hK ⊢
          go_simp
          first | exact hK _ _ (Below.refl _ _) rfl | exact hK _ _ (Below.refl _ _) (by simp [is, pick])
        · intro t wq hbq hh K hK
          have e4 := hh.1
          simp only [pick] at e4
          replace e4 : t 4 = (.bool true) := e4
          clear hh
          simp only [filled, upd, Have, is, any, row, pick, Act.put, List.setIfInBounds_toArray, List.set_cons_zero, List.set_cons_succ, Nat.reduceAdd, Nat.reduceEqDiff, reduceIte] at hK ⊢
          simp only [e4] at hK ⊢
          go_simp
          exact hK _ _ (Below.refl _ _) rfl
        · intro t wq hbq hh K hK
          have e5 := hh.1
          simp only [pick] at e5
          replace e5 : t 5 = (.bool true) := e5
          clear hh
          simp only [filled, upd, Have, is, any, row, pick, Act.put, List.setIfInBounds_toArray, List.set_cons_zero, List.set_cons_succ, Nat.reduceAdd, Nat.reduceEqDiff, reduceIte] at hK ⊢
          simp only [e5] at hK ⊢
          obtain ⟨c0, c1, c2⟩ := (HX_5.out.below hbq).facts
          go_simp
          exact hK _ _ (Below.refl _ _) rfl
        · intro t wq hbq hh K hK
          have e5 := hh.1
          simp only [pick] at e5
          replace e5 : t 5 = (.bool true) := e5
          have e6 := hh.2.1
          simp only [pick] at e6
          replace e6 : t 6 = ((.agg #[.string T, .string S, .slice A n cap])) := e6
          clear hh
          simp only [filled, upd, Have, is, any, row, pick, Act.put, List.setIfInBounds_toArray, List.set_cons_zero, List.set_cons_succ, Nat.reduceAdd, Nat.reduceEqDiff, reduceIte] at hK ⊢
          simp only [e5, e6] at hK ⊢
          go_simp
          refine (HPC.out _ (HTY_5.out.below hbq)).mono ?_
          rintro e w9 ⟨rfl, hb9⟩
          exact hK _ _ hb9 rfl
        · intro t wq hbq hh K hK
          have e5 := hh.1
          simp only [pick] at e5
          replace e5 : t 5 = (.bool true) := e5
          clear hh
          simp only [filled, upd, Have, is, any, row, pick, Act.put, List.setIfInBounds_toArray, List.set_cons_zero, List.set_cons_succ, Nat.reduceAdd, Nat.reduceEqDiff, reduceIte] at hK ⊢
          simp only [e5] at hK ⊢
          obtain ⟨c0, c1, c2⟩ := (HX_5.out.below hbq).facts
          go_simp
          exact hK _ _ (Below.refl _ _) rfl
        · intro t wq hbq hh K hK
          have e5 := hh.1
          simp only [pick] at e5
          replace e5 : t 5 = (.bool true) := e5
          have e8 := hh.2.1
          simp only [pick] at e8
          replace e8 : t 8 = ((.agg #[.string T, .string S, .slice A n cap])) := e8
          clear hh
          simp only [filled, upd, Have, is, any, row, pick, Act.put, List.setIfInBounds_toArray, List.set_cons_zero, List.set_cons_succ, Nat.reduceAdd, Nat.reduceEqDiff, reduceIte] at hK ⊢
          simp only [e5, e8] at hK ⊢
          go_simp
          refine (HPR.out _ (HTY_5.out.below hbq)).mono ?_
          rintro e w9 ⟨rfl, hb9⟩
          exact hK _ _ hb9 rfl
        · intro t wq hbq hh K hK
          have e5 := hh.1
          simp only [pick] at e5
          replace e5 : t 5 = (.bool true) := e5
          have e7 := hh.2.1
          simp only [pick] at e7
          replace e7 : t 7 = (.string X) := e7
          have e9 := hh.2.2.1
          simp only [pick] at e9
          replace e9 : t 9 = (.string X) := e9
          clear hh
          simp only [filled, upd, Have, is, any, row, pick, Act.put, List.setIfInBounds_toArray, List.set_cons_zero, List.set_cons_succ, Nat.reduceAdd, Nat.reduceEqDiff, reduceIte] at hK ⊢
          simp only [e5, e7, e9] at hK ⊢
          go_simp
          first | exact hK _ _ (Below.refl _ _) rfl | exact hK _ _ (Below.refl _ _) (by simp [is, pick])
        · intro t wq hbq hh K hK
          have e5 := hh.1
          simp only [pick] at e5
          replace e5 : t 5 = (.bool true) := e5
          have e10 := hh.2.1
          simp only [pick] at e10
          replace e10 : t 10 = (.bool true) := e10
          clear hh
          simp only [filled, upd, Have, is, any, row, pick, Act.put, List.setIfInBounds_toArray, List.set_cons_zero, List.set_cons_succ, Nat.reduceAdd, Nat.reduceEqDiff, reduceIte] at hK ⊢
          simp only [e5, e10] at hK ⊢
          go_simp
          exact hK _ _ (Below.refl _ _) rfl
        · intro t wq hbq hh K hK
          have e11 := hh.1
          simp only [pick] at e11
          replace e11 : t 11 = (.bool true) := e11
          clear hh
          simp only [filled, upd, Have, is, any, row, pick, Act.put, List.setIfInBounds_toArray, List.set_cons_zero, List.set_cons_succ, Nat.reduceAdd, Nat.reduceEqDiff, reduceIte] at hK ⊢
          simp only [e11] at hK ⊢
          go_simp
          exact hK _ _ (Below.refl _ _) rfl
        · intro t wq hbq hh K hK
          have e12 := hh.1
          simp only [pick] at e12
          replace e12 : t 12 = (.bool true) := e12
          clear hh
          simp only [filled, upd, Have, is, any, row, pick, Act.put, List.setIfInBounds_toArray, List.set_cons_zero, List.set_cons_succ, Nat.reduceAdd, Nat.reduceEqDiff, reduceIte] at hK ⊢
          simp only [e12] at hK ⊢
          obtain ⟨c0, c1, c2⟩ := (HX_5.out.below hbq).facts
          go_simp
          exact hK _ _ (Below.refl _ _) rfl
        · intro t wq hbq hh K hK
          have e12 := hh.1
          simp only [pick] at e12
          replace e12 : t 12 = (.bool true) := e12
          have e13 := hh.2.1
          simp only [pick] at e13
          replace e13 : t 13 = ((.agg #[.string T, .string S, .slice A n cap])) := e13
          clear hh
          simp only [filled, upd, Have, is, any, row, pick, Act.put, List.setIfInBounds_toArray, List.set_cons_zero, List.set_cons_succ, Nat.reduceAdd, Nat.reduceEqDiff, reduceIte] at hK ⊢
          simp only [e12, e13] at hK ⊢
          go_simp
          refine (HES.out _).mono ?_
          rintro e w9 ⟨rfl, hb9⟩
          exact hK _ _ hb9 rfl
        · intro t wq hbq hh K hK
          have e12 := hh.1
          simp only [pick] at e12
          replace e12 : t 12 = (.bool true) := e12
          clear hh
          simp only [filled, upd, Have, is, any, row, pick, Act.put, List.setIfInBounds_toArray, List.set_cons_zero, List.set_cons_succ, Nat.reduceAdd, Nat.reduceEqDiff, reduceIte] at hK ⊢
          simp only [e12] at hK ⊢
          go_simp
          exact hK _ _ (Below.refl _ _) rfl
        · intro t wq hbq hh K hK
          have e12 := hh.1
          simp only [pick] at e12
          replace e12 : t 12 = (.bool true) := e12
          have e15 := hh.2.1
          simp only [pick] at e15
          replace e15 : t 15 = (.pointer (some ⟨w.heap.size, 0, none⟩)) := e15
          clear hh
          simp only [filled, upd, Have, is, any, row, pick, Act.put, List.setIfInBounds_toArray, List.set_cons_zero, List.set_cons_succ, Nat.reduceAdd, Nat.reduceEqDiff, reduceIte] at hK ⊢
          simp only [e12, e15] at hK ⊢
          obtain ⟨c0, c1, c2⟩ := (HX_5.out.below hbq).facts
          go_simp
          exact hK _ _ (Below.refl _ _) rfl
        · intro t wq hbq hh K hK
          have e12 := hh.1
          simp only [pick] at e12
          replace e12 : t 12 = (.bool true) := e12
          have e16 := hh.2.1
          simp only [pick] at e16
          replace e16 : t 16 = (.string T) := e16
          clear hh
          simp only [filled, upd, Have, is, any, row, pick, Act.put, List.setIfInBounds_toArray, List.set_cons_zero, List.set_cons_succ, Nat.reduceAdd, Nat.reduceEqDiff, reduceIte] at hK ⊢
          simp only [e12, e16] at hK ⊢
          have hadd := HA1.out wq
          go_simp
          exact hK _ _ (Below.refl _ _) rfl
        · intro t wq hbq hh K hK
          have e12 := hh.1
          simp only [pick] at e12
          replace e12 : t 12 = (.bool true) := e12
          clear hh
          simp only [filled, upd, Have, is, any, row, pick, Act.put, List.setIfInBounds_toArray, List.set_cons_zero, List.set_cons_succ, Nat.reduceAdd, Nat.reduceEqDiff, reduceIte] at hK ⊢
          simp only [e12] at hK ⊢
          go_simp
          exact hK _ _ (Below.refl _ _) rfl
        · intro t wq hbq hh K hK
          have e12 := hh.1
          simp only [pick] at e12
          replace e12 : t 12 = (.bool true) := e12
          have e18 := hh.2.1
          simp only [pick] at e18
          replace e18 : t 18 = (.pointer (some ⟨w.heap.size, 1, none⟩)) := e18
          clear hh
          simp only [filled, upd, Have, is, any, row, pick, Act.put, List.setIfInBounds_toArray, List.set_cons_zero, List.set_cons_succ, Nat.reduceAdd, Nat.reduceEqDiff, reduceIte] at hK ⊢
          simp only [e12, e18] at hK ⊢
          obtain ⟨c0, c1, c2⟩ := (HX_5.out.below hbq).facts
          go_simp
          exact hK _ _ (Below.refl _ _) rfl
        · intro t wq hbq hh K hK
          have e12 := hh.1
          simp only [pick] at e12
          replace e12 : t 12 = (.bool true) := e12
          have e17 := hh.2.1
          simp only [pick] at e17
          replace e17 : t 17 = (.string (strOf Y0)) := e17
          have e19 := hh.2.2.1
          simp only [pick] at e19
          replace e19 : t 19 = (.string S) := e19
          clear hh
          simp only [filled, upd, Have, is, any, row, pick, Act.put, List.setIfInBounds_toArray, List.set_cons_zero, List.set_cons_succ, Nat.reduceAdd, Nat.reduceEqDiff, reduceIte] at hK ⊢
          simp only [e12, e17, e19] at hK ⊢
          have hadd := HA2.out wq
          go_simp
          exact hK _ _ (Below.refl _ _) rfl
        · intro t wq hbq hh K hK
          have e12 := hh.1
          simp only [pick] at e12
          replace e12 : t 12 = (.bool true) := e12
          have e14 := hh.2.1
          simp only [pick] at e14
          replace e14 : t 14 = (.string (strOf E)) := e14
          have e20 := hh.2.2.1
          simp only [pick] at e20
          replace e20 : t 20 = (.string (strOf E)) := e20
          clear hh
          simp only [filled, upd, Have, is, any, row, pick, Act.put, List.setIfInBounds_toArray, List.set_cons_zero, List.set_cons_succ, Nat.reduceAdd, Nat.reduceEqDiff, reduceIte] at hK ⊢
          simp only [e12, e14, e20] at hK ⊢
          go_simp
          first | exact hK _ _ (Below.refl _ _) rfl | exact hK _ _ (Below.refl _ _) (by simp [is, pick])
        · intro t wq hbq hh K hK
          have e12 := hh.1
          simp only [pick] at e12
          replace e12 : t 12 = (.bool true) := e12
          have e21 := hh.2.1
          simp only [pick] at e21
          replace e21 : t 21 = (.bool true) := e21
          clear hh
          simp only [filled, upd, Have, is, any, row, pick, Act.put, List.setIfInBounds_toArray, List.set_cons_zero, List.set_cons_succ, Nat.reduceAdd, Nat.reduceEqDiff, reduceIte] at hK ⊢
          simp only [e12, e21] at hK ⊢
          go_simp
          exact hK _ _ (Below.refl _ _) rfl
        · intro t wq hbq hh K hK
          have e22 := hh.1
          simp only [pick] at e22
          replace e22 : t 22 = (.bool true) := e22
          clear hh
          simp only [filled, upd, Have, is, any, row, pick, Act.put, List.setIfInBounds_toArray, List.set_cons_zero, List.set_cons_succ, Nat.reduceAdd, Nat.reduceEqDiff, reduceIte] at hK ⊢
          simp only [e22] at hK ⊢
          go_simp
          exact hK _ _ (Below.refl _ _) rfl
        · intro t wq hbq hh K hK
          have e23 := hh.1
          simp only [pick] at e23
          replace e23 : t 23 = (.bool true) := e23
          clear hh
          simp only [filled, upd, Have, is, any, row, pick, Act.put, List.setIfInBounds_toArray, List.set_cons_zero, List.set_cons_succ, Nat.reduceAdd, Nat.reduceEqDiff, reduceIte] at hK ⊢
          simp only [e23] at hK ⊢
          go_simp
          exact hK _ _ (Below.refl _ _) rfl
        · intro t wq hbq hh K hK
          have e23 := hh.1
          simp only [pick] at e23
          replace e23 : t 23 = (.bool true) := e23
          clear hh
          simp only [filled, upd, Have, is, any, row, pick, Act.put, List.setIfInBounds_toArray, List.set_cons_zero, List.set_cons_succ, Nat.reduceAdd, Nat.reduceEqDiff, reduceIte] at hK ⊢
          simp only [e23] at hK ⊢
          go_simp
          exact hK _ _ (Below.refl _ _) rfl
        · intro t wq hbq hh K hK
          have e23 := hh.1
          simp only [pick] at e23
          replace e23 : t 23 = (.bool true) := e23
          have e24 := hh.2.1
          simp only [pick] at e24
          replace e24 : t 24 = (.string gx) := e24
          have e25 := hh.2.2.1
          simp only [pick] at e25
          replace e25 : t 25 = (.string gx) := e25
          clear hh
          simp only [filled, upd, Have, is, any, row, pick, Act.put, List.setIfInBounds_toArray, List.set_cons_zero, List.set_cons_succ, Nat.reduceAdd, Nat.reduceEqDiff, reduceIte] at hK ⊢
          simp only [e23, e24, e25] at hK ⊢
          go_simp
          first | exact hK _ _ (Below.refl _ _) rfl | exact hK _ _ (Below.refl _ _) (by simp [is, pick])
        · intro t wq hbq hh K hK
          have e23 := hh.1
          simp only [pick] at e23
          replace e23 : t 23 = (.bool true) := e23
          have e26 := hh.2.1
          simp only [pick] at e26
          replace e26 : t 26 = (.bool true) := e26
          clear hh
          simp only [filled, upd, Have, is, any, row, pick, Act.put, List.setIfInBounds_toArray, List.set_cons_zero, List.set_cons_succ, Nat.reduceAdd, Nat.reduceEqDiff, reduceIte] at hK ⊢
          simp only [e23, e26] at hK ⊢
          go_simp
          exact hK _ _ (Below.refl _ _) rfl
        · intro t wq hbq hh K hK
          have e27 := hh.1
          simp only [pick] at e27
          replace e27 : t 27 = (.bool true) := e27
          clear hh
          simp only [filled, upd, Have, is, any, row, pick, Act.put, List.setIfInBounds_toArray, List.set_cons_zero, List.set_cons_succ, Nat.reduceAdd, Nat.reduceEqDiff, reduceIte] at hK ⊢
          simp only [e27] at hK ⊢
          go_simp
          exact hK _ _ (Below.refl _ _) rfl
        · intro t wq hbq hh K hK
          have e28 := hh.1
          simp only [pick] at e28
          replace e28 : t 28 = (.bool true) := e28
          clear hh
          simp only [filled, upd, Have, is, any, row, pick, Act.put, List.setIfInBounds_toArray, List.set_cons_zero, List.set_cons_succ, Nat.reduceAdd, Nat.reduceEqDiff, reduceIte] at hK ⊢
          simp only [e28] at hK ⊢
          go_simp
          exact hK _ _ (Below.refl _ _) rfl
        · intro t wq hbq hh K hK
          have e28 := hh.1
          simp only [pick] at e28
          replace e28 : t 28 = (.bool true) := e28
          clear hh
          simp only [filled, upd, Have, is, any, row, pick, Act.put, List.setIfInBounds_toArray, List.set_cons_zero, List.set_cons_succ, Nat.reduceAdd, Nat.reduceEqDiff, reduceIte] at hK ⊢
          simp only [e28] at hK ⊢
          go_simp
          exact hK _ _ (Below.refl _ _) rfl
        · intro t wq hbq hh K hK
          have e28 := hh.1
          simp only [pick] at e28
          replace e28 : t 28 = (.bool true) := e28
          have e29 := hh.2.1
          simp only [pick] at e29
          replace e29 : t 29 = (.bool gb) := e29
          have e30 := hh.2.2.1
          simp only [pick] at e30
          replace e30 : t 30 = (.bool gb) := e30
          clear hh
          simp only [filled, upd, Have, is, any, row, pick, Act.put, List.setIfInBounds_toArray, List.set_cons_zero, List.set_cons_succ, Nat.reduceAdd, Nat.reduceEqDiff, reduceIte] at hK ⊢
          simp only [e28, e29, e30] at hK ⊢
          go_simp
          first | exact hK _ _ (Below.refl _ _) rfl | exact hK _ _ (Below.refl _ _) (by simp [is, pick])
        · intro t wq hbq hh K hK
          have e28 := hh.1
          simp only [pick] at e28
          replace e28 : t 28 = (.bool true) := e28
          have e31 := hh.2.1
          simp only [pick] at e31
          replace e31 : t 31 = (.bool true) := e31
          clear hh
          simp only [filled, upd, Have, is, any, row, pick, Act.put, List.setIfInBounds_toArray, List.set_cons_zero, List.set_cons_succ, Nat.reduceAdd, Nat.reduceEqDiff, reduceIte] at hK ⊢
          simp only [e28, e31] at hK ⊢
          go_simp
          exact hK _ _ (Below.refl _ _) rfl
        · intro t wq hbq hh K hK
          have e32 := hh.1
          simp only [pick] at e32
          replace e32 : t 32 = (.bool true) := e32
          clear hh
          simp only [filled, upd, Have, is, any, row, pick, Act.put, List.setIfInBounds_toArray, List.set_cons_zero, List.set_cons_succ, Nat.reduceAdd, Nat.reduceEqDiff, reduceIte] at hK ⊢
          simp only [e32] at hK ⊢
          go_simp
          exact hK _ _ (Below.refl _ _) rfl
      · intro t wq hbq hh
        have f33 := have_get hh 33 (by decide)
        simp only [pick] at f33
        replace f33 : t 33 = (.bool true) := f33
        clear hh
        simp only [filled, upd, Have, is, any, row, pick, Act.put, List.setIfInBounds_toArray, List.set_cons_zero, List.set_cons_succ, Nat.reduceAdd, Nat.reduceEqDiff, reduceIte]
        simp only [f33]
        have hbf := HB5.out.trans (hbq.mono HB5.out.size)
        go_wp2
        go_ret
        exact ⟨rfl, hbf⟩
    · have h2i : (200 : Int) < (name.size : Int) := by omega
      clear h2 hF
      go_wp2_with fail
      refine (awake_any _).mono ?_
      rintro e w4 ⟨rfl, hb⟩
      have HB4 := hid (bel HB3.out hb)
      have HTY_4 := hid (HTY_3.out.below hb)
      have HX_4 := hid (HX_3.out.below hb)
      clear hb
      go_wp2
      go_ret
      exact ⟨rfl, HB4.out⟩
end Go.Proofs.YtlbgcibdpeaomaaDoor.Laws
