/- Types: whether one is right, by the document. -/
import Derived.Test.YtlbgcibdpeaomaaDoorMimI
import Derived.Test.YtlbgcibdpeaomaaDoorRegs
namespace Go.Proofs.YtlbgcibdpeaomaaDoor.MimK
open Go.RowKit Go.Proofs.YtlbgcibdpeaomaaDoor.Base Go.Proofs.YtlbgcibdpeaomaaDoor.Base2 Go.Proofs.YtlbgcibdpeaomaaDoor.Regs Go.Proofs.YtlbgcibdpeaomaaDoor.UtfL Go.Proofs.YtlbgcibdpeaomaaDoor.TokP Go.Proofs.YtlbgcibdpeaomaaDoor.MimP Go.Proofs.YtlbgcibdpeaomaaDoor.MimA Go.Proofs.YtlbgcibdpeaomaaDoor.MimB Go.Proofs.YtlbgcibdpeaomaaDoor.MimC Go.Proofs.YtlbgcibdpeaomaaDoor.MimD Go.Proofs.YtlbgcibdpeaomaaDoor.MimE Go.Proofs.YtlbgcibdpeaomaaDoor.MimQ Go.Proofs.YtlbgcibdpeaomaaDoor.MimF Go.Proofs.YtlbgcibdpeaomaaDoor.MimH Go.Proofs.YtlbgcibdpeaomaaDoor.MimI Go.Proofs.YtlbgcibdpeaomaaDoor.Mim0 Go.Proofs.YtlbgcibdpeaomaaDoor.Mim1

theorem prm_take {w : World} {A : Option Addr} {n k : Nat} {l : List (ByteArray × ByteArray)} (h : Prm w A n l) (hk : k ≤ n) : Prm w A k (l.take k) :=
  ⟨by rw [List.length_take, h.1, Nat.min_eq_left hk], fun j hj => by
    rw [List.length_take] at hj
    obtain ⟨b, off, h1, h2, h3, h4⟩ := h.2 j (by omega)
    exact ⟨b, off, h1, h2, by rw [List.getElem_take]; exact h3, by rw [List.getElem_take]; exact h4⟩⟩
theorem get_form (l : List (ByteArray × ByteArray)) (n : List UInt8) : ∃ (x : ByteArray), GetV (getV l n) = .tuple #[.string x, .bool (hasN n (PSL l))] := by
  have h : (getV l n).isSome = hasN n (PSL l) := by
    rw [getV_some]
    unfold hasN PSL
    rw [List.any_map]
    rfl
  rw [← h]
  cases getV l n with
  | none => exact ⟨_, rfl⟩
  | some x => exact ⟨_, rfl⟩
set_option linter.unusedSimpArgs false in
set_option maxRecDepth 100000 in
set_option maxHeartbeats 8000000 in
theorem refRight_any (T S : ByteArray) (A : Option Addr) (n cap : Nat) (l : List (ByteArray × ByteArray)) (w : World) (hr : Prm w A n l) (hc : n ≤ cap) (hm : cap ≤ maxLen) (hF : FewB T S l) :
    Calls Tryd.prog 17 #[.agg #[.string T, .string S, .slice A n cap]] w fun e w' => e = .returned (.bool (rightL T.data.toList S.data.toList (PSL l))) ∧ Below w.heap.size w w' := by
  unfold maxLen at hm
  obtain ⟨hf1, hf2, hf3⟩ := hF
  have hl : l.length = n := hr.1
  have HL := hid hl
  have HR0 := hid hr
  have HF := hid hf3
  have hTs := fun w => refSmall_any T w (by omega)
  have hSs := fun w => refSmall_any S w (by omega)
  obtain ⟨V, hV⟩ : ∃ V, V = rightL T.data.toList S.data.toList (PSL l) := ⟨_, rfl⟩
  rw [← hV]
  obtain ⟨tb, htb⟩ : ∃ b, b = sml T.data.toList := ⟨_, rfl⟩
  obtain ⟨sb, hsb⟩ : ∃ b, b = sml S.data.toList := ⟨_, rfl⟩
  have hV2 := hV
  unfold rightL at hV2
  rw [← htb, ← hsb] at hV2
  rw [← htb] at hTs
  rw [← hsb] at hSs
  have HNO : Hid (∀ k, (h : k < l.length) → okAt (PSL l) k = false → V = false) := by
    intro k h ho
    rw [hV]
    exact right_no h ho _ _
  have HV : Hid (V = (tb && (sb && rightK (PSL l) n))) := by show _ = _; rw [hV2, ← hl, ← PSL_len l]; rfl
  have HTS := hid hTs
  have HSS := hid hSs
  have hn20 : n ≤ 20 := by omega
  clear hr hl hV hV2 htb hsb hTs hSs hf1 hf3
  go_enter Tryd.func17, Tryd.ntmps17
  go_upto_region 1 with (fail)
  generalize hw1 : w.alloc _ = w1
  have HB1 : Hid (Below w.heap.size w w1) := by show Below _ _ _; rw [← hw1]; exact (Below.refl _ _).alloc (Nat.le_refl _) _
  have hx1 : B3 25 w1 w.heap.size (.string T) (.string S) (.slice A n cap) := by
    rw [← hw1]
    exact heap_alloc_new w _
  have HX1 := hid hx1
  obtain ⟨c0, c1, c2⟩ := hx1.facts
  clear hw1 hx1
  go_upto_region 2 with (fail)
  clear c0 c1 c2
  go_loopw [3, 4, 5, 9] (fun _ _ _ vk wr => ∃ k : Nat, k ≤ n ∧ vk = .int .i64 (k : Int) ∧ Hid (B3 25 wr w.heap.size (.string T) (.string S) (.slice A n cap)) ∧ Hid (Below w.heap.size w wr) ∧ Hid (rightK (PSL l) k = true)) (fun _ _ _ vk _ => n - (intOf vk).toNat)
  case atStart => exact ⟨0, Nat.zero_le _, rfl, HX1.out, HB1.out, rfl⟩
  case round =>
    obtain ⟨k, hk, rfl, HX, HB, HK⟩ := hrel
    by_cases hlt : k < n
    · have hkl : k < l.length := by rw [HL.out]; exact hlt
      obtain ⟨b, off, rfl, hb, h1, h2⟩ := (HR0.out.under HB.out (Nat.le_refl _)).2 k hkl
      clear h1 h2
      have HR2 := hid (fun (w' : World) (h : Below wr.heap.size wr w') => (HR0.out.under (bel HB.out h) (Nat.le_refl _)).2 k hkl)
      have hz := HF.out l[k] (List.getElem_mem hkl)
      have hok := okAt_PSL l k hkl
      have hno := HNO.out k hkl
      obtain ⟨s1, hs1⟩ : ∃ s, s = l[k].1 := ⟨_, rfl⟩
      obtain ⟨s2, hs2⟩ : ∃ s, s = l[k].2 := ⟨_, rfl⟩
      rw [← hs1] at HR2 hz hok
      rw [← hs2] at HR2 hz hok
      have hsucc := rightK_succ (PSL l) k
      rw [HK.out, Bool.true_and] at hsucc
      obtain ⟨gx, hgx⟩ := get_form (l.take k) s1.data.toList
      rw [show PSL (l.take k) = (PSL l).take k by simp [PSL, List.map_take]] at hgx
      obtain ⟨gb, hgb⟩ : ∃ g, g = hasN s1.data.toList ((PSL l).take k) := ⟨_, rfl⟩
      rw [← hgb] at hgx hok
      have HGX := hid hgx
      have HR := hid (prm_take HR0.out hk)
      have hsm := fun w => refSmall_any s1 w (by omega)
      have hqu := fun w => TokU.ref_quotable s2 w (by omega)
      have HG := hid (fun (w' : World) (h : Prm w' (some ⟨b, off, none⟩) k (l.take k)) => refGet_any (some ⟨b, off, none⟩) k cap (l.take k) s1 w' h (by omega) (by omega))
      obtain ⟨m1, hm1⟩ : ∃ b, b = sml s1.data.toList := ⟨_, rfl⟩
      obtain ⟨q2, hq2⟩ : ∃ b, b = TokV.quotable s2.data.toList := ⟨_, rfl⟩
      rw [← hm1] at hok hsm
      rw [← hq2] at hok hqu
      have HSM := hid hsm
      have HQU := hid hqu
      have hki : (k : Int) < (n : Int) := by omega
      have hkc : (k : Int) ≤ (cap : Int) := by omega
      have HOK := hid hok
      have HNO2 := hid hno
      have HSU := hid hsucc
      clear hs1 hs2 hkl hok hno hsucc hm1 hq2 hsm hqu hz hgx hgb
      go_upto_region 4 with (fail)
      refine wp_region_rel (by kernel_rfl) [is (.pointer (some ⟨w.heap.size, 2, none⟩)), is (.slice (some ⟨b, off, none⟩) n cap), is (.int .i64 (k : Int)), is (.slice (some ⟨b, off, none⟩) k cap), is (.pointer (some ⟨w.heap.size, 2, none⟩)), is (.slice (some ⟨b, off, none⟩) n cap), is (.int .i64 (k : Int)), is (.pointer (some ⟨b, off + k * 2, none⟩)), is (.pointer (some ⟨b, off + k * 2, none⟩)), is (.string s1), is (.tuple #[.string gx, .bool gb]), is (.tuple #[.string gx, .bool gb]), is (.string gx), is (.bool gb), is (.string gx), is (.bool gb)] [[], [0], [], [1, 2], [], [4], [], [5, 6], [7], [8], [3, 9], [10], [11], [11], [12], [13]] (by kernel_rfl) ?_ ?_
      · refine ⟨?_, ?_, ?_, ?_, ?_, ?_, ?_, ?_, ?_, ?_, ?_, ?_, ?_, ?_, ?_, ?_, trivial⟩
        · intro t wq hbq hh K hK
          clear hh
          simp only [filled, upd, Have, is, any, row, pick, Act.put, List.setIfInBounds_toArray, List.set_cons_zero, List.set_cons_succ, Nat.reduceAdd, Nat.reduceEqDiff, reduceIte] at hK ⊢
          go_simp
          exact hK _ _ (Below.refl _ _) rfl
        · intro t wq hbq hh K hK
          have e0 := hh.1
          simp only [pick] at e0
          replace e0 : t 0 = (.pointer (some ⟨w.heap.size, 2, none⟩)) := e0
          clear hh
          simp only [filled, upd, Have, is, any, row, pick, Act.put, List.setIfInBounds_toArray, List.set_cons_zero, List.set_cons_succ, Nat.reduceAdd, Nat.reduceEqDiff, reduceIte] at hK ⊢
          simp only [e0] at hK ⊢
          obtain ⟨c0, c1, c2⟩ := (HX.out.below hbq).facts
          go_simp
          exact hK _ _ (Below.refl _ _) rfl
        · intro t wq hbq hh K hK
          clear hh
          simp only [filled, upd, Have, is, any, row, pick, Act.put, List.setIfInBounds_toArray, List.set_cons_zero, List.set_cons_succ, Nat.reduceAdd, Nat.reduceEqDiff, reduceIte] at hK ⊢
          go_simp
          exact hK _ _ (Below.refl _ _) rfl
        · intro t wq hbq hh K hK
          have e1 := hh.1
          simp only [pick] at e1
          replace e1 : t 1 = (.slice (some ⟨b, off, none⟩) n cap) := e1
          have e2 := hh.2.1
          simp only [pick] at e2
          replace e2 : t 2 = (.int .i64 (k : Int)) := e2
          clear hh
          simp only [filled, upd, Have, is, any, row, pick, Act.put, List.setIfInBounds_toArray, List.set_cons_zero, List.set_cons_succ, Nat.reduceAdd, Nat.reduceEqDiff, reduceIte] at hK ⊢
          simp only [e1, e2] at hK ⊢
          go_simp
          exact hK _ _ (Below.refl _ _) rfl
        · intro t wq hbq hh K hK
          clear hh
          simp only [filled, upd, Have, is, any, row, pick, Act.put, List.setIfInBounds_toArray, List.set_cons_zero, List.set_cons_succ, Nat.reduceAdd, Nat.reduceEqDiff, reduceIte] at hK ⊢
          go_simp
          exact hK _ _ (Below.refl _ _) rfl
        · intro t wq hbq hh K hK
          have e4 := hh.1
          simp only [pick] at e4
          replace e4 : t 4 = (.pointer (some ⟨w.heap.size, 2, none⟩)) := e4
          clear hh
          simp only [filled, upd, Have, is, any, row, pick, Act.put, List.setIfInBounds_toArray, List.set_cons_zero, List.set_cons_succ, Nat.reduceAdd, Nat.reduceEqDiff, reduceIte] at hK ⊢
          simp only [e4] at hK ⊢
          obtain ⟨c0, c1, c2⟩ := (HX.out.below hbq).facts
          go_simp
          exact hK _ _ (Below.refl _ _) rfl
        · intro t wq hbq hh K hK
          clear hh
          simp only [filled, upd, Have, is, any, row, pick, Act.put, List.setIfInBounds_toArray, List.set_cons_zero, List.set_cons_succ, Nat.reduceAdd, Nat.reduceEqDiff, reduceIte] at hK ⊢
          go_simp
          exact hK _ _ (Below.refl _ _) rfl
        · intro t wq hbq hh K hK
          have e5 := hh.1
          simp only [pick] at e5
          replace e5 : t 5 = (.slice (some ⟨b, off, none⟩) n cap) := e5
          have e6 := hh.2.1
          simp only [pick] at e6
          replace e6 : t 6 = (.int .i64 (k : Int)) := e6
          clear hh
          simp only [filled, upd, Have, is, any, row, pick, Act.put, List.setIfInBounds_toArray, List.set_cons_zero, List.set_cons_succ, Nat.reduceAdd, Nat.reduceEqDiff, reduceIte] at hK ⊢
          simp only [e5, e6] at hK ⊢
          go_simp
          exact hK _ _ (Below.refl _ _) rfl
        · intro t wq hbq hh K hK
          have e7 := hh.1
          simp only [pick] at e7
          replace e7 : t 7 = (.pointer (some ⟨b, off + k * 2, none⟩)) := e7
          clear hh
          simp only [filled, upd, Have, is, any, row, pick, Act.put, List.setIfInBounds_toArray, List.set_cons_zero, List.set_cons_succ, Nat.reduceAdd, Nat.reduceEqDiff, reduceIte] at hK ⊢
          simp only [e7] at hK ⊢
          go_simp
          exact hK _ _ (Below.refl _ _) rfl
        · intro t wq hbq hh K hK
          have e8 := hh.1
          simp only [pick] at e8
          replace e8 : t 8 = (.pointer (some ⟨b, off + k * 2, none⟩)) := e8
          clear hh
          simp only [filled, upd, Have, is, any, row, pick, Act.put, List.setIfInBounds_toArray, List.set_cons_zero, List.set_cons_succ, Nat.reduceAdd, Nat.reduceEqDiff, reduceIte] at hK ⊢
          simp only [e8] at hK ⊢
          obtain ⟨b', off', he, _, h1, h2⟩ := HR2.out _ hbq
          injection he with he
          injection he with he1 he2
          subst he1 he2
          go_simp
          exact hK _ _ (Below.refl _ _) rfl
        · intro t wq hbq hh K hK
          have e3 := hh.1
          simp only [pick] at e3
          replace e3 : t 3 = (.slice (some ⟨b, off, none⟩) k cap) := e3
          have e9 := hh.2.1
          simp only [pick] at e9
          replace e9 : t 9 = (.string s1) := e9
          clear hh
          simp only [filled, upd, Have, is, any, row, pick, Act.put, List.setIfInBounds_toArray, List.set_cons_zero, List.set_cons_succ, Nat.reduceAdd, Nat.reduceEqDiff, reduceIte] at hK ⊢
          simp only [e3, e9] at hK ⊢
          go_simp
          refine (HG.out _ (HR.out.under (bel HB.out hbq) (Nat.le_refl _))).mono ?_
          rintro e w9 ⟨rfl, hb9⟩
          rw [HGX.out]
          exact hK _ _ hb9 rfl
        · intro t wq hbq hh K hK
          have e10 := hh.1
          simp only [pick] at e10
          replace e10 : t 10 = (.tuple #[.string gx, .bool gb]) := e10
          clear hh
          simp only [filled, upd, Have, is, any, row, pick, Act.put, List.setIfInBounds_toArray, List.set_cons_zero, List.set_cons_succ, Nat.reduceAdd, Nat.reduceEqDiff, reduceIte] at hK ⊢
          simp only [e10] at hK ⊢
          go_simp
          exact hK _ _ (Below.refl _ _) rfl
        · intro t wq hbq hh K hK
          have e11 := hh.1
          simp only [pick] at e11
          replace e11 : t 11 = (.tuple #[.string gx, .bool gb]) := e11
          clear hh
          simp only [filled, upd, Have, is, any, row, pick, Act.put, List.setIfInBounds_toArray, List.set_cons_zero, List.set_cons_succ, Nat.reduceAdd, Nat.reduceEqDiff, reduceIte] at hK ⊢
          simp only [e11] at hK ⊢
          go_simp
          exact hK _ _ (Below.refl _ _) rfl
        · intro t wq hbq hh K hK
          have e11 := hh.1
          simp only [pick] at e11
          replace e11 : t 11 = (.tuple #[.string gx, .bool gb]) := e11
          clear hh
          simp only [filled, upd, Have, is, any, row, pick, Act.put, List.setIfInBounds_toArray, List.set_cons_zero, List.set_cons_succ, Nat.reduceAdd, Nat.reduceEqDiff, reduceIte] at hK ⊢
          simp only [e11] at hK ⊢
          go_simp
          exact hK _ _ (Below.refl _ _) rfl
        · intro t wq hbq hh K hK
          have e12 := hh.1
          simp only [pick] at e12
          replace e12 : t 12 = (.string gx) := e12
          clear hh
          simp only [filled, upd, Have, is, any, row, pick, Act.put, List.setIfInBounds_toArray, List.set_cons_zero, List.set_cons_succ, Nat.reduceAdd, Nat.reduceEqDiff, reduceIte] at hK ⊢
          simp only [e12] at hK ⊢
          go_simp
          exact hK _ _ (Below.refl _ _) rfl
        · intro t wq hbq hh K hK
          have e13 := hh.1
          simp only [pick] at e13
          replace e13 : t 13 = (.bool gb) := e13
          clear hh
          simp only [filled, upd, Have, is, any, row, pick, Act.put, List.setIfInBounds_toArray, List.set_cons_zero, List.set_cons_succ, Nat.reduceAdd, Nat.reduceEqDiff, reduceIte] at hK ⊢
          simp only [e13] at hK ⊢
          go_simp
          exact hK _ _ (Below.refl _ _) rfl
      · intro t wq hbq hh
        have f14 := have_get hh 14 (by decide)
        simp only [pick] at f14
        replace f14 : t 14 = (.string gx) := f14
        have f15 := have_get hh 15 (by decide)
        simp only [pick] at f15
        replace f15 : t 15 = (.bool gb) := f15
        clear hh
        simp only [filled, upd, Have, is, any, row, pick, Act.put, List.setIfInBounds_toArray, List.set_cons_zero, List.set_cons_succ, Nat.reduceAdd, Nat.reduceEqDiff, reduceIte]
        simp only [f14, f15]
        have HXq := hid (HX.out.below hbq)
        have HBq := hid (bel HB.out hbq)
        have HRq := hid (fun (w' : World) (h : Below wq.heap.size wq w') => HR2.out w' (bel hbq h))
        clear hbq
        cases gb with
        | true =>
          have HE : Hid (V = false) := HNO2.out (by rw [HOK.out]; simp)
          go_wp2
          go_ret
          exact ⟨ret_bool (by rw [HE.out]), HBq.out⟩
        | false =>
          have HOK1 : Hid (okAt (PSL l) k = (m1 && q2)) := by show _ = _; rw [HOK.out]; simp
          obtain ⟨c0, c1, c2⟩ := HXq.out.facts
          obtain ⟨b', off', he, _, h1, h2⟩ := HRq.out _ (Below.refl _ _)
          injection he with he
          injection he with he1 he2
          subst he1 he2
          go_wp2_with fail
          clear c0 c1 c2 h1 h2
          refine (HSM.out _).mono ?_
          rintro e w5 ⟨rfl, hb5⟩
          have HX5 := hid (HXq.out.below hb5)
          have HB5 := hid (bel HBq.out hb5)
          obtain ⟨c0, c1, c2⟩ := HX5.out.facts
          obtain ⟨b', off', he, _, h1, h2⟩ := HRq.out _ hb5
          injection he with he
          injection he with he1 he2
          subst he1 he2
          clear hb5
          cases m1 with
          | false =>
            have HE : Hid (V = false) := HNO2.out (by rw [HOK1.out]; rfl)
            go_wp2
            go_ret
            exact ⟨ret_bool (by rw [HE.out]), HB5.out⟩
          | true =>
            go_wp2_with fail
            clear c0 c1 c2 h1 h2
            refine (HQU.out _).mono ?_
            rintro e w6 ⟨rfl, hb6⟩
            have HX6 := hid (HX5.out.below hb6)
            have HB6 := hid (bel HB5.out hb6)
            clear hb6
            cases q2 with
            | false =>
              have HE : Hid (V = false) := HNO2.out (by rw [HOK1.out]; rfl)
              go_wp2
              go_ret
              exact ⟨ret_bool (by rw [HE.out]), HB6.out⟩
            | true =>
              have HK7 : Hid (rightK (PSL l) (k + 1) = true) := by show _ = _; rw [HSU.out, HOK1.out]; rfl
              go_wp2
              go_roundw
              case rel => exact ⟨k + 1, by omega, by go_num, HX6.out, HB6.out, HK7.out⟩
              case measure => simp [intOf]; omega
    · obtain rfl : k = n := by omega
      have HV3 : Hid (V = (tb && sb)) := by show _ = _; rw [HV.out, HK.out]; simp
      obtain ⟨c0, c1, c2⟩ := HX.out.facts
      go_wp2_with fail
      clear c0 c1 c2
      refine (HTS.out _).mono ?_
      rintro e w2 ⟨rfl, hb2⟩
      have HB2 := hid (bel HB.out hb2)
      have HX2 := hid (HX.out.below hb2)
      clear hb2
      obtain ⟨c0, c1, c2⟩ := HX2.out.facts
      cases tb with
      | false =>
        have HE : Hid (V = false) := by show _ = _; rw [HV3.out]; rfl
        go_wp2
        go_ret
        exact ⟨ret_bool (by rw [HE.out]), HB2.out⟩
      | true =>
        go_wp2_with fail
        clear c0 c1 c2
        refine (HSS.out _).mono ?_
        rintro e w3 ⟨rfl, hb3⟩
        have HB3 := hid (bel HB2.out hb3)
        clear hb3
        go_wp2
        go_ret
        exact ⟨ret_bool (by rw [HV3.out]; cases sb <;> rfl), HB3.out⟩
end Go.Proofs.YtlbgcibdpeaomaaDoor.MimK
