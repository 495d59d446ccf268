/- Types: what is printed of one, by the document. -/
import Derived.Test.YtlbgcibdpeaomaaDoorMimI
namespace Go.Proofs.YtlbgcibdpeaomaaDoor.MimJ
open Go.RowKit Go.Proofs.YtlbgcibdpeaomaaDoor.Base Go.Proofs.YtlbgcibdpeaomaaDoor.Base2 Go.Proofs.YtlbgcibdpeaomaaDoor.UtfL Go.Proofs.YtlbgcibdpeaomaaDoor.TokP Go.Proofs.YtlbgcibdpeaomaaDoor.MimP Go.Proofs.YtlbgcibdpeaomaaDoor.MimA Go.Proofs.YtlbgcibdpeaomaaDoor.MimB Go.Proofs.YtlbgcibdpeaomaaDoor.MimC Go.Proofs.YtlbgcibdpeaomaaDoor.MimD Go.Proofs.YtlbgcibdpeaomaaDoor.MimE Go.Proofs.YtlbgcibdpeaomaaDoor.MimQ Go.Proofs.YtlbgcibdpeaomaaDoor.MimF Go.Proofs.YtlbgcibdpeaomaaDoor.MimH Go.Proofs.YtlbgcibdpeaomaaDoor.MimI Go.Proofs.YtlbgcibdpeaomaaDoor.Mim0 Go.Proofs.YtlbgcibdpeaomaaDoor.Mim1

set_option linter.unusedSimpArgs false in
set_option maxRecDepth 100000 in
set_option maxHeartbeats 4000000 in
theorem refPrint_any (T S : ByteArray) (A : Option Addr) (n cap : Nat) (l : List (ByteArray × ByteArray)) (w : World) (hr : Prm w A n l) (hc : n ≤ cap) (hm : cap ≤ maxLen) (hF : FewB T S l) :
    Calls Tryd.prog 19 #[.agg #[.string T, .string S, .slice A n cap]] w fun e w' => e = .returned (.string (strOf (printM T.data.toList S.data.toList (PSL l)))) ∧ Below w.heap.size w w' := by
  unfold maxLen at hm
  obtain ⟨hf1, hf2, hf3⟩ := hF
  have hl : l.length = n := hr.1
  have HL := hid hl
  have HR := hid hr
  have HF := hid hf3
  have hn20 : n ≤ 20 := by omega
  obtain ⟨E, hE⟩ : ∃ E, E = ess T.data.toList S.data.toList := ⟨_, rfl⟩
  have hEl : E.length ≤ 201 := by rw [hE, ess_len]; omega
  have HP : Hid (∀ k, k ≤ l.length → (E ++ pps ((PSL l).take k)).length ≤ 201 + 604 * k) := by
    intro k hk
    have := pps_len hf3 k hk
    rw [List.length_append]
    omega
  have HV : Hid (printM T.data.toList S.data.toList (PSL l) = E ++ pps ((PSL l).take n)) := by
    show _ = _
    rw [← hl, PSL_all, hE]
    rfl
  obtain ⟨Y0, hY0⟩ : ∃ Y, Y = T.data.toList ++ [47] := ⟨_, rfl⟩
  have hY0l : Y0.length = T.size + 1 := by rw [hY0, List.length_append, dl]; rfl
  have e1 : ∀ w : World, (Op.stringOp .add T ⟨#[47]⟩).run Tryd.prog w = .ok (.string (strOf Y0)) w := fun w => by rw [hY0]; exact str_add' _ ⟨#[47]⟩ w (by show _ + 1 ≤ _; omega)
  have e2 : ∀ w : World, (Op.stringOp .add (strOf Y0) S).run Tryd.prog w = .ok (.string (strOf E)) w := fun w => by
    rw [show E = Y0 ++ S.data.toList by rw [hE, hY0]; simp [ess]]
    exact str_add' _ S w (by rw [size_strOf]; omega)
  clear hr hl hf1 hf3 hE hEl hY0 hY0l
  go_enter Tryd.func19, Tryd.ntmps19
  go_upto_region 1 with (fail)
  generalize hw1 : w.alloc _ = w1
  have HB1 : Hid (Below w.heap.size w w1) := by show Below _ _ _; rw [← hw1]; exact (Below.refl _ _).alloc (Nat.le_refl _) _
  have hx1 : B3 25 w1 w.heap.size (.string T) (.string S) (.slice A n cap) := by
    rw [← hw1]
    exact heap_alloc_new w _
  have HX1 := hid hx1
  obtain ⟨c0, c1, c2⟩ := hx1.facts
  clear hw1 hx1
  go_upto_region 3 with (fail)
  clear c0 c1 c2 e1 e2
  go_loopw [3, 4, 5, 15] (fun vs _ _ vk wr => ∃ k : Nat, k ≤ n ∧ vk = .int .i64 (k : Int) ∧ vs = .string (strOf (E ++ pps ((PSL l).take k))) ∧ Hid (B3 25 wr w.heap.size (.string T) (.string S) (.slice A n cap)) ∧ Hid (Below w.heap.size w wr)) (fun _ _ _ vk _ => n - (intOf vk).toNat)
  case atStart => exact ⟨0, Nat.zero_le _, rfl, by simp [pps], HX1.out, HB1.out⟩
  case round =>
    obtain ⟨k, hk, rfl, rfl, HX, HB⟩ := hrel
    by_cases hlt : k < n
    · have hkl : k < l.length := by rw [HL.out]; exact hlt
      obtain ⟨b, off, rfl, hb, h1, h2⟩ := (HR.out.under HB.out (Nat.le_refl _)).2 k hkl
      have HR2 := hid (fun (w' : World) (h : Below wr.heap.size wr w') => (HR.out.under (bel HB.out h) (Nat.le_refl _)).2 k hkl)
      have hz := HF.out l[k] (List.getElem_mem hkl)
      have hTk := PSL_take l k hkl
      obtain ⟨s1, hs1⟩ : ∃ s, s = l[k].1 := ⟨_, rfl⟩
      obtain ⟨s2, hs2⟩ : ∃ s, s = l[k].2 := ⟨_, rfl⟩
      rw [← hs1] at h1 hz hTk HR2
      rw [← hs2] at h2 hz hTk HR2
      obtain ⟨P, hP⟩ : ∃ P, P = E ++ pps ((PSL l).take k) := ⟨_, rfl⟩
      have HPN : Hid (E ++ pps ((PSL l).take (k + 1)) = P ++ pone (s1.data.toList, s2.data.toList)) := by
        show _ = _
        rw [hTk, pps_snoc, hP, List.append_assoc]
      have hPl : P.length ≤ 20000 := by rw [hP]; have := HP.out k (by omega); omega
      rw [← hP]
      have hki : (k : Int) < (n : Int) := by omega
      obtain ⟨X1, hX1⟩ : ∃ X, X = P ++ [59] := ⟨_, rfl⟩
      obtain ⟨X2, hX2⟩ : ∃ X, X = X1 ++ s1.data.toList := ⟨_, rfl⟩
      obtain ⟨X3, hX3⟩ : ∃ X, X = X2 ++ [61] := ⟨_, rfl⟩
      have hX1l : X1.length ≤ 20001 := by rw [hX1]; simp; omega
      have hX2l : X2.length ≤ 20201 := by rw [hX2]; simp only [List.length_append, dl]; omega
      have hX3l : X3.length ≤ 20202 := by rw [hX3]; simp; omega
      have a1 : ∀ w : World, (Op.stringOp .add (strOf P) ⟨#[59]⟩).run Tryd.prog w = .ok (.string (strOf X1)) w := fun w => by rw [hX1]; exact str_add' _ ⟨#[59]⟩ w (by rw [size_strOf]; show _ + 1 ≤ _; omega)
      have a2 : ∀ w : World, (Op.stringOp .add (strOf X1) s1).run Tryd.prog w = .ok (.string (strOf X2)) w := fun w => by rw [hX2]; exact str_add' _ s1 w (by rw [size_strOf]; omega)
      have a3 : ∀ w : World, (Op.stringOp .add (strOf X2) ⟨#[61]⟩).run Tryd.prog w = .ok (.string (strOf X3)) w := fun w => by rw [hX3]; exact str_add' _ ⟨#[61]⟩ w (by rw [size_strOf]; show _ + 1 ≤ _; omega)
      have HST : Hid (∀ v, v = pval s2.data.toList → X3 ++ v = E ++ pps ((PSL l).take (k + 1))) := by
        intro v hv
        rw [HPN.out, hX3, hX2, hX1, hv]
        simp [pone]
      have HIS := hid (fun w => TokA.ref_is s2 w (by omega))
      have HQU := hid (fun w => TokS.ref_quote s2 w (by omega))
      have hs2z : s2.size ≤ 200 := by omega
      have hpv : pval s2.data.toList = if isTok s2.data.toList = true then s2.data.toList else qq s2.data.toList := rfl
      have hqq := qq_len s2.data.toList
      rw [dl] at hqq
      obtain ⟨t, ht⟩ : ∃ t, t = isTok s2.data.toList := ⟨_, rfl⟩
      rw [← ht] at HIS hpv
      obtain ⟨Q, hQ⟩ : ∃ Q : ByteArray, Q = strOf (qq s2.data.toList) := ⟨_, rfl⟩
      rw [← hQ] at HQU
      have hQd : Q.data.toList = qq s2.data.toList := by rw [hQ]; rfl
      have hQl : Q.size ≤ 402 := by rw [hQ, size_strOf]; omega
      rw [← hQd] at hpv
      have HPV := hid hpv
      have HX3L := hid hX3l
      clear hs1 hs2 hkl hTk hP hPl hX1 hX2 hX3 hX1l hX2l hX3l hpv hqq ht hQ hQd hz HPN
      obtain ⟨c0, c1, c2⟩ := HX.out.facts
      go_wp2_with fail
      clear c0 c1 c2 h1 h2
      refine (HIS.out _).mono ?_
      rintro e w6 ⟨rfl, hw6⟩
      subst hw6
      cases t with
      | true =>
        obtain ⟨X4, hX4⟩ : ∃ X, X = X3 ++ s2.data.toList := ⟨_, rfl⟩
        have a4 : ∀ w : World, (Op.stringOp .add (strOf X3) s2).run Tryd.prog w = .ok (.string (strOf X4)) w := fun w => by rw [hX4]; exact str_add' _ s2 w (by rw [size_strOf]; have := HX3L.out; omega)
        have HN : Hid (X4 = E ++ pps ((PSL l).take (k + 1))) := by show _ = _; rw [hX4]; exact HST.out _ (by rw [HPV.out, if_pos rfl])
        obtain ⟨b', off', he, _, h1, h2⟩ := HR2.out _ (Below.refl _ _)
        injection he with he
        injection he with he1 he2
        subst he1 he2
        obtain ⟨c0, c1, c2⟩ := HX.out.facts
        clear hX4
        go_wp2
        go_roundw
        case rel => exact ⟨k + 1, by omega, by go_num, by rw [HN.out], HX.out, HB.out⟩
        case measure => simp [intOf]; omega
      | false =>
        obtain ⟨X4, hX4⟩ : ∃ X, X = X3 ++ Q.data.toList := ⟨_, rfl⟩
        have a4 : ∀ w : World, (Op.stringOp .add (strOf X3) Q).run Tryd.prog w = .ok (.string (strOf X4)) w := fun w => by rw [hX4]; exact str_add' _ Q w (by rw [size_strOf]; have := HX3L.out; omega)
        have HN : Hid (X4 = E ++ pps ((PSL l).take (k + 1))) := by show _ = _; rw [hX4]; exact HST.out _ (by rw [HPV.out, if_neg (by simp)])
        clear hX4
        go_wp2_with fail
        refine (HQU.out _).mono ?_
        rintro e w7 ⟨rfl, hb7⟩
        obtain ⟨b', off', he, _, h1, h2⟩ := HR2.out _ hb7
        injection he with he
        injection he with he1 he2
        subst he1 he2
        have hx7 := HX.out.below hb7
        have HX7 := hid hx7
        have HB7 := hid (bel HB.out hb7)
        obtain ⟨c0, c1, c2⟩ := hx7.facts
        clear hx7 hb7
        go_wp2
        go_roundw
        case rel => exact ⟨k + 1, by omega, by go_num, by rw [HN.out], HX7.out, HB7.out⟩
        case measure => simp [intOf]; omega
    · obtain rfl : k = n := by omega
      rw [← HV.out]
      go_wp2
      go_ret
      exact ⟨rfl, HB.out⟩
end Go.Proofs.YtlbgcibdpeaomaaDoor.MimJ
