/- Types: whether one is right, by the code. -/
import Derived.Test.YtlbgcibdpeaomaaDoorMimH
import Derived.Test.YtlbgcibdpeaomaaDoorTokV
namespace Go.Proofs.YtlbgcibdpeaomaaDoor.MimI
open Go.RowKit Go.Proofs.YtlbgcibdpeaomaaDoor.Base Go.Proofs.YtlbgcibdpeaomaaDoor.Base2 Go.Proofs.YtlbgcibdpeaomaaDoor.UtfL Go.Proofs.YtlbgcibdpeaomaaDoor.TokP Go.Proofs.YtlbgcibdpeaomaaDoor.MimP Go.Proofs.YtlbgcibdpeaomaaDoor.MimA Go.Proofs.YtlbgcibdpeaomaaDoor.MimB Go.Proofs.YtlbgcibdpeaomaaDoor.MimC Go.Proofs.YtlbgcibdpeaomaaDoor.MimD Go.Proofs.YtlbgcibdpeaomaaDoor.MimE Go.Proofs.YtlbgcibdpeaomaaDoor.MimQ Go.Proofs.YtlbgcibdpeaomaaDoor.MimF Go.Proofs.YtlbgcibdpeaomaaDoor.MimH Go.Proofs.YtlbgcibdpeaomaaDoor.Mim0 Go.Proofs.YtlbgcibdpeaomaaDoor.Mim1

theorem okAt_PSL (l : List (ByteArray × ByteArray)) (k : Nat) (h : k < l.length) : okAt (PSL l) k = (sml l[k].1.data.toList && (!(hasN l[k].1.data.toList ((PSL l).take k)) && TokV.quotable l[k].2.data.toList)) := by
  unfold okAt
  rw [List.getElem?_eq_getElem (by rw [PSL_len]; exact h)]
  simp [PSL]
theorem right_no {l : List (ByteArray × ByteArray)} {k : Nat} (h : k < l.length) (ho : okAt (PSL l) k = false) (T S : List UInt8) : rightL T S (PSL l) = false := by
  unfold rightL rightP
  rw [rightK_no _ k ho _ (by rw [PSL_len]; exact h)]
  simp
/-- Not too long. -/
def MidB (T S : ByteArray) (l : List (ByteArray × ByteArray)) : Prop := l.length ≤ 1048576 ∧ T.size ≤ 1048576 ∧ S.size ≤ 1048576 ∧ ∀ p ∈ l, p.1.size ≤ 1048576 ∧ p.2.size ≤ 1048576
theorem FewB.mid {T S : ByteArray} {l : List (ByteArray × ByteArray)} (h : FewB T S l) : MidB T S l := ⟨by have := h.1; omega, by have := h.2.1; omega, by have := h.2.1; omega, fun p hp => by have := h.2.2 p hp; omega⟩
set_option linter.unusedSimpArgs false in
set_option maxRecDepth 100000 in
set_option maxHeartbeats 4000000 in
theorem right_any (T S : ByteArray) (A : Option Addr) (n cap : Nat) (l : List (ByteArray × ByteArray)) (w : World) (hr : Prm w A n l) (hc : n ≤ cap) (hm : cap ≤ maxLen) (hF : MidB T S l) :
    Calls Tryd.prog 13 #[.agg #[.string T, .string S, .slice A n cap]] w fun e w' => e = .returned (.bool (rightL T.data.toList S.data.toList (PSL l))) ∧ Below w.heap.size w w' := by
  unfold maxLen at hm
  obtain ⟨hf1, hf2, hf4, hf3⟩ := hF
  have hl : l.length = n := hr.1
  have HL := hid hl
  have HR := hid hr
  have HF := hid hf3
  have hmm := @run_makeMap Tryd.prog
  have hTs := fun w => small_any T w (by omega)
  have hSs := fun w => small_any S w (by omega)
  obtain ⟨V, hV⟩ : ∃ V, V = rightL T.data.toList S.data.toList (PSL l) := ⟨_, rfl⟩
  rw [← hV]
  obtain ⟨tb, htb⟩ : ∃ b, b = sml T.data.toList := ⟨_, rfl⟩
  obtain ⟨sb, hsb⟩ : ∃ b, b = sml S.data.toList := ⟨_, rfl⟩
  have hV2 := hV
  unfold rightL at hV2
  rw [← htb, ← hsb] at hV2
  rw [← htb] at hTs
  rw [← hsb] at hSs
  have HNO : Hid (∀ k, (h : k < l.length) → okAt (PSL l) k = false → V = false) := by
    intro k h ho
    rw [hV]
    exact right_no h ho _ _
  have HV := hid hV2
  have HTS := hid hTs
  have HSS := hid hSs
  have hn20 : n ≤ 1048576 := by omega
  clear hr hl hV hV2 htb hsb hTs hSs hf1 hf3
  go_enter Tryd.func13, Tryd.ntmps13
  go_upto_region 1 with (fail)
  generalize hw1 : w.alloc _ = w1
  have HB1 : Hid (Below w.heap.size w w1) := by show Below _ _ _; rw [← hw1]; exact (Below.refl _ _).alloc (Nat.le_refl _) _
  have hx1 : B3 25 w1 w.heap.size (.string T) (.string S) (.slice A n cap) := by
    rw [← hw1]
    exact heap_alloc_new w _
  have HX1 := hid hx1
  obtain ⟨c0, c1, c2⟩ := hx1.facts
  clear hw1 hx1
  go_wp2_with fail
  clear c0 c1 c2
  refine (HTS.out _).mono ?_
  rintro e w2 ⟨rfl, hb2⟩
  have HB2 := hid (bel HB1.out hb2)
  have hx2 := HX1.out.below hb2
  have HX2 := hid hx2
  obtain ⟨c0, c1, c2⟩ := hx2.facts
  clear hb2 hx2
  cases tb with
  | false =>
    have HE : Hid (V = false) := by show _ = _; rw [HV.out]; rfl
    go_wp2
    go_ret
    exact ⟨ret_bool (by rw [HE.out]), HB2.out⟩
  | true =>
    go_wp2_with fail
    clear c0 c1 c2
    refine (HSS.out _).mono ?_
    rintro e w3 ⟨rfl, hb3⟩
    have HB3 := hid (bel HB2.out hb3)
    have hx3 := HX2.out.below hb3
    have HX3 := hid hx3
    obtain ⟨c0, c1, c2⟩ := hx3.facts
    clear hb3 hx3
    cases sb with
    | false =>
      have HE : Hid (V = false) := by show _ = _; rw [HV.out]; rfl
      go_wp2
      go_ret
      exact ⟨ret_bool (by rw [HE.out]), HB3.out⟩
    | true =>
      have HV3 : Hid (V = rightK (PSL l) n) := by show _ = _; rw [HV.out, ← HL.out, ← PSL_len l]; rfl
      clear c0 c1 c2
      go_upto_region 4 with (fail)
      clear hmm
      generalize hw4 : w3.alloc _ = w4
      have HS4 : Hid (Says w4 w3.heap.size 0 []) := by show Says _ _ _ _; rw [← hw4]; exact Says.made w3
      have HB4 : Hid (Below w.heap.size w w4) := by show Below _ _ _; rw [← hw4]; exact HB3.out.alloc HB3.out.size _
      have hx4 : B3 25 w4 w.heap.size (.string T) (.string S) (.slice A n cap) := by rw [← hw4]; exact HX3.out.below ((Below.refl _ _).alloc (Nat.le_refl _) _)
      obtain ⟨c0, c1, c2⟩ := hx4.facts
      obtain ⟨gm, hgm⟩ : ∃ g, g = w3.heap.size := ⟨_, rfl⟩
      rw [← hgm] at HS4 ⊢
      have HGM : Hid (w.heap.size ≤ gm) := by show _ ≤ _; rw [hgm]; exact HB3.out.size
      clear hw4 hx4 hgm
      go_upto_region 5 with (fail)
      clear c0 c1 c2
      go_loopw [5, 20] (fun _ vk wr => ∃ (k : Nat) (names : List (List UInt8)), k ≤ n ∧ vk = .int .i64 (k : Int) ∧ Hid (Says wr gm k names) ∧ Hid (∀ x, x ∈ names ↔ x ∈ ((PSL l).take k).map (·.1)) ∧ Hid (Below w.heap.size w wr) ∧ Hid (rightK (PSL l) k = true)) (fun _ vk _ => n - (intOf vk).toNat)
      case atStart => exact ⟨0, [], Nat.zero_le _, rfl, HS4.out, by show ∀ x, _; simp, HB4.out, rfl⟩
      case round =>
        obtain ⟨k, names, hk, rfl, HM, HN, HB, HK⟩ := hrel
        by_cases hlt : k < n
        · have hkl : k < l.length := by rw [HL.out]; exact hlt
          obtain ⟨b, off, rfl, hb, h1, h2⟩ := (HR.out.under HB.out (Nat.le_refl _)).2 k hkl
          have hz := HF.out l[k] (List.getElem_mem hkl)
          have hTk := PSL_take l k hkl
          have hok := okAt_PSL l k hkl
          have hno := HNO.out k hkl
          obtain ⟨s1, hs1⟩ : ∃ s, s = l[k].1 := ⟨_, rfl⟩
          obtain ⟨s2, hs2⟩ : ∃ s, s = l[k].2 := ⟨_, rfl⟩
          rw [← hs1] at h1 hz hTk hok
          rw [← hs2] at h2 hz hTk hok
          rw [hasN_mem _ _ _ HN.out] at hok
          have hsucc := rightK_succ (PSL l) k
          rw [HK.out, Bool.true_and] at hsucc
          have HTK := hid hTk
          have hsm := fun w => small_any s1 w (by omega)
          have hqu := fun w => TokV.quotable_any s2 w (by omega)
          obtain ⟨m1, hm1⟩ : ∃ b, b = sml s1.data.toList := ⟨_, rfl⟩
          obtain ⟨q2, hq2⟩ : ∃ b, b = TokV.quotable s2.data.toList := ⟨_, rfl⟩
          rw [← hm1] at hok hsm
          rw [← hq2] at hok hqu
          have HSM := hid hsm
          have HQU := hid hqu
          have hki : (k : Int) < (n : Int) := by omega
          have hs1z : s1.size ≤ 1048576 := by omega
          have HOK := hid hok
          have HNO2 := hid hno
          have HSU := hid hsucc
          clear hs1 hs2 hkl hTk hok hno hsucc hm1 hq2 hsm hqu hz
          go_upto_region 7 with (fail)
          generalize hwa : wr.alloc _ = wa
          have hxa : B2 40 wa wr.heap.size (.string s1) (.string s2) := by show B2 _ _ _ _ _; rw [← hwa]; exact heap_alloc_new _ _
          have HXa := hid hxa
          have HMa : Hid (Says wa gm k names) := by show Says _ _ _ _; rw [← hwa]; exact HM.out.below ((Below.refl _ _).alloc (Nat.le_refl _) _)
          have HBa : Hid (Below w.heap.size w wa) := by show Below _ _ _; rw [← hwa]; exact HB.out.alloc HB.out.size _
          have HNE : Hid (gm ≠ wr.heap.size) := by show _ ≠ _; have := HM.out.lt; omega
          obtain ⟨k0, k1⟩ := hxa.facts
          clear hwa hxa h1 h2
          go_wp2_with fail
          clear k0 k1
          refine (HSM.out _).mono ?_
          rintro e w5 ⟨rfl, hb5⟩
          have HM5 := hid (HMa.out.below hb5)
          have HB5 := hid (bel HBa.out hb5)
          have hx5 := HXa.out.below hb5
          have HX5 := hid hx5
          obtain ⟨k0, k1⟩ := hx5.facts
          clear hb5 hx5
          cases m1 with
          | false =>
            have HE : Hid (V = false) := HNO2.out (by rw [HOK.out]; rfl)
            go_wp2
            go_ret
            exact ⟨ret_bool (by rw [HE.out]), HB5.out⟩
          | true =>
            have hlk := HM5.out.look s1 (by unfold maxLen; omega)
            by_cases hmem : s1.data.toList ∈ names
            · have HE : Hid (V = false) := HNO2.out (by rw [HOK.out, decide_eq_true hmem]; rfl)
              rw [if_pos hmem] at hlk
              clear hmem
              go_wp2
              go_ret
              exact ⟨ret_bool (by rw [HE.out]), HB5.out⟩
            · rw [if_neg hmem] at hlk
              have HOK2 : Hid (okAt (PSL l) k = q2) := by show _ = _; rw [HOK.out, decide_eq_false hmem]; rfl
              clear hmem
              go_wp2_with fail
              clear k0 k1 hlk
              refine (HQU.out _).mono ?_
              rintro e w6 ⟨rfl, hb6⟩
              have HM6 := hid (HM5.out.below hb6)
              have HB6 := hid (bel HB5.out hb6)
              have hx6 := HX5.out.below hb6
              obtain ⟨k0, k1⟩ := hx6.facts
              clear hb6 hx6
              cases q2 with
              | false =>
                have HE : Hid (V = false) := HNO2.out HOK2.out
                go_wp2
                go_ret
                exact ⟨ret_bool (by rw [HE.out]), HB6.out⟩
              | true =>
                obtain ⟨w7, hput, hS7, hg7⟩ := HM6.out.put s1 (by unfold maxLen; omega) (by unfold maxLen; omega)
                have HS7 := hid hS7
                have HB7 : Hid (Below w.heap.size w w7) := HB6.out.grown hg7 HB6.out.size (fun g hg => by injection hg with hg; rw [← hg]; exact HGM.out)
                have HK7 : Hid (rightK (PSL l) (k + 1) = true) := by show _ = _; rw [HSU.out, HOK2.out]
                have HN7 : Hid (∀ x, x ∈ s1.data.toList :: names ↔ x ∈ ((PSL l).take (k + 1)).map (·.1)) := by
                  show ∀ x, _
                  intro x
                  rw [HTK.out]
                  have := HN.out x
                  simp only [List.mem_cons, List.map_append, List.mem_append, this]
                  simp
                  exact Or.comm
                clear hS7 hg7
                go_wp2
                go_roundw
                case rel => exact ⟨k + 1, s1.data.toList :: names, by omega, by go_num, HS7.out, HN7.out, HB7.out, HK7.out⟩
                case measure => simp [intOf]; omega
        · obtain rfl : k = n := by omega
          have HE : Hid (V = true) := by show _ = _; rw [HV3.out, HK.out]
          go_wp2
          go_ret
          exact ⟨ret_bool (by rw [HE.out]), HB.out⟩
end Go.Proofs.YtlbgcibdpeaomaaDoor.MimI
