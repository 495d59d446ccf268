/- The law AnswerTakes. -/
import Derived.Test.YthbpjkgbnmllkaaAnsI
import Derived.Deep.Cut
import Derived.Test.YthbpjkgbnmllkaaOpen2
import Derived.Lib.SmallJoins
namespace Go.Proofs.Ythbpjkgbnmllkaa.Laws
open Go.Joins Go.ChangeShapes Go.WideShapes Go.ChangeAt Go.RowKit Go.Proofs.Ythbpjkgbnmllkaa.Base Go.Proofs.Ythbpjkgbnmllkaa.Base2 Go.Proofs.Ythbpjkgbnmllkaa.Base3 Go.Proofs.Ythbpjkgbnmllkaa.Regs Go.Proofs.Ythbpjkgbnmllkaa.AnsP Go.Proofs.Ythbpjkgbnmllkaa.AnsI Go.Proofs.Ythbpjkgbnmllkaa.AnsR Go.Proofs.Ythbpjkgbnmllkaa.AnsD

/-- It is a reader of L. -/
def rdr (B : Nat) (L : List UInt8) : Keep := ⟨fun u w => ∃ g, u = .pointer (some ⟨g, 0, none⟩) ∧ B ≤ g ∧ IsR g L false w, fun _ _ _ hb ⟨g, h1, h2, h3⟩ => ⟨g, h1, h2, h3.below hb⟩⟩
theorem txt_none {M : List UInt8} (h : txt M = none) : tt M = [] ∧ td M = [] ∧ tb M false = true := by
  have hb : tb M false = true := by
    cases hq : tb M false with
    | true => rfl
    | false => rw [txt_yes hq] at h; cases h
  refine ⟨?_, ?_, hb⟩
  all_goals
    unfold tb at hb
    cases h4 : bd 4 M false with
    | true =>
      unfold bd at h4
      have h5 : ¬ 4 ≤ M.length := by simp at h4; omega
      have h6 : tk 4 M = [] := if_neg h5
      have h7 : dp 4 M = [] := if_neg h5
      have h8 : tn M = 0 := by unfold tn; rw [h6]; rfl
      first | (unfold tt; rw [h7, h8]; rfl) | (unfold td; rw [h7, h8]; rfl)
    | false =>
      rw [h4] at hb
      unfold bd at hb
      have h5 : ¬ tn M ≤ (dp 4 M).length := by simp at hb; omega
      first | (unfold tt tk; rw [if_neg h5]) | (unfold td; rw [dp, if_neg h5])
set_option linter.unusedSimpArgs false in
set_option maxRecDepth 100000 in
set_option maxHeartbeats 16000000 in
/-- The walk of the law AnswerTakes. -/
theorem AnswerTakes_any (A : Option Addr) (n cap : Nat) (L : List UInt8) (B : Option Addr) (m capk : Nat) (K : List UInt8) (w : World)
    (r : Rds w A n (bcells L)) (_c : n ≤ cap) (z : cap * 1 ≤ 140737488351232) (rk : Rds w B m (bcells K)) (_ck : m ≤ capk) (zk : capk * 1 ≤ 140737488351232) :
    Calls Try.prog 5 #[.slice A n cap, .slice B m capk] w fun e w' => e = .returned (.bool true) ∧ Below w.heap.size w w' := by
  have hn47 : (n : Int) ≤ 140737488351232 := by omega
  have hm47 : (m : Int) ≤ 140737488351232 := by omega
  have hln : L.length = n := by have := r.1; rwa [length_bcells] at this
  have hkn : K.length = m := by have := rk.1; rwa [length_bcells] at this
  have HR0 := hid r
  have HK0 := hid rk
  have HLN := hid hln
  have HKN := hid hkn
  clear r rk hln hkn _c z _ck zk
  by_cases h1 : n ≤ 400
  · by_cases h2 : m ≤ 40
    · have q1 : ¬ (400 : Int) < (n : Int) := by omega
      have q2 : ¬ (40 : Int) < (m : Int) := by omega
      have HLL : Hid (L.length ≤ 400) := by show _ ≤ _; rw [HLN.out]; exact h1
      go_enter Try.func5, Try.ntmps5
      go_wp2_with fail
      refine (awake_any _).mono ?_
      rintro e w1 ⟨rfl, hb⟩
      have HR1 := hid (HR0.out.below hb)
      have HB1 := hid hb
      clear hb
      go_wp2_with fail
      refine wp_region_rel (by kernel_rfl) [is (.slice A n cap), rdr w1.heap.size L, is (.slice A n cap), is (.string (strOf L)), rdr w1.heap.size L, is (.string (strOf L)), is (.bool true)] [[], [0], [], [2], [1], [3], []] (by kernel_rfl) ?_ ?_
      · refine ⟨?_, ?_, ?_, ?_, ?_, ?_, ?_, trivial⟩
        · intro t wq hbq hh K hK
          clear hh
          simp only [filled, upd, Have, is, any, row, pick, Act.put, List.setIfInBounds_toArray, List.set_cons_zero, List.set_cons_succ, Nat.reduceAdd, Nat.reduceEqDiff, reduceIte] at hK ⊢
          go_simp
          exact hK _ _ (Below.refl _ _) rfl
        · intro t wq hbq hh K hK
          have e0 := hh.1
          simp only [pick] at e0
          replace e0 : t 0 = (.slice A n cap) := e0
          clear hh
          simp only [filled, upd, Have, is, any, row, pick, Act.put, List.setIfInBounds_toArray, List.set_cons_zero, List.set_cons_succ, Nat.reduceAdd, Nat.reduceEqDiff, reduceIte] at hK ⊢
          simp only [e0] at hK ⊢
          go_simp
          go_simp
          refine (AnsR.newr_any A n cap L _ (HR1.out.below hbq) (by omega)).mono ?_
          rintro e w9 ⟨g, rfl, hg, hR, hb9⟩
          exact hK _ _ hb9 ⟨g, rfl, Nat.le_trans hbq.size hg, hR⟩
        · intro t wq hbq hh K hK
          clear hh
          simp only [filled, upd, Have, is, any, row, pick, Act.put, List.setIfInBounds_toArray, List.set_cons_zero, List.set_cons_succ, Nat.reduceAdd, Nat.reduceEqDiff, reduceIte] at hK ⊢
          go_simp
          exact hK _ _ (Below.refl _ _) rfl
        · intro t wq hbq hh K hK
          have e2 := hh.1
          simp only [pick] at e2
          replace e2 : t 2 = (.slice A n cap) := e2
          clear hh
          simp only [filled, upd, Have, is, any, row, pick, Act.put, List.setIfInBounds_toArray, List.set_cons_zero, List.set_cons_succ, Nat.reduceAdd, Nat.reduceEqDiff, reduceIte] at hK ⊢
          simp only [e2] at hK ⊢
          have hs := run_string_of (P := Try.prog) 22 9 5 Try.underlying22 Try.underlying5 Try.underlying9 _ cap (HR1.out.below hbq)
          go_simp
          exact hK _ _ (Below.refl _ _) rfl
        · intro t wq hbq hh K hK
          have e1 := hh.1
          simp only [pick] at e1
          clear hh
          simp only [filled, upd, Have, is, any, row, pick, Act.put, List.setIfInBounds_toArray, List.set_cons_zero, List.set_cons_succ, Nat.reduceAdd, Nat.reduceEqDiff, reduceIte] at hK ⊢
          obtain ⟨g, e1, hg, hR⟩ := e1
          simp only [e1] at hK ⊢
          go_simp
          exact hK _ _ (Below.refl _ _) ⟨g, rfl, hg, hR⟩
        · intro t wq hbq hh K hK
          have e3 := hh.1
          simp only [pick] at e3
          replace e3 : t 3 = (.string (strOf L)) := e3
          clear hh
          simp only [filled, upd, Have, is, any, row, pick, Act.put, List.setIfInBounds_toArray, List.set_cons_zero, List.set_cons_succ, Nat.reduceAdd, Nat.reduceEqDiff, reduceIte] at hK ⊢
          simp only [e3] at hK ⊢
          go_simp
          exact hK _ _ (Below.refl _ _) rfl
        · intro t wq hbq hh K hK
          clear hh
          simp only [filled, upd, Have, is, any, row, pick, Act.put, List.setIfInBounds_toArray, List.set_cons_zero, List.set_cons_succ, Nat.reduceAdd, Nat.reduceEqDiff, reduceIte] at hK ⊢
          go_simp
          exact hK _ _ (Below.refl _ _) rfl
      · intro t wq hbq hh
        have f4 := have_get hh 4 (by decide)
        simp only [pick] at f4
        have f5 := have_get hh 5 (by decide)
        simp only [pick] at f5
        replace f5 : t 5 = (.string (strOf L)) := f5
        have f6 := have_get hh 6 (by decide)
        simp only [pick] at f6
        replace f6 : t 6 = (.bool true) := f6
        clear hh
        simp only [filled, upd, Have, is, any, row, pick, Act.put, List.setIfInBounds_toArray, List.set_cons_zero, List.set_cons_succ, Nat.reduceAdd, Nat.reduceEqDiff, reduceIte]
        simp only [f5, f6]
        obtain ⟨g, f4, hg, hR⟩ := f4
        simp only [f4]
        have HWG : Hid (w.heap.size ≤ g) := Nat.le_trans HB1.out.size hg
        have HI2 := hid hR
        have HB2 : Hid (Below w.heap.size w wq) := HB1.out.trans (hbq.mono HB1.out.size)
        clear hR hg hbq
        rcases Nat.eq_zero_or_pos m with hm0 | hm0
        · subst hm0
          go_wp2
          generalize decide ((400 : Int) < (n : Int)) = dd1
          go_loopw [6, 7, 8, 9, 10, 11, 12, 13, 14, 34] (fun v6 v7 _ _ _ _ _ _ _ vk wr => ∃ (j : Nat) (M : List UInt8) (b : Bool), j ≤ 0 ∧ vk = .int .i64 (j : Int) ∧ v6 = .string (strOf M) ∧ v7 = .bool (!b) ∧ Hid (M.length ≤ 400) ∧ Hid (AnsR.IsR g M b wr) ∧ Hid (Below w.heap.size w wr) ∧ Hid (b = true → M = [])) (fun _ _ _ _ _ _ _ _ _ vk _ => 0 - (intOf vk).toNat)
          case atStart => exact ⟨0, L, false, Nat.zero_le _, rfl, rfl, rfl, HLL.out, HI2.out, HB2.out, fun h => absurd h (by decide)⟩
          case round =>
            obtain ⟨j, M, b, hj, rfl, rfl, rfl, HML, HI, HB, HE⟩ := hrel
            obtain rfl : j = 0 := by omega
            go_wp2
            go_ret
            exact ⟨rfl, HB.out⟩
        · skip
          obtain ⟨bk, ok, rfl, hbk0, _⟩ := HK0.out.spot hm0
          go_wp2
          generalize decide ((400 : Int) < (n : Int)) = dd1
          go_loopw [6, 7, 8, 9, 10, 11, 12, 13, 14, 34] (fun v6 v7 _ _ _ _ _ _ _ vk wr => ∃ (j : Nat) (M : List UInt8) (b : Bool), j ≤ m ∧ vk = .int .i64 (j : Int) ∧ v6 = .string (strOf M) ∧ v7 = .bool (!b) ∧ Hid (M.length ≤ 400) ∧ Hid (AnsR.IsR g M b wr) ∧ Hid (Below w.heap.size w wr) ∧ Hid (b = true → M = [])) (fun _ _ _ _ _ _ _ _ _ vk _ => m - (intOf vk).toNat)
          case atStart => exact ⟨0, L, false, Nat.zero_le _, rfl, rfl, rfl, HLL.out, HI2.out, HB2.out, fun h => absurd h (by decide)⟩
          case round =>
            obtain ⟨j, M, b, hj, rfl, rfl, rfl, HML, HI, HB, HE⟩ := hrel
            by_cases hlt : j < m
            · have hjk : j < K.length := by rw [HKN.out]; exact hlt
              have hck := (HK0.out.below HB.out).byte j hjk
              obtain ⟨d, hd⟩ : ∃ d, d = K[j] := ⟨_, rfl⟩
              rw [← hd] at hck
              have hdt : (d.toNat : Int).tmod 4 = ((d.toNat % 4 : Nat) : Int) := by rw [Int.tmod_eq_emod_of_nonneg (by omega)]; simp
              obtain ⟨q, hq⟩ : ∃ q, q = d.toNat % 4 := ⟨_, rfl⟩
              rw [← hq] at hdt
              have hq4 : q < 4 := by omega
              clear hd hjk hq
              rcases (show q = 0 ∨ q = 1 ∨ q = 2 ∨ q = 3 by omega) with rfl | rfl | rfl | rfl
              · skip
                cases b with
                | false =>
                  cases hr : rd 1 M with
                  | some p =>
                    obtain ⟨x, M2⟩ := p
                    obtain ⟨hM, hx⟩ := rd_some hr
                    have hx : x < 256 := by simpa using hx
                    have hxi : (x : Int) ≤ 255 := by omega
                    have HB0 : Hid (bd 1 M false = false) := by show _ = _; cases hq : bd 1 M false with | false => rfl | true => rw [rd_no hq] at hr; cases hr
                    have hr2 := rd_yes HB0.out
                    rw [hr] at hr2
                    injection hr2 with hr2
                    injection hr2 with hr2 hr3
                    have HVX : Hid (val (tk 1 M) = x) := hr2.symm
                    have HDP : Hid (dp 1 M = M2) := hr3.symm
                    have HBD := HB0
                    have HRD := hid hr
                    have HML2 : Hid (M2.length ≤ 400) := by have h1 := congrArg List.length hM; rw [List.length_append] at h1; have := HML.out; show _ ≤ _; omega
                    have hsz : (strOf M2).size = M2.length := size_strOf M2
                    clear hr hr2 hr3 hM
                    go_wp2_with fail
                    refine (AnsR.u8r_any g M false _ HI.out (by have := HML.out; omega)).mono ?_
                    rw [HVX.out, HDP.out, HBD.out]
                    rintro e wa ⟨rfl, hIa, hba⟩
                    have HIa := hid hIa
                    have HBa := hid (HB.out.trans (hba.mono HWG.out))
                    have ha1 := (hba.cell (p := ⟨bk, ok + j, none⟩) (Nat.lt_of_lt_of_le hbk0 HWG.out)).trans hck
                    clear hIa hba
                    go_wp2_with fail
                    refine (AnsF.take_any (strOf M) 1 _ (by rw [size_strOf]; have := HML.out; omega) (by omega)).mono ?_
                    rw [show (strOf M).data.toList = M from rfl, HRD.out]
                    rintro e wb ⟨rfl, hbb⟩
                    have HIb := hid (HIa.out.below hbb)
                    have HBb := hid (bel HBa.out hbb)
                    clear hbb
                    go_wp2_with fail
                    refine (AnsR.bad_any g M2 false _ HIb.out).mono ?_
                    rintro e wc ⟨rfl, hwc⟩
                    subst hwc
                    go_wp2_with fail
                    refine (AnsR.left_any g M2 false _ HIb.out).mono ?_
                    rintro e wc ⟨rfl, hwc⟩
                    subst hwc
                    go_wp2
                    go_roundw
                    case rel => exact ⟨j + 1, M2, false, by omega, by go_num, by first | rfl | trivial, by first | rfl | trivial, HML2.out, HIb.out, HBb.out, fun h => absurd h (by decide)⟩
                    case measure => simp [intOf]; omega
                  | none =>
                    have HVX : Hid (val (tk 1 M) = 0) := by show _ = _; unfold tk; rw [if_neg (by unfold rd at hr; split at hr; cases hr; assumption)]; rfl
                    have HDP : Hid (dp 1 M = []) := by show _ = _; unfold dp; rw [if_neg (by unfold rd at hr; split at hr; cases hr; assumption)]
                    have HBD : Hid (bd 1 M false = true) := by show _ = _; unfold bd; rw [decide_eq_true (by unfold rd at hr; split at hr; cases hr; omega), Bool.or_true]
                    have HRD := hid hr
                    have HML2 : Hid (([] : List UInt8).length ≤ 400) := by show _ ≤ _; simp
                    have hsz : (strOf []).size = 0 := rfl
                    have hsg0 : AnsW.sg 0 = 0 := by decide
                    clear hr
                    go_wp2_with fail
                    refine (AnsR.u8r_any g M false _ HI.out (by have := HML.out; omega)).mono ?_
                    rw [HVX.out, HDP.out, HBD.out]
                    rintro e wa ⟨rfl, hIa, hba⟩
                    have HIa := hid hIa
                    have HBa := hid (HB.out.trans (hba.mono HWG.out))
                    have ha1 := (hba.cell (p := ⟨bk, ok + j, none⟩) (Nat.lt_of_lt_of_le hbk0 HWG.out)).trans hck
                    clear hIa hba
                    go_wp2_with fail
                    refine (AnsF.take_any (strOf M) 1 _ (by rw [size_strOf]; have := HML.out; omega) (by omega)).mono ?_
                    rw [show (strOf M).data.toList = M from rfl, HRD.out]
                    rintro e wb ⟨rfl, hbb⟩
                    have HIb := hid (HIa.out.below hbb)
                    have HBb := hid (bel HBa.out hbb)
                    clear hbb
                    go_wp2_with fail
                    refine (AnsR.bad_any g [] true _ HIb.out).mono ?_
                    rintro e wc ⟨rfl, hwc⟩
                    subst hwc
                    go_wp2_with fail
                    refine (AnsR.left_any g [] true _ HIb.out).mono ?_
                    rintro e wc ⟨rfl, hwc⟩
                    subst hwc
                    go_wp2
                    go_roundw
                    case rel => exact ⟨j + 1, [], true, by omega, by go_num, by first | rfl | trivial, by first | rfl | trivial, HML2.out, HIb.out, HBb.out, fun _ => rfl⟩
                    case measure => simp [intOf]; omega
                | true =>
                  have hM0 : M = [] := HE.out (by first | rfl | trivial)
                  subst hM0
                  have hr : rd 1 [] = none := by rfl
                  have HVX : Hid (val (tk 1 []) = 0) := by show _ = _; unfold tk; rw [if_neg (by unfold rd at hr; split at hr; cases hr; assumption)]; rfl
                  have HDP : Hid (dp 1 [] = []) := by show _ = _; unfold dp; rw [if_neg (by unfold rd at hr; split at hr; cases hr; assumption)]
                  have HBD : Hid (bd 1 [] true = true) := by show _ = _; unfold bd; rw [decide_eq_true (by unfold rd at hr; split at hr; cases hr; omega), Bool.or_true]
                  have HRD := hid hr
                  have HML2 : Hid (([] : List UInt8).length ≤ 400) := by show _ ≤ _; simp
                  have hsz : (strOf []).size = 0 := rfl
                  have hsg0 : AnsW.sg 0 = 0 := by decide
                  clear hr
                  go_wp2_with fail
                  refine (AnsR.u8r_any g [] true _ HI.out (by have := HML.out; omega)).mono ?_
                  rw [HVX.out, HDP.out, HBD.out]
                  rintro e wa ⟨rfl, hIa, hba⟩
                  have HIa := hid hIa
                  have HBa := hid (HB.out.trans (hba.mono HWG.out))
                  have ha1 := (hba.cell (p := ⟨bk, ok + j, none⟩) (Nat.lt_of_lt_of_le hbk0 HWG.out)).trans hck
                  clear hIa hba
                  go_wp2_with fail
                  refine (AnsF.take_any (strOf []) 1 _ (by rw [size_strOf]; have := HML.out; omega) (by omega)).mono ?_
                  rw [show (strOf []).data.toList = [] from rfl, HRD.out]
                  rintro e wb ⟨rfl, hbb⟩
                  have HIb := hid (HIa.out.below hbb)
                  have HBb := hid (bel HBa.out hbb)
                  clear hbb
                  go_wp2_with fail
                  refine (AnsR.bad_any g [] true _ HIb.out).mono ?_
                  rintro e wc ⟨rfl, hwc⟩
                  subst hwc
                  go_wp2_with fail
                  refine (AnsR.left_any g [] true _ HIb.out).mono ?_
                  rintro e wc ⟨rfl, hwc⟩
                  subst hwc
                  go_wp2
                  go_roundw
                  case rel => exact ⟨j + 1, [], true, by omega, by go_num, by first | rfl | trivial, by first | rfl | trivial, HML2.out, HIb.out, HBb.out, fun _ => rfl⟩
                  case measure => simp [intOf]; omega
              · skip
                cases b with
                | false =>
                  cases hr : rd 4 M with
                  | some p =>
                    obtain ⟨x, M2⟩ := p
                    obtain ⟨hM, hx⟩ := rd_some hr
                    have hx : x < 4294967296 := by simpa using hx
                    have hxi : (x : Int) ≤ 4294967295 := by omega
                    have HB0 : Hid (bd 4 M false = false) := by show _ = _; cases hq : bd 4 M false with | false => rfl | true => rw [rd_no hq] at hr; cases hr
                    have hr2 := rd_yes HB0.out
                    rw [hr] at hr2
                    injection hr2 with hr2
                    injection hr2 with hr2 hr3
                    have HVX : Hid (val (tk 4 M) = x) := hr2.symm
                    have HDP : Hid (dp 4 M = M2) := hr3.symm
                    have HBD := HB0
                    have HRD := hid hr
                    have HML2 : Hid (M2.length ≤ 400) := by have h1 := congrArg List.length hM; rw [List.length_append] at h1; have := HML.out; show _ ≤ _; omega
                    have hsz : (strOf M2).size = M2.length := size_strOf M2
                    clear hr hr2 hr3 hM
                    go_wp2_with fail
                    refine (AnsR.u32r_any g M false _ HI.out (by have := HML.out; omega)).mono ?_
                    rw [HVX.out, HDP.out, HBD.out]
                    rintro e wa ⟨rfl, hIa, hba⟩
                    have HIa := hid hIa
                    have HBa := hid (HB.out.trans (hba.mono HWG.out))
                    have ha1 := (hba.cell (p := ⟨bk, ok + j, none⟩) (Nat.lt_of_lt_of_le hbk0 HWG.out)).trans hck
                    clear hIa hba
                    go_wp2_with fail
                    refine (AnsF.take_any (strOf M) 4 _ (by rw [size_strOf]; have := HML.out; omega) (by omega)).mono ?_
                    rw [show (strOf M).data.toList = M from rfl, HRD.out]
                    rintro e wb ⟨rfl, hbb⟩
                    have HIb := hid (HIa.out.below hbb)
                    have HBb := hid (bel HBa.out hbb)
                    clear hbb
                    go_wp2_with fail
                    refine (AnsR.bad_any g M2 false _ HIb.out).mono ?_
                    rintro e wc ⟨rfl, hwc⟩
                    subst hwc
                    go_wp2_with fail
                    refine (AnsR.left_any g M2 false _ HIb.out).mono ?_
                    rintro e wc ⟨rfl, hwc⟩
                    subst hwc
                    go_wp2
                    go_roundw
                    case rel => exact ⟨j + 1, M2, false, by omega, by go_num, by first | rfl | trivial, by first | rfl | trivial, HML2.out, HIb.out, HBb.out, fun h => absurd h (by decide)⟩
                    case measure => simp [intOf]; omega
                  | none =>
                    have HVX : Hid (val (tk 4 M) = 0) := by show _ = _; unfold tk; rw [if_neg (by unfold rd at hr; split at hr; cases hr; assumption)]; rfl
                    have HDP : Hid (dp 4 M = []) := by show _ = _; unfold dp; rw [if_neg (by unfold rd at hr; split at hr; cases hr; assumption)]
                    have HBD : Hid (bd 4 M false = true) := by show _ = _; unfold bd; rw [decide_eq_true (by unfold rd at hr; split at hr; cases hr; omega), Bool.or_true]
                    have HRD := hid hr
                    have HML2 : Hid (([] : List UInt8).length ≤ 400) := by show _ ≤ _; simp
                    have hsz : (strOf []).size = 0 := rfl
                    have hsg0 : AnsW.sg 0 = 0 := by decide
                    clear hr
                    go_wp2_with fail
                    refine (AnsR.u32r_any g M false _ HI.out (by have := HML.out; omega)).mono ?_
                    rw [HVX.out, HDP.out, HBD.out]
                    rintro e wa ⟨rfl, hIa, hba⟩
                    have HIa := hid hIa
                    have HBa := hid (HB.out.trans (hba.mono HWG.out))
                    have ha1 := (hba.cell (p := ⟨bk, ok + j, none⟩) (Nat.lt_of_lt_of_le hbk0 HWG.out)).trans hck
                    clear hIa hba
                    go_wp2_with fail
                    refine (AnsF.take_any (strOf M) 4 _ (by rw [size_strOf]; have := HML.out; omega) (by omega)).mono ?_
                    rw [show (strOf M).data.toList = M from rfl, HRD.out]
                    rintro e wb ⟨rfl, hbb⟩
                    have HIb := hid (HIa.out.below hbb)
                    have HBb := hid (bel HBa.out hbb)
                    clear hbb
                    go_wp2_with fail
                    refine (AnsR.bad_any g [] true _ HIb.out).mono ?_
                    rintro e wc ⟨rfl, hwc⟩
                    subst hwc
                    go_wp2_with fail
                    refine (AnsR.left_any g [] true _ HIb.out).mono ?_
                    rintro e wc ⟨rfl, hwc⟩
                    subst hwc
                    go_wp2
                    go_roundw
                    case rel => exact ⟨j + 1, [], true, by omega, by go_num, by first | rfl | trivial, by first | rfl | trivial, HML2.out, HIb.out, HBb.out, fun _ => rfl⟩
                    case measure => simp [intOf]; omega
                | true =>
                  have hM0 : M = [] := HE.out (by first | rfl | trivial)
                  subst hM0
                  have hr : rd 4 [] = none := by rfl
                  have HVX : Hid (val (tk 4 []) = 0) := by show _ = _; unfold tk; rw [if_neg (by unfold rd at hr; split at hr; cases hr; assumption)]; rfl
                  have HDP : Hid (dp 4 [] = []) := by show _ = _; unfold dp; rw [if_neg (by unfold rd at hr; split at hr; cases hr; assumption)]
                  have HBD : Hid (bd 4 [] true = true) := by show _ = _; unfold bd; rw [decide_eq_true (by unfold rd at hr; split at hr; cases hr; omega), Bool.or_true]
                  have HRD := hid hr
                  have HML2 : Hid (([] : List UInt8).length ≤ 400) := by show _ ≤ _; simp
                  have hsz : (strOf []).size = 0 := rfl
                  have hsg0 : AnsW.sg 0 = 0 := by decide
                  clear hr
                  go_wp2_with fail
                  refine (AnsR.u32r_any g [] true _ HI.out (by have := HML.out; omega)).mono ?_
                  rw [HVX.out, HDP.out, HBD.out]
                  rintro e wa ⟨rfl, hIa, hba⟩
                  have HIa := hid hIa
                  have HBa := hid (HB.out.trans (hba.mono HWG.out))
                  have ha1 := (hba.cell (p := ⟨bk, ok + j, none⟩) (Nat.lt_of_lt_of_le hbk0 HWG.out)).trans hck
                  clear hIa hba
                  go_wp2_with fail
                  refine (AnsF.take_any (strOf []) 4 _ (by rw [size_strOf]; have := HML.out; omega) (by omega)).mono ?_
                  rw [show (strOf []).data.toList = [] from rfl, HRD.out]
                  rintro e wb ⟨rfl, hbb⟩
                  have HIb := hid (HIa.out.below hbb)
                  have HBb := hid (bel HBa.out hbb)
                  clear hbb
                  go_wp2_with fail
                  refine (AnsR.bad_any g [] true _ HIb.out).mono ?_
                  rintro e wc ⟨rfl, hwc⟩
                  subst hwc
                  go_wp2_with fail
                  refine (AnsR.left_any g [] true _ HIb.out).mono ?_
                  rintro e wc ⟨rfl, hwc⟩
                  subst hwc
                  go_wp2
                  go_roundw
                  case rel => exact ⟨j + 1, [], true, by omega, by go_num, by first | rfl | trivial, by first | rfl | trivial, HML2.out, HIb.out, HBb.out, fun _ => rfl⟩
                  case measure => simp [intOf]; omega
              · skip
                cases b with
                | false =>
                  cases hr : rd 8 M with
                  | some p =>
                    obtain ⟨x, M2⟩ := p
                    obtain ⟨hM, hx⟩ := rd_some hr
                    have hx : x < 18446744073709551616 := by simpa using hx
                    have hws := AnsW.wrap_sg x (by omega)
                    have hws2 : AnsW.sg x % 18446744073709551616 = (x : Int) := by rw [IntKind.wrap_u64] at hws; exact hws
                    have hxi : (x : Int) ≤ 18446744073709551615 := by omega
                    have HB0 : Hid (bd 8 M false = false) := by show _ = _; cases hq : bd 8 M false with | false => rfl | true => rw [rd_no hq] at hr; cases hr
                    have hr2 := rd_yes HB0.out
                    rw [hr] at hr2
                    injection hr2 with hr2
                    injection hr2 with hr2 hr3
                    have HVX : Hid (val (tk 8 M) = x) := hr2.symm
                    have HDP : Hid (dp 8 M = M2) := hr3.symm
                    have HBD := HB0
                    have HRD := hid hr
                    have HML2 : Hid (M2.length ≤ 400) := by have h1 := congrArg List.length hM; rw [List.length_append] at h1; have := HML.out; show _ ≤ _; omega
                    have hsz : (strOf M2).size = M2.length := size_strOf M2
                    clear hr hr2 hr3 hM
                    go_wp2_with fail
                    refine (AnsR.i64r_any g M false _ HI.out (by have := HML.out; omega)).mono ?_
                    rw [HVX.out, HDP.out, HBD.out]
                    rintro e wa ⟨rfl, hIa, hba⟩
                    have HIa := hid hIa
                    have HBa := hid (HB.out.trans (hba.mono HWG.out))
                    have ha1 := (hba.cell (p := ⟨bk, ok + j, none⟩) (Nat.lt_of_lt_of_le hbk0 HWG.out)).trans hck
                    clear hIa hba
                    go_wp2_with fail
                    refine (AnsF.take_any (strOf M) 8 _ (by rw [size_strOf]; have := HML.out; omega) (by omega)).mono ?_
                    rw [show (strOf M).data.toList = M from rfl, HRD.out]
                    rintro e wb ⟨rfl, hbb⟩
                    have HIb := hid (HIa.out.below hbb)
                    have HBb := hid (bel HBa.out hbb)
                    clear hbb
                    go_wp2_with fail
                    refine (AnsR.bad_any g M2 false _ HIb.out).mono ?_
                    rintro e wc ⟨rfl, hwc⟩
                    subst hwc
                    go_wp2_with fail
                    refine (AnsR.left_any g M2 false _ HIb.out).mono ?_
                    rintro e wc ⟨rfl, hwc⟩
                    subst hwc
                    go_wp2
                    go_roundw
                    case rel => exact ⟨j + 1, M2, false, by omega, by go_num, by first | rfl | trivial, by first | rfl | trivial, HML2.out, HIb.out, HBb.out, fun h => absurd h (by decide)⟩
                    case measure => simp [intOf]; omega
                  | none =>
                    have HVX : Hid (val (tk 8 M) = 0) := by show _ = _; unfold tk; rw [if_neg (by unfold rd at hr; split at hr; cases hr; assumption)]; rfl
                    have HDP : Hid (dp 8 M = []) := by show _ = _; unfold dp; rw [if_neg (by unfold rd at hr; split at hr; cases hr; assumption)]
                    have HBD : Hid (bd 8 M false = true) := by show _ = _; unfold bd; rw [decide_eq_true (by unfold rd at hr; split at hr; cases hr; omega), Bool.or_true]
                    have HRD := hid hr
                    have HML2 : Hid (([] : List UInt8).length ≤ 400) := by show _ ≤ _; simp
                    have hsz : (strOf []).size = 0 := rfl
                    have hsg0 : AnsW.sg 0 = 0 := by decide
                    clear hr
                    go_wp2_with fail
                    refine (AnsR.i64r_any g M false _ HI.out (by have := HML.out; omega)).mono ?_
                    rw [HVX.out, HDP.out, HBD.out]
                    rintro e wa ⟨rfl, hIa, hba⟩
                    have HIa := hid hIa
                    have HBa := hid (HB.out.trans (hba.mono HWG.out))
                    have ha1 := (hba.cell (p := ⟨bk, ok + j, none⟩) (Nat.lt_of_lt_of_le hbk0 HWG.out)).trans hck
                    clear hIa hba
                    go_wp2_with fail
                    refine (AnsF.take_any (strOf M) 8 _ (by rw [size_strOf]; have := HML.out; omega) (by omega)).mono ?_
                    rw [show (strOf M).data.toList = M from rfl, HRD.out]
                    rintro e wb ⟨rfl, hbb⟩
                    have HIb := hid (HIa.out.below hbb)
                    have HBb := hid (bel HBa.out hbb)
                    clear hbb
                    go_wp2_with fail
                    refine (AnsR.bad_any g [] true _ HIb.out).mono ?_
                    rintro e wc ⟨rfl, hwc⟩
                    subst hwc
                    go_wp2_with fail
                    refine (AnsR.left_any g [] true _ HIb.out).mono ?_
                    rintro e wc ⟨rfl, hwc⟩
                    subst hwc
                    go_wp2
                    go_roundw
                    case rel => exact ⟨j + 1, [], true, by omega, by go_num, by first | rfl | trivial, by first | rfl | trivial, HML2.out, HIb.out, HBb.out, fun _ => rfl⟩
                    case measure => simp [intOf]; omega
                | true =>
                  have hM0 : M = [] := HE.out (by first | rfl | trivial)
                  subst hM0
                  have hr : rd 8 [] = none := by rfl
                  have HVX : Hid (val (tk 8 []) = 0) := by show _ = _; unfold tk; rw [if_neg (by unfold rd at hr; split at hr; cases hr; assumption)]; rfl
                  have HDP : Hid (dp 8 [] = []) := by show _ = _; unfold dp; rw [if_neg (by unfold rd at hr; split at hr; cases hr; assumption)]
                  have HBD : Hid (bd 8 [] true = true) := by show _ = _; unfold bd; rw [decide_eq_true (by unfold rd at hr; split at hr; cases hr; omega), Bool.or_true]
                  have HRD := hid hr
                  have HML2 : Hid (([] : List UInt8).length ≤ 400) := by show _ ≤ _; simp
                  have hsz : (strOf []).size = 0 := rfl
                  have hsg0 : AnsW.sg 0 = 0 := by decide
                  clear hr
                  go_wp2_with fail
                  refine (AnsR.i64r_any g [] true _ HI.out (by have := HML.out; omega)).mono ?_
                  rw [HVX.out, HDP.out, HBD.out]
                  rintro e wa ⟨rfl, hIa, hba⟩
                  have HIa := hid hIa
                  have HBa := hid (HB.out.trans (hba.mono HWG.out))
                  have ha1 := (hba.cell (p := ⟨bk, ok + j, none⟩) (Nat.lt_of_lt_of_le hbk0 HWG.out)).trans hck
                  clear hIa hba
                  go_wp2_with fail
                  refine (AnsF.take_any (strOf []) 8 _ (by rw [size_strOf]; have := HML.out; omega) (by omega)).mono ?_
                  rw [show (strOf []).data.toList = [] from rfl, HRD.out]
                  rintro e wb ⟨rfl, hbb⟩
                  have HIb := hid (HIa.out.below hbb)
                  have HBb := hid (bel HBa.out hbb)
                  clear hbb
                  go_wp2_with fail
                  refine (AnsR.bad_any g [] true _ HIb.out).mono ?_
                  rintro e wc ⟨rfl, hwc⟩
                  subst hwc
                  go_wp2_with fail
                  refine (AnsR.left_any g [] true _ HIb.out).mono ?_
                  rintro e wc ⟨rfl, hwc⟩
                  subst hwc
                  go_wp2
                  go_roundw
                  case rel => exact ⟨j + 1, [], true, by omega, by go_num, by first | rfl | trivial, by first | rfl | trivial, HML2.out, HIb.out, HBb.out, fun _ => rfl⟩
                  case measure => simp [intOf]; omega
              · skip
                cases b with
                | false =>
                  cases hr : txt M with
                  | some p =>
                    obtain ⟨x, M2⟩ := p
                    obtain ⟨hM, hx⟩ := txt_some hr
                    have HB0 : Hid (tb M false = false) := by show _ = _; cases hq : tb M false with | false => rfl | true => rw [txt_no hq] at hr; cases hr
                    have hr2 := txt_yes HB0.out
                    rw [hr] at hr2
                    injection hr2 with hr2
                    injection hr2 with hr2 hr3
                    have HVX : Hid (tt M = x) := hr2.symm
                    have HDP : Hid (td M = M2) := hr3.symm
                    have HBD := HB0
                    have HRD := hid hr
                    have HML2 : Hid (M2.length ≤ 400) := by have h1 := congrArg List.length hM; rw [List.length_append] at h1; have := HML.out; show _ ≤ _; omega
                    have hsz : (strOf M2).size = M2.length := size_strOf M2
                    have hxx : ((strOf x).toList == (strOf x).toList) = true := by rw [Regs.str_beq]; simp
                    clear hr hr2 hr3 hM
                    go_wp2_with fail
                    refine (AnsR.strr_any g M false _ HI.out (by have := HML.out; omega)).mono ?_
                    rw [HVX.out, HDP.out, HBD.out]
                    rintro e wa ⟨rfl, hIa, hba⟩
                    have HIa := hid hIa
                    have HBa := hid (HB.out.trans (hba.mono HWG.out))
                    clear hIa hba
                    go_wp2_with fail
                    refine (AnsF.text_any (strOf M) _ (by rw [size_strOf]; have := HML.out; omega)).mono ?_
                    rw [show (strOf M).data.toList = M from rfl, HRD.out]
                    rintro e wb ⟨rfl, hbb⟩
                    have HIb := hid (HIa.out.below hbb)
                    have HBb := hid (bel HBa.out hbb)
                    clear hbb
                    go_wp2_with fail
                    refine (AnsR.bad_any g M2 false _ HIb.out).mono ?_
                    rintro e wc ⟨rfl, hwc⟩
                    subst hwc
                    go_wp2_with fail
                    refine (AnsR.left_any g M2 false _ HIb.out).mono ?_
                    rintro e wc ⟨rfl, hwc⟩
                    subst hwc
                    go_wp2
                    go_roundw
                    case rel => exact ⟨j + 1, M2, false, by omega, by go_num, by first | rfl | trivial, by first | rfl | trivial, HML2.out, HIb.out, HBb.out, fun h => absurd h (by decide)⟩
                    case measure => simp [intOf]; omega
                  | none =>
                    obtain ⟨t1, t2, t3⟩ := txt_none hr
                    have HVX : Hid (tt M = []) := t1
                    have HDP : Hid (td M = []) := t2
                    have HBD : Hid (tb M false = true) := by show _ = _; exact t3
                    have HRD := hid hr
                    have HML2 : Hid (([] : List UInt8).length ≤ 400) := by show _ ≤ _; simp
                    have hsz : (strOf []).size = 0 := rfl
                    have hx0 : (Base.strOf ([] : List UInt8)).toList = [] := by rw [Base.strOf, ByteArray.toList_mk]
                    clear hr t1 t2 t3
                    go_wp2_with fail
                    refine (AnsR.strr_any g M false _ HI.out (by have := HML.out; omega)).mono ?_
                    rw [HVX.out, HDP.out, HBD.out]
                    rintro e wa ⟨rfl, hIa, hba⟩
                    have HIa := hid hIa
                    have HBa := hid (HB.out.trans (hba.mono HWG.out))
                    clear hIa hba
                    go_wp2_with fail
                    refine (AnsF.text_any (strOf M) _ (by rw [size_strOf]; have := HML.out; omega)).mono ?_
                    rw [show (strOf M).data.toList = M from rfl, HRD.out]
                    rintro e wb ⟨rfl, hbb⟩
                    have HIb := hid (HIa.out.below hbb)
                    have HBb := hid (bel HBa.out hbb)
                    clear hbb
                    go_wp2_with fail
                    refine (AnsR.bad_any g [] true _ HIb.out).mono ?_
                    rintro e wc ⟨rfl, hwc⟩
                    subst hwc
                    go_wp2_with fail
                    refine (AnsR.left_any g [] true _ HIb.out).mono ?_
                    rintro e wc ⟨rfl, hwc⟩
                    subst hwc
                    go_wp2
                    go_roundw
                    case rel => exact ⟨j + 1, [], true, by omega, by go_num, by first | rfl | trivial, by first | rfl | trivial, HML2.out, HIb.out, HBb.out, fun _ => rfl⟩
                    case measure => simp [intOf]; omega
                | true =>
                  have hM0 : M = [] := HE.out (by first | rfl | trivial)
                  subst hM0
                  have hr : txt [] = none := by rfl
                  obtain ⟨t1, t2, t3⟩ := txt_none hr
                  have HVX : Hid (tt [] = []) := t1
                  have HDP : Hid (td [] = []) := t2
                  have HBD : Hid (tb [] true = true) := by show _ = _; exact tb_true _
                  have HRD := hid hr
                  have HML2 : Hid (([] : List UInt8).length ≤ 400) := by show _ ≤ _; simp
                  have hsz : (strOf []).size = 0 := rfl
                  have hx0 : (Base.strOf ([] : List UInt8)).toList = [] := by rw [Base.strOf, ByteArray.toList_mk]
                  clear hr t1 t2 t3
                  go_wp2_with fail
                  refine (AnsR.strr_any g [] true _ HI.out (by have := HML.out; omega)).mono ?_
                  rw [HVX.out, HDP.out, HBD.out]
                  rintro e wa ⟨rfl, hIa, hba⟩
                  have HIa := hid hIa
                  have HBa := hid (HB.out.trans (hba.mono HWG.out))
                  clear hIa hba
                  go_wp2_with fail
                  refine (AnsF.text_any (strOf []) _ (by rw [size_strOf]; have := HML.out; omega)).mono ?_
                  rw [show (strOf []).data.toList = [] from rfl, HRD.out]
                  rintro e wb ⟨rfl, hbb⟩
                  have HIb := hid (HIa.out.below hbb)
                  have HBb := hid (bel HBa.out hbb)
                  clear hbb
                  go_wp2_with fail
                  refine (AnsR.bad_any g [] true _ HIb.out).mono ?_
                  rintro e wc ⟨rfl, hwc⟩
                  subst hwc
                  go_wp2_with fail
                  refine (AnsR.left_any g [] true _ HIb.out).mono ?_
                  rintro e wc ⟨rfl, hwc⟩
                  subst hwc
                  go_wp2
                  go_roundw
                  case rel => exact ⟨j + 1, [], true, by omega, by go_num, by first | rfl | trivial, by first | rfl | trivial, HML2.out, HIb.out, HBb.out, fun _ => rfl⟩
                  case measure => simp [intOf]; omega
            · obtain rfl : j = m := by omega
              go_wp2
              go_ret
              exact ⟨rfl, HB.out⟩
    · have q1 : ¬ (400 : Int) < (n : Int) := by omega
      have q2 : (40 : Int) < (m : Int) := by omega
      go_enter Try.func5, Try.ntmps5
      go_wp2_with fail
      refine (awake_any _).mono ?_
      rintro e w1 ⟨rfl, hb⟩
      have HB1 := hid hb
      clear hb
      go_wp2_with fail
      refine (awake_any _).mono ?_
      rintro e w2 ⟨rfl, hb⟩
      have HB2 := hid (bel HB1.out hb)
      clear hb
      go_wp2
      go_ret
      exact ⟨rfl, HB2.out⟩
  · have q1 : (400 : Int) < (n : Int) := by omega
    go_enter Try.func5, Try.ntmps5
    go_wp2_with fail
    refine (awake_any _).mono ?_
    rintro e w1 ⟨rfl, hb⟩
    have HB1 := hid hb
    clear hb
    go_wp2_with fail
    refine (awake_any _).mono ?_
    rintro e w2 ⟨rfl, hb⟩
    have HB2 := hid (bel HB1.out hb)
    clear hb
    go_wp2
    go_ret
    exact ⟨rfl, HB2.out⟩
end Go.Proofs.Ythbpjkgbnmllkaa.Laws
