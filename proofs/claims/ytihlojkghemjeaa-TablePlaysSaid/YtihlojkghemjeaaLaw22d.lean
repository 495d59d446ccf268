/- The walk of the law TablePlays: it returns true, whatever it is called with. -/
import Derived.Test.YtihlojkghemjeaaTbJ
import Derived.Test.YtihlojkghemjeaaTbW
import Derived.Test.YtihlojkghemjeaaRegt
import Derived.Deep.DeepCutAuto
import Derived.Deep.CutBlock
namespace Go.Proofs.Ytihlojkghemjeaa.Laws
open Go.RowKit Go.Proofs.Ytihlojkghemjeaa.Base Go.Proofs.Ytihlojkghemjeaa.Base2 Go.Proofs.Ytihlojkghemjeaa.Base3 Go.Proofs.Ytihlojkghemjeaa.Regs Go.Proofs.Ytihlojkghemjeaa.TbG Go.Proofs.Ytihlojkghemjeaa.TbI Go.Proofs.Ytihlojkghemjeaa.TbH Go.Proofs.Ytihlojkghemjeaa.TbJ

set_option linter.unusedSimpArgs false in
set_option maxHeartbeats 16000000 in
set_option maxRecDepth 100000 in
theorem TablePlays_any (room : Int) (A : Option Addr) (n cap : Nat) (L : List UInt8) (A2 : Option Addr) (n2 cap2 : Nat) (N : List Int) (w : World) (hrm : -9223372036854775808 ≤ room ∧ room ≤ 9223372036854775807) (hr : Rds w A n (bcells L)) (_hc : n ≤ cap) (_hm : cap ≤ maxLen) (hr2 : Rds w A2 n2 (icells .i8 N)) (_hc2 : n2 ≤ cap2) (_hm2 : cap2 ≤ maxLen) (hN : ∀ z ∈ N, -128 ≤ z ∧ z ≤ 127) :
    Calls Try.prog 3 #[.int .i64 room, .slice A n cap, .slice A2 n2 cap2] w fun e w' => e = .returned (.bool true) ∧ Below w.heap.size w w' := by
  have hl : L.length = n := by rw [← length_bcells]; exact hr.1
  have HL0 := hid hl
  have hl2 : N.length = n2 := by have := hr2.1; simpa [icells] using this
  have HR := hid hr
  have HR2 := hid hr2
  have HN := hid hN
  obtain ⟨ih, hi, hz0, hz1, hz2⟩ := info_parts info_h
  obtain ⟨ii, ji, jz0, jz1, jz2⟩ := info_parts info_i
  clear hl hr hr2 hN
  by_cases h1 : n ≤ 150
  · have p1 : ¬ (150 : Int) < (n : Int) := by omega
    by_cases h2 : n ≤ n2
    · have p2 : ¬ (n2 : Int) < (n : Int) := by omega
      go_enter Try.func3, Try.ntmps3
      go_wp2_with fail
      refine (TbW.awake_any _).mono ?_
      rintro e w1 ⟨rfl, hb1⟩
      by_cases h3 : 1 ≤ room ∧ room ≤ 64
      · obtain ⟨r, rfl⟩ : ∃ r : Nat, room = (r : Int) := ⟨room.toNat, by omega⟩
        have q1 : ¬ (r : Int) < 1 := by omega
        have q2 : ¬ (64 : Int) < (r : Int) := by omega
        go_wp2_with fail
        refine (new_any r (by omega) (by omega) _).mono ?_
        rintro e w2 ⟨g, rfl, hT, hb2⟩
        have HT2 := hid hT
        clear hT
        go_wp2_with fail
        generalize decide (150 < (n : Int)) = d1
        generalize decide ((r : Int) < 1) = d2
        generalize decide (64 < (r : Int)) = d3
        go_loopw [11, 12, 13, 82] (fun vh vt vl vk wr => ∃ (k last : Nat) (l : List (Nat × Int)), k ≤ n ∧ vk = .int .i64 (k : Int) ∧ vl = .int .i64 (last : Int) ∧ last ≤ k ∧ l.length ≤ r ∧ Hid (Rise l last) ∧ Hid (IsT 75 77 (Value.int .i64) w1.heap.size g r last l wr) ∧ Hid (wr.ownsRow w1.heap.size 2 1 vh l.length (icells .i64 (hs l))) ∧ Hid (wr.ownsRow w1.heap.size 3 1 vt l.length (icells .i64 (ts l))) ∧ Below w1.heap.size w1 wr) (fun _ _ _ vk _ => n - (intOf vk).toNat)
        case atStart => exact ⟨0, 0, [], by omega, rfl, rfl, by omega, by simp, Rise.nil, HT2, World.ownsRow_nil _ _ _ _, World.ownsRow_nil _ _ _ _, hb2⟩
        case round =>
          obtain ⟨k, last, l, hk, rfl, rfl, hlast, hlr, HRI, HT, HOH, HOT, hbel⟩ := hrel
          by_cases hlt : k < n
          · obtain ⟨b, off, rfl, hbw, _⟩ := HR.out.spot (by omega)
            obtain ⟨b2, off2, rfl, hbw2, _⟩ := HR2.out.spot (by omega)
            obtain ⟨c, hc⟩ : ∃ c, L[k]'(by rw [HL0.out]; exact hlt) = c := ⟨_, rfl⟩
            obtain ⟨z, hz⟩ : ∃ z, N[k]'(by omega) = z := ⟨_, rfl⟩
            have hbw' : Below w.heap.size w wr := bel hb1 hbel
            have c1 : wr.cell? ⟨b, off + k, none⟩ = some (.int .u8 (c.toNat : Int)) := by rw [← hc]; exact (HR.out.below hbw').byte k (by rw [HL0.out]; exact hlt)
            have c2 : wr.cell? ⟨b2, off2 + k, none⟩ = some (.int .i8 z) := by rw [← hz]; exact (HR2.out.below hbw').int k (by omega)
            obtain ⟨hz1', hz2'⟩ : -128 ≤ z ∧ z ≤ 127 := HN.out z (by rw [← hz]; exact List.getElem_mem _)
            clear hc hz
            obtain ⟨AH, cH, rfl, hnH, hmH, hrH⟩ := owns_form HOH.out
            obtain ⟨AT, cT, rfl, hnT, hmT, hrT⟩ := owns_form HOT.out
            have HRH := hid hrH
            have HRT := hid hrT
            clear hrH hrT
            go_wp2
            go_loopw [16, 92] (fun va vj wx => ∃ j : Nat, j ≤ l.length ∧ vj = .int .i64 (j : Int) ∧ wx = wr ∧ ∃ q : Int, va = .int .i64 q ∧ Hid (q = plc (idx (l.take j) z))) (fun _ vj _ => l.length - (intOf vj).toNat)
            case atStart => exact ⟨0, by omega, rfl, rfl, -1, rfl, rfl⟩
            case round =>
              obtain ⟨j, hj, rfl, rfl, q, rfl, HQ⟩ := hrel
              by_cases hjl : j < l.length
              · obtain ⟨bh, oh, rfl, _, hch⟩ := HRH.out.spot (by omega)
                obtain ⟨hd, hhd⟩ : ∃ hd : Nat, l[j].1 = hd := ⟨_, rfl⟩
                have c3 : wr.cell? ⟨bh, oh + j, none⟩ = some (.int .i64 (hd : Int)) := by
                  have := HRH.out.int j (by rw [hs_length]; exact hjl)
                  rw [hs_get l j hjl, hhd] at this
                  exact this
                clear hch
                by_cases he : (hd : Int) = z
                · have HQ2 : Hid ((j : Int) = plc (idx (l.take (j + 1)) z)) := by
                    show _ = _
                    rw [take_hit HRI.out j hjl z (by rw [hhd]; exact he)]
                    rfl
                  go_wp2
                  go_roundw
                  case rel => exact ⟨j + 1, by omega, by go_num, by first | rfl | trivial, (j : Int), rfl, HQ2⟩
                  case measure => simp [intOf]; omega
                · have HQ2 : Hid (q = plc (idx (l.take (j + 1)) z)) := by
                    show _ = _
                    rw [take_miss l j hjl z (by rw [hhd]; exact he)]
                    exact HQ.out
                  go_wp2
                  go_roundw
                  case rel => exact ⟨j + 1, by omega, by go_num, by first | rfl | trivial, q, rfl, HQ2⟩
                  case measure => simp [intOf]; omega
              · obtain rfl : j = l.length := by omega
                rw [List.take_length] at HQ
                have hl64 : l.length ≤ 64 := by omega
                go_upto_block 4 with (fail)
                go_cut [11, 12, 13, 18, 19, 20, 21, 22, 23, 82] from 82 to 275 (fun vh vt vl _ _ _ _ _ _ vk wx => ∃ (last' : Nat) (l' : List (Nat × Int)), vk = .int .i64 (k : Int) ∧ vl = .int .i64 (last' : Int) ∧ last' ≤ k + 1 ∧ l'.length ≤ r ∧ Hid (Rise l' last') ∧ Hid (IsT 75 77 (Value.int .i64) w1.heap.size g r last' l' wx) ∧ Hid (wx.ownsRow w1.heap.size 2 1 vh l'.length (icells .i64 (hs l'))) ∧ Hid (wx.ownsRow w1.heap.size 3 1 vt l'.length (icells .i64 (ts l'))) ∧ Below w1.heap.size w1 wx)
                case first =>
                  rcases (show c.toNat % 4 = 0 ∨ c.toNat % 4 = 1 ∨ c.toNat % 4 = 2 ∨ c.toNat % 4 = 3 by omega) with h4 | h4 | h4 | h4
                  · as_aux_lemma =>
                      have m1 : (c.toNat : Int) % 4 = 0 := by omega
                      have m2 : (c.toNat : Int).tmod 4 = 0 := by rw [Int.tmod_eq_emod_of_nonneg (by omega)]; exact m1
                      go_wp2_with fail
                      by_cases hroom : l.length < r
                      · refine (put_any w1.heap.size g r last l z wr HT.out hroom (by omega) (by omega)).mono ?_
                        rintro e w5 ⟨rfl, hT5, hb5, hk5⟩
                        have HT5 := hid hT5
                        have HOH5 := hid (own_kp HOH.out hk5 (by decide) (by decide))
                        have HOT5 := hid (own_kp HOT.out hk5 (by decide) (by decide))
                        have hbel5 : Below w1.heap.size w1 w5 := hbel.trans hb5
                        have hne : ¬ (l.length : Int) = (r : Int) := by omega
                        have hneb : ((l.length : Int) == (r : Int)) = false := by simpa using hne
                        have HRI5 := hid (HRI.out.put z)
                        clear hT5 hb5 hk5 HT HOH HOT hbel
                        go_wp2_with (at_builtin; refine wpList_append_own _ rfl _ _ 32 rfl w1.heap.size 2 ih (.int .i64 0) 1 8 Try.underlying32 hi hz0 hz1 hz2 rfl (by decide) (.slice AH l.length cH) l.length (icells .i64 (hs l)) rfl (HOH5.out.alloc _) ⟨w5.heap.size, 0, none⟩ 1 1 [.int .i64 ((last : Int) + 1)] rfl rfl (fun j u hj => by rw [add_at, World.cell?_alloc_mark]; simpa using hj) (by intro u hu; simp at hu; subst hu; rfl) (by unfold maxLen; omega) (by omega) (by rw [World.size_alloc]; have := hbel5.size; omega) ?_)
                        intro v6 w6 hown6 hg6 _
                        have hbelA := hbel5.alloc hbel5.size (.cells #[.int .i64 ((last : Int) + 1)] 2)
                        have HOT6 := hid (own_grown (HOT5.out.alloc (.cells #[.int .i64 ((last : Int) + 1)] 2)) (HOH5.out.alloc (.cells #[.int .i64 ((last : Int) + 1)] 2)) (by decide) hg6)
                        have HT6 := hid (IsT.grown (by decide) (by decide) (HT5.out.below ((Below.refl _ _).alloc (Nat.le_refl _) (.cells #[.int .i64 ((last : Int) + 1)] 2))) (HOH5.out.alloc (.cells #[.int .i64 ((last : Int) + 1)] 2)) hg6)
                        have hbel6 : Below w1.heap.size w1 w6 := hbelA.grown hg6 hbelA.size (fun kk hkk => ((HOH5.out.alloc (.cells #[.int .i64 ((last : Int) + 1)] 2)).lt kk hkk).1)
                        have HO6 := hid hown6
                        clear hown6 hg6 hbelA HT5 HOH5 HOT5 hbel5
                        go_wp2_with (at_builtin; refine wpList_append_own _ rfl _ _ 34 rfl w1.heap.size 3 ii (.int .i64 0) 1 8 Try.underlying34 ji jz0 jz1 jz2 rfl (by decide) (.slice AT l.length cT) l.length (icells .i64 (ts l)) rfl (HOT6.out.alloc _) ⟨w6.heap.size, 0, none⟩ 1 1 [.int .i64 z] rfl rfl (fun j u hj => by rw [add_at, World.cell?_alloc_mark]; simpa using hj) (by intro u hu; simp at hu; subst hu; rfl) (by unfold maxLen; omega) (by omega) (by rw [World.size_alloc]; have := hbel6.size; omega) ?_)
                        intro v7 w7 hown7 hg7 _
                        have hbelB := hbel6.alloc hbel6.size (.cells #[.int .i64 z] 3)
                        have HOH7 := hid (own_grown (HO6.out.alloc (.cells #[.int .i64 z] 3)) (HOT6.out.alloc (.cells #[.int .i64 z] 3)) (by decide) hg7)
                        have HT7 := hid (IsT.grown (by decide) (by decide) (HT6.out.below ((Below.refl _ _).alloc (Nat.le_refl _) (.cells #[.int .i64 z] 3))) (HOT6.out.alloc (.cells #[.int .i64 z] 3)) hg7)
                        have hbel7 : Below w1.heap.size w1 w7 := hbelB.grown hg7 hbelB.size (fun kk hkk => ((HOT6.out.alloc (.cells #[.int .i64 z] 3)).lt kk hkk).1)
                        have HOT7 := hid hown7
                        clear hown7 hg7 hbelB HT6 HO6 HOT6 hbel6
                        go_wp2
                        go_meet
                        refine ⟨last + 1, l ++ [(last + 1, z)], rfl, by go_num, by omega, by rw [List.length_append]; exact hroom, HRI5.out, HT7.out, ?_, ?_, hbel7⟩
                        · show World.ownsRow _ _ _ _ _ _ _
                          rw [List.length_append, List.length_singleton, hs_append]
                          have e : icells .i64 (hs l ++ hs [(last + 1, z)]) = icells .i64 (hs l) ++ [.int .i64 ((last : Int) + 1)] := by simp [icells, hs]
                          rw [e]
                          exact HOH7.out
                        · show World.ownsRow _ _ _ _ _ _ _
                          rw [List.length_append, List.length_singleton, ts_append]
                          have e : icells .i64 (ts l ++ ts [(last + 1, z)]) = icells .i64 (ts l) ++ [.int .i64 z] := by simp [icells, ts]
                          rw [e]
                          exact HOT7.out
                      · refine (put_full w1.heap.size g r last l z wr HT.out (by omega) hl64).mono ?_
                        rintro e w5 ⟨rfl, hb5⟩
                        have HT5 := hid (HT.out.below hb5)
                        have HOH5 := hid (owns_below HOH.out hb5)
                        have HOT5 := hid (owns_below HOT.out hb5)
                        have hbel5 : Below w1.heap.size w1 w5 := hbel.trans (hb5.mono hbel.size)
                        have hne : (l.length : Int) = (r : Int) := by omega
                        have hneb : ((l.length : Int) == (r : Int)) = true := by simpa using hne
                        clear hb5 HT HOH HOT hbel
                        go_wp2
                        go_meet
                        exact ⟨last, l, rfl, rfl, by omega, hlr, HRI.out, HT5.out, HOH5.out, HOT5.out, hbel5⟩
                  · as_aux_lemma =>
                      have m1 : (c.toNat : Int) % 4 = 1 := by omega
                      have m2 : (c.toNat : Int).tmod 4 = 1 := by rw [Int.tmod_eq_emod_of_nonneg (by omega)]; exact m1
                      go_wp2_with fail
                      by_cases hroom : l.length < r
                      · refine (put_any w1.heap.size g r last l z wr HT.out hroom (by omega) (by omega)).mono ?_
                        rintro e w5 ⟨rfl, hT5, hb5, hk5⟩
                        have HT5 := hid hT5
                        have HOH5 := hid (own_kp HOH.out hk5 (by decide) (by decide))
                        have HOT5 := hid (own_kp HOT.out hk5 (by decide) (by decide))
                        have hbel5 : Below w1.heap.size w1 w5 := hbel.trans hb5
                        have hne : ¬ (l.length : Int) = (r : Int) := by omega
                        have hneb : ((l.length : Int) == (r : Int)) = false := by simpa using hne
                        have HRI5 := hid (HRI.out.put z)
                        clear hT5 hb5 hk5 HT HOH HOT hbel
                        go_wp2_with (at_builtin; refine wpList_append_own _ rfl _ _ 32 rfl w1.heap.size 2 ih (.int .i64 0) 1 8 Try.underlying32 hi hz0 hz1 hz2 rfl (by decide) (.slice AH l.length cH) l.length (icells .i64 (hs l)) rfl (HOH5.out.alloc _) ⟨w5.heap.size, 0, none⟩ 1 1 [.int .i64 ((last : Int) + 1)] rfl rfl (fun j u hj => by rw [add_at, World.cell?_alloc_mark]; simpa using hj) (by intro u hu; simp at hu; subst hu; rfl) (by unfold maxLen; omega) (by omega) (by rw [World.size_alloc]; have := hbel5.size; omega) ?_)
                        intro v6 w6 hown6 hg6 _
                        have hbelA := hbel5.alloc hbel5.size (.cells #[.int .i64 ((last : Int) + 1)] 2)
                        have HOT6 := hid (own_grown (HOT5.out.alloc (.cells #[.int .i64 ((last : Int) + 1)] 2)) (HOH5.out.alloc (.cells #[.int .i64 ((last : Int) + 1)] 2)) (by decide) hg6)
                        have HT6 := hid (IsT.grown (by decide) (by decide) (HT5.out.below ((Below.refl _ _).alloc (Nat.le_refl _) (.cells #[.int .i64 ((last : Int) + 1)] 2))) (HOH5.out.alloc (.cells #[.int .i64 ((last : Int) + 1)] 2)) hg6)
                        have hbel6 : Below w1.heap.size w1 w6 := hbelA.grown hg6 hbelA.size (fun kk hkk => ((HOH5.out.alloc (.cells #[.int .i64 ((last : Int) + 1)] 2)).lt kk hkk).1)
                        have HO6 := hid hown6
                        clear hown6 hg6 hbelA HT5 HOH5 HOT5 hbel5
                        go_wp2_with (at_builtin; refine wpList_append_own _ rfl _ _ 34 rfl w1.heap.size 3 ii (.int .i64 0) 1 8 Try.underlying34 ji jz0 jz1 jz2 rfl (by decide) (.slice AT l.length cT) l.length (icells .i64 (ts l)) rfl (HOT6.out.alloc _) ⟨w6.heap.size, 0, none⟩ 1 1 [.int .i64 z] rfl rfl (fun j u hj => by rw [add_at, World.cell?_alloc_mark]; simpa using hj) (by intro u hu; simp at hu; subst hu; rfl) (by unfold maxLen; omega) (by omega) (by rw [World.size_alloc]; have := hbel6.size; omega) ?_)
                        intro v7 w7 hown7 hg7 _
                        have hbelB := hbel6.alloc hbel6.size (.cells #[.int .i64 z] 3)
                        have HOH7 := hid (own_grown (HO6.out.alloc (.cells #[.int .i64 z] 3)) (HOT6.out.alloc (.cells #[.int .i64 z] 3)) (by decide) hg7)
                        have HT7 := hid (IsT.grown (by decide) (by decide) (HT6.out.below ((Below.refl _ _).alloc (Nat.le_refl _) (.cells #[.int .i64 z] 3))) (HOT6.out.alloc (.cells #[.int .i64 z] 3)) hg7)
                        have hbel7 : Below w1.heap.size w1 w7 := hbelB.grown hg7 hbelB.size (fun kk hkk => ((HOT6.out.alloc (.cells #[.int .i64 z] 3)).lt kk hkk).1)
                        have HOT7 := hid hown7
                        clear hown7 hg7 hbelB HT6 HO6 HOT6 hbel6
                        go_wp2
                        go_meet
                        refine ⟨last + 1, l ++ [(last + 1, z)], rfl, by go_num, by omega, by rw [List.length_append]; exact hroom, HRI5.out, HT7.out, ?_, ?_, hbel7⟩
                        · show World.ownsRow _ _ _ _ _ _ _
                          rw [List.length_append, List.length_singleton, hs_append]
                          have e : icells .i64 (hs l ++ hs [(last + 1, z)]) = icells .i64 (hs l) ++ [.int .i64 ((last : Int) + 1)] := by simp [icells, hs]
                          rw [e]
                          exact HOH7.out
                        · show World.ownsRow _ _ _ _ _ _ _
                          rw [List.length_append, List.length_singleton, ts_append]
                          have e : icells .i64 (ts l ++ ts [(last + 1, z)]) = icells .i64 (ts l) ++ [.int .i64 z] := by simp [icells, ts]
                          rw [e]
                          exact HOT7.out
                      · refine (put_full w1.heap.size g r last l z wr HT.out (by omega) hl64).mono ?_
                        rintro e w5 ⟨rfl, hb5⟩
                        have HT5 := hid (HT.out.below hb5)
                        have HOH5 := hid (owns_below HOH.out hb5)
                        have HOT5 := hid (owns_below HOT.out hb5)
                        have hbel5 : Below w1.heap.size w1 w5 := hbel.trans (hb5.mono hbel.size)
                        have hne : (l.length : Int) = (r : Int) := by omega
                        have hneb : ((l.length : Int) == (r : Int)) = true := by simpa using hne
                        clear hb5 HT HOH HOT hbel
                        go_wp2
                        go_meet
                        exact ⟨last, l, rfl, rfl, by omega, hlr, HRI.out, HT5.out, HOH5.out, HOT5.out, hbel5⟩
                  · as_aux_lemma =>
                      have m1 : (c.toNat : Int) % 4 = 2 := by omega
                      have m2 : (c.toNat : Int).tmod 4 = 2 := by rw [Int.tmod_eq_emod_of_nonneg (by omega)]; exact m1
                      go_wp2_with fail
                      refine (del_any w1.heap.size g r last l z wr HT.out hl64).mono ?_
                      rintro e w5 ⟨rfl, hT5, hb5, hk5⟩
                      have HT5 := hid hT5
                      have HOH5 := hid (own_kp HOH.out hk5 (by decide) (by decide))
                      have HOT5 := hid (own_kp HOT.out hk5 (by decide) (by decide))
                      have hbel5 : Below w1.heap.size w1 w5 := hbel.trans hb5
                      clear hT5 hb5 hk5 HT HOH HOT hbel
                      cases hix : idx l z with
                      | none =>
                        have hq : q = -1 := by rw [HQ.out, hix]; rfl
                        subst hq
                        have hgone : gone l z = l := by unfold gone; rw [hix]
                        rw [hgone] at HT5
                        rw [got_none hix]
                        clear hix hgone
                        go_wp2
                        go_meet
                        exact ⟨last, l, rfl, rfl, by omega, hlr, HRI.out, HT5.out, HOH5.out, HOT5.out, hbel5⟩
                      | some j =>
                        have hjl := idx_lt hix
                        have hq : q = (j : Int) := by rw [HQ.out, hix]; rfl
                        subst hq
                        have hgone : gone l z = l.eraseIdx j := by unfold gone; rw [hix]
                        rw [hgone] at HT5
                        rw [got_some hix hjl]
                        obtain ⟨A', c', e, _, _, hrT5⟩ := owns_form HOT5.out
                        injection e with e1 e2 e3
                        subst e1
                        subst e3
                        obtain ⟨A', c', e, _, _, hrH5⟩ := owns_form HOH5.out
                        injection e with e1 e2 e3
                        subst e1
                        subst e3
                        obtain ⟨bt, ot, rfl, _, _⟩ := hrT5.spot (by omega)
                        obtain ⟨bh, oh, rfl, _, _⟩ := hrH5.spot (by omega)
                        obtain ⟨x, hx⟩ : ∃ x, l[j].2 = x := ⟨_, rfl⟩
                        have c4 : w5.cell? ⟨bt, ot + j, none⟩ = some (.int .i64 x) := by
                          have := hrT5.int j (by rw [ts_length]; exact hjl)
                          rw [ts_get l j hjl, hx] at this
                          exact this
                        rw [hx]
                        have HX := hid hx
                        have HRH5 := hid hrH5
                        have hj0 : (0 : Int) ≤ (j : Int) := by omega
                        have hjli : (j : Int) < (l.length : Int) := by omega
                        clear hx hix hgone hrT5 hrH5
                        go_wp2_with fail
                        refine wp_region_rel_tail (by kernel_rfl) 9 [emp w1.heap.size 2, is (.slice (some ⟨bh, oh, none⟩) l.length cH), is (.int .i64 (j : Int)), is (.slice (some ⟨bh, oh, none⟩) j cH), ownk w1.heap.size 2 j ((icells .i64 (hs l)).take j), is (.slice (some ⟨bh, oh, none⟩) l.length cH), is (.int .i64 (j : Int)), is (.int .i64 ((j : Int) + 1)), row (l.length - (j + 1)) ((icells .i64 (hs l)).drop (j + 1))] [[], [], [], [1, 2], [0, 1, 2, 3], [], [], [6], [5, 6, 7], [0, 1, 2, 3, 4, 5, 6, 7, 8]] (by kernel_rfl) ?_ ?_
                        · refine ⟨?_, ?_, ?_, ?_, ?_, ?_, ?_, ?_, ?_, trivial⟩
                          · as_aux_lemma =>
                              intro t wq hbq hh K hK
                              clear hh
                              simp only [filled, filledN, upd, Have, is, any, row, pick, Act.put, List.setIfInBounds_toArray, List.set_cons_zero, List.set_cons_succ, Nat.reduceAdd, Nat.reduceEqDiff, reduceIte] at hK ⊢
                              go_simp
                              exact hK _ _ ((Below.refl _ _).alloc (Nat.le_refl _) _) ⟨_, rfl, Nat.le_trans hbel5.size hbq.size, by simp, heap_alloc_new _ _⟩
                          · as_aux_lemma =>
                              intro t wq hbq hh K hK
                              clear hh
                              simp only [filled, filledN, upd, Have, is, any, row, pick, Act.put, List.setIfInBounds_toArray, List.set_cons_zero, List.set_cons_succ, Nat.reduceAdd, Nat.reduceEqDiff, reduceIte] at hK ⊢
                              go_simp
                              exact hK _ _ (Below.refl _ _) rfl
                          · as_aux_lemma =>
                              intro t wq hbq hh K hK
                              clear hh
                              simp only [filled, filledN, upd, Have, is, any, row, pick, Act.put, List.setIfInBounds_toArray, List.set_cons_zero, List.set_cons_succ, Nat.reduceAdd, Nat.reduceEqDiff, reduceIte] at hK ⊢
                              go_simp
                              exact hK _ _ (Below.refl _ _) rfl
                          · as_aux_lemma =>
                              intro t wq hbq hh K hK
                              have e1 := hh.1
                              simp only [pick] at e1
                              replace e1 : t 1 = (.slice (some ⟨bh, oh, none⟩) l.length cH) := e1
                              have e2 := hh.2.1
                              simp only [pick] at e2
                              replace e2 : t 2 = (.int .i64 (j : Int)) := e2
                              clear hh
                              simp only [filled, filledN, upd, Have, is, any, row, pick, Act.put, List.setIfInBounds_toArray, List.set_cons_zero, List.set_cons_succ, Nat.reduceAdd, Nat.reduceEqDiff, reduceIte] at hK ⊢
                              simp only [e1, e2] at hK ⊢
                              have hjc : (j : Int) ≤ (cH : Int) := by omega
                              have hcz : ¬ cH = 0 := by omega
                              go_simp
                              exact hK _ _ (Below.refl _ _) rfl
                          · as_aux_lemma =>
                              intro t wq hbq hh K hK
                              have e0 := hh.1
                              simp only [pick] at e0
                              have e3 := hh.2.2.2.1
                              simp only [pick] at e3
                              replace e3 : t 3 = (.slice (some ⟨bh, oh, none⟩) j cH) := e3
                              clear hh
                              simp only [filled, filledN, upd, Have, is, any, row, pick, Act.put, List.setIfInBounds_toArray, List.set_cons_zero, List.set_cons_succ, Nat.reduceAdd, Nat.reduceEqDiff, reduceIte] at hK ⊢
                              simp only [e3] at hK ⊢
                              obtain ⟨b0, e0, hb0, hs0, hh0⟩ := e0
                              simp only [e0] at hK ⊢
                              have hrd := (HRH5.out.below hbq).upto j (by omega)
                              obtain ⟨v4, w4, hrun, ho4, hb4⟩ := app_fresh (ty := 32) Try.underlying32 hi hz0 hz1 hz2 rfl hb0 (Nat.le_trans hbel5.size hbq.size) hh0 ⟨bh, oh, none⟩ j cH ((icells .i64 (hs l)).take j) hrd.1 (fun kk u hk => by
                                  obtain ⟨hk', e⟩ := List.getElem?_eq_some_iff.1 hk
                                  obtain ⟨b', off', e1, _, hc'⟩ := hrd.2 kk hk'
                                  cases e1
                                  rw [Addr.add_lit, hc', e]) (fun u hu => icells_one _ _ u (List.mem_of_mem_take hu)) (by omega)
                              refine step_run ?_ (.tmp 205) (.tmp 208) _ _ ?_ ?_ ?_ ?_ hrun ?_
                              · rfl
                              · rfl
                              · rfl
                              · rfl
                              · rfl
                              exact hK _ _ hb4 ho4
                          · as_aux_lemma =>
                              intro t wq hbq hh K hK
                              clear hh
                              simp only [filled, filledN, upd, Have, is, any, row, pick, Act.put, List.setIfInBounds_toArray, List.set_cons_zero, List.set_cons_succ, Nat.reduceAdd, Nat.reduceEqDiff, reduceIte] at hK ⊢
                              go_simp
                              exact hK _ _ (Below.refl _ _) rfl
                          · as_aux_lemma =>
                              intro t wq hbq hh K hK
                              clear hh
                              simp only [filled, filledN, upd, Have, is, any, row, pick, Act.put, List.setIfInBounds_toArray, List.set_cons_zero, List.set_cons_succ, Nat.reduceAdd, Nat.reduceEqDiff, reduceIte] at hK ⊢
                              go_simp
                              exact hK _ _ (Below.refl _ _) rfl
                          · as_aux_lemma =>
                              intro t wq hbq hh K hK
                              have e6 := hh.1
                              simp only [pick] at e6
                              replace e6 : t 6 = (.int .i64 (j : Int)) := e6
                              clear hh
                              simp only [filled, filledN, upd, Have, is, any, row, pick, Act.put, List.setIfInBounds_toArray, List.set_cons_zero, List.set_cons_succ, Nat.reduceAdd, Nat.reduceEqDiff, reduceIte] at hK ⊢
                              simp only [e6] at hK ⊢
                              go_simp
                              first | exact hK _ _ (Below.refl _ _) rfl | exact hK _ _ (Below.refl _ _) (int_wrap (by omega) (by omega))
                          · as_aux_lemma =>
                              intro t wq hbq hh K hK
                              have e5 := hh.1
                              simp only [pick] at e5
                              replace e5 : t 5 = (.slice (some ⟨bh, oh, none⟩) l.length cH) := e5
                              have e7 := hh.2.2.1
                              simp only [pick] at e7
                              replace e7 : t 7 = (.int .i64 ((j : Int) + 1)) := e7
                              clear hh
                              simp only [filled, filledN, upd, Have, is, any, row, pick, Act.put, List.setIfInBounds_toArray, List.set_cons_zero, List.set_cons_succ, Nat.reduceAdd, Nat.reduceEqDiff, reduceIte] at hK ⊢
                              simp only [e5, e7] at hK ⊢
                              have hjc : (j : Int) + 1 ≤ (l.length : Int) := by omega
                              have hjd : (l.length : Int) ≤ (cH : Int) := by omega
                              by_cases hcj : cH = j + 1
                              · have HLJ : Hid (l.length - (j + 1) = 0) := hid (by omega)
                                have hcz : cH - (j + 1) = 0 := by omega
                                have hj1 : (0 : Int) ≤ (j : Int) + 1 := by omega
                                simp only [hcj] at hK
                                go_simp
                                exact hK _ _ (Below.refl _ _) ⟨_, _, rfl, by have := HLJ.out; omega, by omega, by rw [List.length_drop, length_icells, hs_length], fun kk hkk => by rw [List.length_drop, length_icells, hs_length] at hkk; have := HLJ.out; omega⟩
                              · have hcz : ¬ cH - (j + 1) = 0 := by omega
                                go_simp
                                exact hK _ _ (Below.refl _ _) ⟨_, _, rfl, by omega, by omega, (HRH5.out.below hbq).cut (j + 1) (by omega)⟩
                        · intro t wq hbq hh
                          have f4 := have_get hh 4 (by decide)
                          simp only [pick] at f4
                          have f8 := have_get hh 8 (by decide)
                          simp only [pick] at f8
                          clear hh
                          simp only [filled, filledN, upd, Have, is, any, row, pick, Act.put, List.setIfInBounds_toArray, List.set_cons_zero, List.set_cons_succ, Nat.reduceAdd, Nat.reduceEqDiff, reduceIte]
                          obtain ⟨A8, c8, f8, hc8, hm8, hr8⟩ := f8
                          simp only [f8]
                          replace f4 : wq.ownsRow w1.heap.size 2 1 (t 4) j ((icells .i64 (hs l)).take j) := f4
                          have hBq : w1.heap.size ≤ wq.heap.size := Nat.le_trans hbel5.size hbq.size
                          show wpList _ _ _ [_, _] _ _
                          refine wpList_app_grown rfl _ _ 32 rfl w1.heap.size 2 ih (.int .i64 0) 8 Try.underlying32 hi hz0 hz1 hz2 rfl (t 4) j _ rfl f4 hBq A8 (l.length - (j + 1)) c8 _ rfl hr8 (fun u hu => icells_one _ _ u (List.mem_of_mem_drop hu)) (by unfold maxLen; omega) (by omega) ?_
                          intro v6 w6 hown6 hg6
                          have HN6 : Hid (w6.ownsRow w1.heap.size 2 1 v6 (l.eraseIdx j).length (icells .i64 (hs (l.eraseIdx j)))) := by
                            show World.ownsRow _ _ _ _ _ _ _
                            rw [← hs_erase, List.length_eraseIdx, if_pos hjl, show l.length - 1 = j + (l.length - (j + 1)) by omega]
                            have e : icells .i64 ((hs l).take j ++ (hs l).drop (j + 1)) = (icells .i64 (hs l)).take j ++ (icells .i64 (hs l)).drop (j + 1) := by simp [icells]
                            rw [e]
                            exact hown6
                          have HX6 := hid (own_grown (owns_below HOT5.out hbq) f4 (by decide) hg6)
                          have HT7 := hid (IsT.grown (by decide) (by decide) (HT5.out.below hbq) f4 hg6)
                          have hbel7 : Below w1.heap.size w1 w6 := (hbel5.trans (hbq.mono hbel5.size)).grown hg6 hBq (fun kk hkk => (f4.lt kk hkk).1)
                          obtain ⟨AN, cN, rfl, _, _, _⟩ := owns_form HN6.out
                          clear hown6 hg6 f4 hr8 hBq
                          have HO6 := HN6
                          have HT6 := HT7
                          have hbel6 := hbel7
                          have HRT6 : Hid (Rds w6 (some ⟨bt, ot, none⟩) l.length (icells .i64 (ts l))) := by
                            obtain ⟨A', c', e, _, _, h⟩ := owns_form HX6.out
                            injection e with e1 e2 e3
                            subst e1
                            subst e3
                            exact h
                          clear HN6 HT7 hbel7 HX6 HOH5 HOT5 HT5 hbel5 HRH5
                          go_wp2_with fail
                          refine wp_region_rel_tail (by kernel_rfl) 9 [emp w1.heap.size 3, is (.slice (some ⟨bt, ot, none⟩) l.length cT), is (.int .i64 (j : Int)), is (.slice (some ⟨bt, ot, none⟩) j cT), ownk w1.heap.size 3 j ((icells .i64 (ts l)).take j), is (.slice (some ⟨bt, ot, none⟩) l.length cT), is (.int .i64 (j : Int)), is (.int .i64 ((j : Int) + 1)), row (l.length - (j + 1)) ((icells .i64 (ts l)).drop (j + 1))] [[], [], [], [1, 2], [0, 1, 2, 3], [], [], [6], [5, 6, 7], [0, 1, 2, 3, 4, 5, 6, 7, 8]] (by kernel_rfl) ?_ ?_
                          · refine ⟨?_, ?_, ?_, ?_, ?_, ?_, ?_, ?_, ?_, trivial⟩
                            · as_aux_lemma =>
                                intro t wq hbq hh K hK
                                clear hh
                                simp only [filled, filledN, upd, Have, is, any, row, pick, Act.put, List.setIfInBounds_toArray, List.set_cons_zero, List.set_cons_succ, Nat.reduceAdd, Nat.reduceEqDiff, reduceIte] at hK ⊢
                                go_simp
                                exact hK _ _ ((Below.refl _ _).alloc (Nat.le_refl _) _) ⟨_, rfl, Nat.le_trans hbel6.size hbq.size, by simp, heap_alloc_new _ _⟩
                            · as_aux_lemma =>
                                intro t wq hbq hh K hK
                                clear hh
                                simp only [filled, filledN, upd, Have, is, any, row, pick, Act.put, List.setIfInBounds_toArray, List.set_cons_zero, List.set_cons_succ, Nat.reduceAdd, Nat.reduceEqDiff, reduceIte] at hK ⊢
                                go_simp
                                exact hK _ _ (Below.refl _ _) rfl
                            · as_aux_lemma =>
                                intro t wq hbq hh K hK
                                clear hh
                                simp only [filled, filledN, upd, Have, is, any, row, pick, Act.put, List.setIfInBounds_toArray, List.set_cons_zero, List.set_cons_succ, Nat.reduceAdd, Nat.reduceEqDiff, reduceIte] at hK ⊢
                                go_simp
                                exact hK _ _ (Below.refl _ _) rfl
                            · as_aux_lemma =>
                                intro t wq hbq hh K hK
                                have e1 := hh.1
                                simp only [pick] at e1
                                replace e1 : t 1 = (.slice (some ⟨bt, ot, none⟩) l.length cT) := e1
                                have e2 := hh.2.1
                                simp only [pick] at e2
                                replace e2 : t 2 = (.int .i64 (j : Int)) := e2
                                clear hh
                                simp only [filled, filledN, upd, Have, is, any, row, pick, Act.put, List.setIfInBounds_toArray, List.set_cons_zero, List.set_cons_succ, Nat.reduceAdd, Nat.reduceEqDiff, reduceIte] at hK ⊢
                                simp only [e1, e2] at hK ⊢
                                have hjc : (j : Int) ≤ (cT : Int) := by omega
                                have hcz : ¬ cT = 0 := by omega
                                go_simp
                                exact hK _ _ (Below.refl _ _) rfl
                            · as_aux_lemma =>
                                intro t wq hbq hh K hK
                                have e0 := hh.1
                                simp only [pick] at e0
                                have e3 := hh.2.2.2.1
                                simp only [pick] at e3
                                replace e3 : t 3 = (.slice (some ⟨bt, ot, none⟩) j cT) := e3
                                clear hh
                                simp only [filled, filledN, upd, Have, is, any, row, pick, Act.put, List.setIfInBounds_toArray, List.set_cons_zero, List.set_cons_succ, Nat.reduceAdd, Nat.reduceEqDiff, reduceIte] at hK ⊢
                                simp only [e3] at hK ⊢
                                obtain ⟨b0, e0, hb0, hs0, hh0⟩ := e0
                                simp only [e0] at hK ⊢
                                have hrd := (HRT6.out.below hbq).upto j (by omega)
                                obtain ⟨v4, w4, hrun, ho4, hb4⟩ := app_fresh (ty := 34) Try.underlying34 ji jz0 jz1 jz2 rfl hb0 (Nat.le_trans hbel6.size hbq.size) hh0 ⟨bt, ot, none⟩ j cT ((icells .i64 (ts l)).take j) hrd.1 (fun kk u hk => by
                                    obtain ⟨hk', e⟩ := List.getElem?_eq_some_iff.1 hk
                                    obtain ⟨b', off', e1, _, hc'⟩ := hrd.2 kk hk'
                                    cases e1
                                    rw [Addr.add_lit, hc', e]) (fun u hu => icells_one _ _ u (List.mem_of_mem_take hu)) (by omega)
                                refine step_run ?_ (.tmp 215) (.tmp 218) _ _ ?_ ?_ ?_ ?_ hrun ?_
                                · rfl
                                · rfl
                                · rfl
                                · rfl
                                · rfl
                                exact hK _ _ hb4 ho4
                            · as_aux_lemma =>
                                intro t wq hbq hh K hK
                                clear hh
                                simp only [filled, filledN, upd, Have, is, any, row, pick, Act.put, List.setIfInBounds_toArray, List.set_cons_zero, List.set_cons_succ, Nat.reduceAdd, Nat.reduceEqDiff, reduceIte] at hK ⊢
                                go_simp
                                exact hK _ _ (Below.refl _ _) rfl
                            · as_aux_lemma =>
                                intro t wq hbq hh K hK
                                clear hh
                                simp only [filled, filledN, upd, Have, is, any, row, pick, Act.put, List.setIfInBounds_toArray, List.set_cons_zero, List.set_cons_succ, Nat.reduceAdd, Nat.reduceEqDiff, reduceIte] at hK ⊢
                                go_simp
                                exact hK _ _ (Below.refl _ _) rfl
                            · as_aux_lemma =>
                                intro t wq hbq hh K hK
                                have e6 := hh.1
                                simp only [pick] at e6
                                replace e6 : t 6 = (.int .i64 (j : Int)) := e6
                                clear hh
                                simp only [filled, filledN, upd, Have, is, any, row, pick, Act.put, List.setIfInBounds_toArray, List.set_cons_zero, List.set_cons_succ, Nat.reduceAdd, Nat.reduceEqDiff, reduceIte] at hK ⊢
                                simp only [e6] at hK ⊢
                                go_simp
                                first | exact hK _ _ (Below.refl _ _) rfl | exact hK _ _ (Below.refl _ _) (int_wrap (by omega) (by omega))
                            · as_aux_lemma =>
                                intro t wq hbq hh K hK
                                have e5 := hh.1
                                simp only [pick] at e5
                                replace e5 : t 5 = (.slice (some ⟨bt, ot, none⟩) l.length cT) := e5
                                have e7 := hh.2.2.1
                                simp only [pick] at e7
                                replace e7 : t 7 = (.int .i64 ((j : Int) + 1)) := e7
                                clear hh
                                simp only [filled, filledN, upd, Have, is, any, row, pick, Act.put, List.setIfInBounds_toArray, List.set_cons_zero, List.set_cons_succ, Nat.reduceAdd, Nat.reduceEqDiff, reduceIte] at hK ⊢
                                simp only [e5, e7] at hK ⊢
                                have hjc : (j : Int) + 1 ≤ (l.length : Int) := by omega
                                have hjd : (l.length : Int) ≤ (cT : Int) := by omega
                                by_cases hcj : cT = j + 1
                                · have HLJ : Hid (l.length - (j + 1) = 0) := hid (by omega)
                                  have hcz : cT - (j + 1) = 0 := by omega
                                  have hj1 : (0 : Int) ≤ (j : Int) + 1 := by omega
                                  simp only [hcj] at hK
                                  go_simp
                                  exact hK _ _ (Below.refl _ _) ⟨_, _, rfl, by have := HLJ.out; omega, by omega, by rw [List.length_drop, length_icells, ts_length], fun kk hkk => by rw [List.length_drop, length_icells, ts_length] at hkk; have := HLJ.out; omega⟩
                                · have hcz : ¬ cT - (j + 1) = 0 := by omega
                                  go_simp
                                  exact hK _ _ (Below.refl _ _) ⟨_, _, rfl, by omega, by omega, (HRT6.out.below hbq).cut (j + 1) (by omega)⟩
                          · intro t wq hbq hh
                            have f4 := have_get hh 4 (by decide)
                            simp only [pick] at f4
                            have f8 := have_get hh 8 (by decide)
                            simp only [pick] at f8
                            clear hh
                            simp only [filled, filledN, upd, Have, is, any, row, pick, Act.put, List.setIfInBounds_toArray, List.set_cons_zero, List.set_cons_succ, Nat.reduceAdd, Nat.reduceEqDiff, reduceIte]
                            obtain ⟨A8, c8, f8, hc8, hm8, hr8⟩ := f8
                            simp only [f8]
                            replace f4 : wq.ownsRow w1.heap.size 3 1 (t 4) j ((icells .i64 (ts l)).take j) := f4
                            have hBq : w1.heap.size ≤ wq.heap.size := Nat.le_trans hbel6.size hbq.size
                            show wpList _ _ _ [_, _] _ _
                            refine wpList_app_grown rfl _ _ 34 rfl w1.heap.size 3 ii (.int .i64 0) 8 Try.underlying34 ji jz0 jz1 jz2 rfl (t 4) j _ rfl f4 hBq A8 (l.length - (j + 1)) c8 _ rfl hr8 (fun u hu => icells_one _ _ u (List.mem_of_mem_drop hu)) (by unfold maxLen; omega) (by omega) ?_
                            intro v6 w7 hown6 hg6
                            have HN6 : Hid (w7.ownsRow w1.heap.size 3 1 v6 (l.eraseIdx j).length (icells .i64 (ts (l.eraseIdx j)))) := by
                              show World.ownsRow _ _ _ _ _ _ _
                              rw [← ts_erase, List.length_eraseIdx, if_pos hjl, show l.length - 1 = j + (l.length - (j + 1)) by omega]
                              have e : icells .i64 ((ts l).take j ++ (ts l).drop (j + 1)) = (icells .i64 (ts l)).take j ++ (icells .i64 (ts l)).drop (j + 1) := by simp [icells]
                              rw [e]
                              exact hown6
                            have HX6 := hid (own_grown (owns_below HO6.out hbq) f4 (by decide) hg6)
                            have HT7 := hid (IsT.grown (by decide) (by decide) (HT6.out.below hbq) f4 hg6)
                            have hbel7 : Below w1.heap.size w1 w7 := (hbel6.trans (hbq.mono hbel6.size)).grown hg6 hBq (fun kk hkk => (f4.lt kk hkk).1)
                            obtain ⟨AN, cN, rfl, _, _, _⟩ := owns_form HN6.out
                            clear hown6 hg6 f4 hr8 hBq
                            go_wp2
                            go_meet
                            exact ⟨last, l.eraseIdx j, rfl, rfl, by omega, by rw [List.length_eraseIdx, if_pos hjl]; omega, HRI.out.erase j, HT7.out, HX6.out, HN6.out, hbel7⟩
                  · as_aux_lemma =>
                      have m1 : (c.toNat : Int) % 4 = 3 := by omega
                      have m2 : (c.toNat : Int).tmod 4 = 3 := by rw [Int.tmod_eq_emod_of_nonneg (by omega)]; exact m1
                      go_wp2_with fail
                      refine (get_any w1.heap.size g r last l z wr HT.out hl64).mono ?_
                      rintro e w5 ⟨rfl, hb5⟩
                      have HT5 := hid (HT.out.below hb5)
                      have HOH5 := hid (owns_below HOH.out hb5)
                      have HOT5 := hid (owns_below HOT.out hb5)
                      have hbel5 : Below w1.heap.size w1 w5 := hbel.trans (hb5.mono hbel.size)
                      have HRT5 := hid (HRT.out.below hb5)
                      clear hb5 HT HOH HOT hbel
                      cases hix : idx l z with
                      | none =>
                        have hq : q = -1 := by rw [HQ.out, hix]; rfl
                        subst hq
                        rw [got_none hix]
                        clear hix
                        go_wp2
                        go_meet
                        exact ⟨last, l, rfl, rfl, by omega, hlr, HRI.out, HT5.out, HOH5.out, HOT5.out, hbel5⟩
                      | some j =>
                        have hjl := idx_lt hix
                        have hq : q = (j : Int) := by rw [HQ.out, hix]; rfl
                        subst hq
                        rw [got_some hix hjl]
                        obtain ⟨bt, ot, rfl, _, _⟩ := HRT5.out.spot (by omega)
                        obtain ⟨x, hx⟩ : ∃ x, l[j].2 = x := ⟨_, rfl⟩
                        have c4 : w5.cell? ⟨bt, ot + j, none⟩ = some (.int .i64 x) := by
                          have := HRT5.out.int j (by rw [ts_length]; exact hjl)
                          rw [ts_get l j hjl, hx] at this
                          exact this
                        rw [hx]
                        have HX := hid hx
                        have hj0 : (0 : Int) ≤ (j : Int) := by omega
                        have hjli : (j : Int) < (l.length : Int) := by omega
                        clear hx hix
                        go_wp2
                        go_meet
                        exact ⟨last, l, rfl, rfl, by omega, hlr, HRI.out, HT5.out, HOH5.out, HOT5.out, hbel5⟩
                case rest =>
                  as_aux_lemma =>
                    obtain ⟨last', l', rfl, rfl, hla', hlr', HRI', HT', HOH', HOT', hbel'⟩ := hcut
                    have hl64' : l'.length ≤ 64 := by omega
                    obtain ⟨AH', cH', rfl, _, _, hrH'⟩ := owns_form HOH'.out
                    obtain ⟨AT', cT', rfl, _, _, hrT'⟩ := owns_form HOT'.out
                    have HRH' := hid hrH'
                    have HRT' := hid hrT'
                    clear hrH' hrT'
                    go_wp2_with fail
                    refine (handles_any w1.heap.size g r last' l' _ HT'.out hl64').mono ?_
                    rintro e w8 ⟨v8, rfl, hown8, hb8⟩
                    obtain ⟨A8, c8, rfl, _, _, hr8⟩ := owns_form hown8
                    have HR8 := hid hr8
                    have HT8 := hid (HT'.out.below hb8)
                    have HOH8 := hid (owns_below HOH'.out hb8)
                    have HOT8 := hid (owns_below HOT'.out hb8)
                    have HRH8 := hid (HRH'.out.below hb8)
                    have HRT8 := hid (HRT'.out.below hb8)
                    have hbel8 : Below w1.heap.size w1 w8 := hbel'.trans (hb8.mono hbel'.size)
                    clear hown8 hr8 hb8 HT' HOH' HOT' HRH' HRT' hbel'
                    go_wp2_with fail
                    refine (len_any w1.heap.size g r last' l' _ HT8.out hl64').mono ?_
                    rintro e w9 ⟨rfl, rfl⟩
                    go_wp2_with fail
                    go_loopw [241] (fun vi wx => ∃ i : Nat, i ≤ l'.length ∧ vi = .int .i64 (i : Int) ∧ Hid (Below w9.heap.size w9 wx)) (fun vi _ => l'.length - (intOf vi).toNat)
                    case atStart => exact ⟨0, by omega, rfl, Below.refl _ _⟩
                    case round =>
                      obtain ⟨i, hi', rfl, HB⟩ := hrel
                      by_cases hil : i < l'.length
                      · obtain ⟨hd, hhd⟩ : ∃ hd : Nat, l'[i].1 = hd := ⟨_, rfl⟩
                        obtain ⟨x, hx⟩ : ∃ x, l'[i].2 = x := ⟨_, rfl⟩
                        obtain ⟨b8, o8, rfl, hs8, _⟩ := HR8.out.spot (by omega)
                        obtain ⟨bh, oh, rfl, hsh, _⟩ := HRH8.out.spot (by omega)
                        obtain ⟨bt, ot, rfl, hst, _⟩ := HRT8.out.spot (by omega)
                        have j8 := HR8.out.int i (by rw [hs_length]; exact hil)
                        have jh := HRH8.out.int i (by rw [hs_length]; exact hil)
                        have jt := HRT8.out.int i (by rw [ts_length]; exact hil)
                        rw [hs_get l' i hil, hhd] at j8 jh
                        rw [ts_get l' i hil, hx] at jt
                        have k8 := (HB.out.cell (p := ⟨b8, o8 + i, none⟩) hs8).trans j8
                        have hgot : got l' (hd : Int) = .tuple #[.int .i64 x, .bool true] := by
                          rw [← hhd, got_some (idx_at HRI'.out i hil) hil, hx]
                        have HGOT := hid hgot
                        have HJ8 := hid j8
                        have HJH := hid jh
                        have HJT := hid jt
                        have HTx := hid (HT8.out.below HB.out)
                        have HX := hid hx
                        have HHD := hid hhd
                        clear j8 jh jt hgot hx hhd
                        go_wp2_with fail
                        refine (get_any w1.heap.size g r last' l' hd _ HTx.out hl64').mono ?_
                        rintro e w10 ⟨rfl, hb10⟩
                        rw [HGOT.out]
                        have HB9 := hid (HB.out.trans (hb10.mono HB.out.size))
                        have k8 := (HB9.out.cell (p := ⟨b8, o8 + i, none⟩) hs8).trans HJ8.out
                        have kh := (HB9.out.cell (p := ⟨bh, oh + i, none⟩) hsh).trans HJH.out
                        have kt := (HB9.out.cell (p := ⟨bt, ot + i, none⟩) hst).trans HJT.out
                        have HL8 : Hid (b8 < w10.heap.size) := hid (Nat.lt_of_lt_of_le hs8 HB9.out.size)
                        have HLH : Hid (bh < w10.heap.size) := hid (Nat.lt_of_lt_of_le hsh HB9.out.size)
                        have HLT : Hid (bt < w10.heap.size) := hid (Nat.lt_of_lt_of_le hst HB9.out.size)
                        clear hb10 HB HTx
                        go_wp2_with fail
                        refine wp_region_rel (by kernel_rfl) [is (.slice (some ⟨b8, o8, none⟩) l'.length c8), is (.int .i64 (i : Int)), is (.pointer (some ⟨b8, o8 + i, none⟩)), is (.int .i64 (hd : Int)), is (.slice (some ⟨bh, oh, none⟩) l'.length cH'), is (.int .i64 (i : Int)), is (.pointer (some ⟨bh, oh + i, none⟩)), is (.int .i64 (hd : Int)), is (.bool false), is (.bool false), is (.bool true), is (.bool false), is (.bool false), is (.bool false), is (.int .i64 x), is (.slice (some ⟨bt, ot, none⟩) l'.length cT'), is (.int .i64 (i : Int)), is (.pointer (some ⟨bt, ot + i, none⟩)), is (.int .i64 x), is (.bool false), is (.bool false)] [[], [], [0, 1], [2], [], [], [4, 5], [6], [3, 7], [8], [9], [9, 10], [9, 11], [12], [13], [13], [13], [13, 15, 16], [13, 17], [13, 14, 18], [13, 19]] (by kernel_rfl) ?_ ?_
                        · refine ⟨?_, ?_, ?_, ?_, ?_, ?_, ?_, ?_, ?_, ?_, ?_, ?_, ?_, ?_, ?_, ?_, ?_, ?_, ?_, ?_, ?_, trivial⟩
                          · as_aux_lemma =>
                              intro t wq hbq hh K hK
                              clear hh
                              simp only [filled, upd, Have, is, any, row, pick, Act.put, List.setIfInBounds_toArray, List.set_cons_zero, List.set_cons_succ, Nat.reduceAdd, Nat.reduceEqDiff, reduceIte] at hK ⊢
                              go_simp
                              exact hK _ _ (Below.refl _ _) rfl
                          · as_aux_lemma =>
                              intro t wq hbq hh K hK
                              clear hh
                              simp only [filled, upd, Have, is, any, row, pick, Act.put, List.setIfInBounds_toArray, List.set_cons_zero, List.set_cons_succ, Nat.reduceAdd, Nat.reduceEqDiff, reduceIte] at hK ⊢
                              go_simp
                              exact hK _ _ (Below.refl _ _) rfl
                          · as_aux_lemma =>
                              intro t wq hbq hh K hK
                              have e0 := hh.1
                              simp only [pick] at e0
                              replace e0 : t 0 = (.slice (some ⟨b8, o8, none⟩) l'.length c8) := e0
                              have e1 := hh.2.1
                              simp only [pick] at e1
                              replace e1 : t 1 = (.int .i64 (i : Int)) := e1
                              clear hh
                              simp only [filled, upd, Have, is, any, row, pick, Act.put, List.setIfInBounds_toArray, List.set_cons_zero, List.set_cons_succ, Nat.reduceAdd, Nat.reduceEqDiff, reduceIte] at hK ⊢
                              simp only [e0, e1] at hK ⊢
                              have hki : (i : Int) < (l'.length : Int) := by omega
                              go_simp
                              exact hK _ _ (Below.refl _ _) rfl
                          · as_aux_lemma =>
                              intro t wq hbq hh K hK
                              have e2 := hh.1
                              simp only [pick] at e2
                              replace e2 : t 2 = (.pointer (some ⟨b8, o8 + i, none⟩)) := e2
                              clear hh
                              simp only [filled, upd, Have, is, any, row, pick, Act.put, List.setIfInBounds_toArray, List.set_cons_zero, List.set_cons_succ, Nat.reduceAdd, Nat.reduceEqDiff, reduceIte] at hK ⊢
                              simp only [e2] at hK ⊢
                              have hd9 := ((hbq.cell (p := ⟨b8, o8 + i, none⟩) HL8.out).trans k8)
                              go_simp
                              exact hK _ _ (Below.refl _ _) rfl
                          · as_aux_lemma =>
                              intro t wq hbq hh K hK
                              clear hh
                              simp only [filled, upd, Have, is, any, row, pick, Act.put, List.setIfInBounds_toArray, List.set_cons_zero, List.set_cons_succ, Nat.reduceAdd, Nat.reduceEqDiff, reduceIte] at hK ⊢
                              go_simp
                              exact hK _ _ (Below.refl _ _) rfl
                          · as_aux_lemma =>
                              intro t wq hbq hh K hK
                              clear hh
                              simp only [filled, upd, Have, is, any, row, pick, Act.put, List.setIfInBounds_toArray, List.set_cons_zero, List.set_cons_succ, Nat.reduceAdd, Nat.reduceEqDiff, reduceIte] at hK ⊢
                              go_simp
                              exact hK _ _ (Below.refl _ _) rfl
                          · as_aux_lemma =>
                              intro t wq hbq hh K hK
                              have e4 := hh.1
                              simp only [pick] at e4
                              replace e4 : t 4 = (.slice (some ⟨bh, oh, none⟩) l'.length cH') := e4
                              have e5 := hh.2.1
                              simp only [pick] at e5
                              replace e5 : t 5 = (.int .i64 (i : Int)) := e5
                              clear hh
                              simp only [filled, upd, Have, is, any, row, pick, Act.put, List.setIfInBounds_toArray, List.set_cons_zero, List.set_cons_succ, Nat.reduceAdd, Nat.reduceEqDiff, reduceIte] at hK ⊢
                              simp only [e4, e5] at hK ⊢
                              have hki : (i : Int) < (l'.length : Int) := by omega
                              go_simp
                              exact hK _ _ (Below.refl _ _) rfl
                          · as_aux_lemma =>
                              intro t wq hbq hh K hK
                              have e6 := hh.1
                              simp only [pick] at e6
                              replace e6 : t 6 = (.pointer (some ⟨bh, oh + i, none⟩)) := e6
                              clear hh
                              simp only [filled, upd, Have, is, any, row, pick, Act.put, List.setIfInBounds_toArray, List.set_cons_zero, List.set_cons_succ, Nat.reduceAdd, Nat.reduceEqDiff, reduceIte] at hK ⊢
                              simp only [e6] at hK ⊢
                              have hd9 := ((hbq.cell (p := ⟨bh, oh + i, none⟩) HLH.out).trans kh)
                              go_simp
                              exact hK _ _ (Below.refl _ _) rfl
                          · as_aux_lemma =>
                              intro t wq hbq hh K hK
                              have e3 := hh.1
                              simp only [pick] at e3
                              replace e3 : t 3 = (.int .i64 (hd : Int)) := e3
                              have e7 := hh.2.1
                              simp only [pick] at e7
                              replace e7 : t 7 = (.int .i64 (hd : Int)) := e7
                              clear hh
                              simp only [filled, upd, Have, is, any, row, pick, Act.put, List.setIfInBounds_toArray, List.set_cons_zero, List.set_cons_succ, Nat.reduceAdd, Nat.reduceEqDiff, reduceIte] at hK ⊢
                              simp only [e3, e7] at hK ⊢
                              go_simp
                              first | exact hK _ _ (Below.refl _ _) rfl | exact hK _ _ (Below.refl _ _) (by simp)
                          · as_aux_lemma =>
                              intro t wq hbq hh K hK
                              have e8 := hh.1
                              simp only [pick] at e8
                              replace e8 : t 8 = (.bool false) := e8
                              clear hh
                              simp only [filled, upd, Have, is, any, row, pick, Act.put, List.setIfInBounds_toArray, List.set_cons_zero, List.set_cons_succ, Nat.reduceAdd, Nat.reduceEqDiff, reduceIte] at hK ⊢
                              simp only [e8] at hK ⊢
                              go_simp
                              exact hK _ _ (Below.refl _ _) rfl
                          · as_aux_lemma =>
                              intro t wq hbq hh K hK
                              have e9 := hh.1
                              simp only [pick] at e9
                              replace e9 : t 9 = (.bool false) := e9
                              clear hh
                              simp only [filled, upd, Have, is, any, row, pick, Act.put, List.setIfInBounds_toArray, List.set_cons_zero, List.set_cons_succ, Nat.reduceAdd, Nat.reduceEqDiff, reduceIte] at hK ⊢
                              simp only [e9] at hK ⊢
                              go_simp
                              exact hK _ _ (Below.refl _ _) rfl
                          · as_aux_lemma =>
                              intro t wq hbq hh K hK
                              have e9 := hh.1
                              simp only [pick] at e9
                              replace e9 : t 9 = (.bool false) := e9
                              have e10 := hh.2.1
                              simp only [pick] at e10
                              replace e10 : t 10 = (.bool true) := e10
                              clear hh
                              simp only [filled, upd, Have, is, any, row, pick, Act.put, List.setIfInBounds_toArray, List.set_cons_zero, List.set_cons_succ, Nat.reduceAdd, Nat.reduceEqDiff, reduceIte] at hK ⊢
                              simp only [e9, e10] at hK ⊢
                              go_simp
                              exact hK _ _ (Below.refl _ _) rfl
                          · as_aux_lemma =>
                              intro t wq hbq hh K hK
                              have e9 := hh.1
                              simp only [pick] at e9
                              replace e9 : t 9 = (.bool false) := e9
                              have e11 := hh.2.1
                              simp only [pick] at e11
                              replace e11 : t 11 = (.bool false) := e11
                              clear hh
                              simp only [filled, upd, Have, is, any, row, pick, Act.put, List.setIfInBounds_toArray, List.set_cons_zero, List.set_cons_succ, Nat.reduceAdd, Nat.reduceEqDiff, reduceIte] at hK ⊢
                              simp only [e9, e11] at hK ⊢
                              go_simp
                              exact hK _ _ (Below.refl _ _) rfl
                          · as_aux_lemma =>
                              intro t wq hbq hh K hK
                              have e12 := hh.1
                              simp only [pick] at e12
                              replace e12 : t 12 = (.bool false) := e12
                              clear hh
                              simp only [filled, upd, Have, is, any, row, pick, Act.put, List.setIfInBounds_toArray, List.set_cons_zero, List.set_cons_succ, Nat.reduceAdd, Nat.reduceEqDiff, reduceIte] at hK ⊢
                              simp only [e12] at hK ⊢
                              go_simp
                              exact hK _ _ (Below.refl _ _) rfl
                          · as_aux_lemma =>
                              intro t wq hbq hh K hK
                              have e13 := hh.1
                              simp only [pick] at e13
                              replace e13 : t 13 = (.bool false) := e13
                              clear hh
                              simp only [filled, upd, Have, is, any, row, pick, Act.put, List.setIfInBounds_toArray, List.set_cons_zero, List.set_cons_succ, Nat.reduceAdd, Nat.reduceEqDiff, reduceIte] at hK ⊢
                              simp only [e13] at hK ⊢
                              go_simp
                              exact hK _ _ (Below.refl _ _) rfl
                          · as_aux_lemma =>
                              intro t wq hbq hh K hK
                              have e13 := hh.1
                              simp only [pick] at e13
                              replace e13 : t 13 = (.bool false) := e13
                              clear hh
                              simp only [filled, upd, Have, is, any, row, pick, Act.put, List.setIfInBounds_toArray, List.set_cons_zero, List.set_cons_succ, Nat.reduceAdd, Nat.reduceEqDiff, reduceIte] at hK ⊢
                              simp only [e13] at hK ⊢
                              go_simp
                              exact hK _ _ (Below.refl _ _) rfl
                          · as_aux_lemma =>
                              intro t wq hbq hh K hK
                              have e13 := hh.1
                              simp only [pick] at e13
                              replace e13 : t 13 = (.bool false) := e13
                              clear hh
                              simp only [filled, upd, Have, is, any, row, pick, Act.put, List.setIfInBounds_toArray, List.set_cons_zero, List.set_cons_succ, Nat.reduceAdd, Nat.reduceEqDiff, reduceIte] at hK ⊢
                              simp only [e13] at hK ⊢
                              go_simp
                              exact hK _ _ (Below.refl _ _) rfl
                          · as_aux_lemma =>
                              intro t wq hbq hh K hK
                              have e13 := hh.1
                              simp only [pick] at e13
                              replace e13 : t 13 = (.bool false) := e13
                              have e15 := hh.2.1
                              simp only [pick] at e15
                              replace e15 : t 15 = (.slice (some ⟨bt, ot, none⟩) l'.length cT') := e15
                              have e16 := hh.2.2.1
                              simp only [pick] at e16
                              replace e16 : t 16 = (.int .i64 (i : Int)) := e16
                              clear hh
                              simp only [filled, upd, Have, is, any, row, pick, Act.put, List.setIfInBounds_toArray, List.set_cons_zero, List.set_cons_succ, Nat.reduceAdd, Nat.reduceEqDiff, reduceIte] at hK ⊢
                              simp only [e13, e15, e16] at hK ⊢
                              have hki : (i : Int) < (l'.length : Int) := by omega
                              go_simp
                              exact hK _ _ (Below.refl _ _) rfl
                          · as_aux_lemma =>
                              intro t wq hbq hh K hK
                              have e13 := hh.1
                              simp only [pick] at e13
                              replace e13 : t 13 = (.bool false) := e13
                              have e17 := hh.2.1
                              simp only [pick] at e17
                              replace e17 : t 17 = (.pointer (some ⟨bt, ot + i, none⟩)) := e17
                              clear hh
                              simp only [filled, upd, Have, is, any, row, pick, Act.put, List.setIfInBounds_toArray, List.set_cons_zero, List.set_cons_succ, Nat.reduceAdd, Nat.reduceEqDiff, reduceIte] at hK ⊢
                              simp only [e13, e17] at hK ⊢
                              have hd9 := ((hbq.cell (p := ⟨bt, ot + i, none⟩) HLT.out).trans kt)
                              go_simp
                              exact hK _ _ (Below.refl _ _) rfl
                          · as_aux_lemma =>
                              intro t wq hbq hh K hK
                              have e13 := hh.1
                              simp only [pick] at e13
                              replace e13 : t 13 = (.bool false) := e13
                              have e14 := hh.2.1
                              simp only [pick] at e14
                              replace e14 : t 14 = (.int .i64 x) := e14
                              have e18 := hh.2.2.1
                              simp only [pick] at e18
                              replace e18 : t 18 = (.int .i64 x) := e18
                              clear hh
                              simp only [filled, upd, Have, is, any, row, pick, Act.put, List.setIfInBounds_toArray, List.set_cons_zero, List.set_cons_succ, Nat.reduceAdd, Nat.reduceEqDiff, reduceIte] at hK ⊢
                              simp only [e13, e14, e18] at hK ⊢
                              go_simp
                              first | exact hK _ _ (Below.refl _ _) rfl | exact hK _ _ (Below.refl _ _) (by simp)
                          · as_aux_lemma =>
                              intro t wq hbq hh K hK
                              have e13 := hh.1
                              simp only [pick] at e13
                              replace e13 : t 13 = (.bool false) := e13
                              have e19 := hh.2.1
                              simp only [pick] at e19
                              replace e19 : t 19 = (.bool false) := e19
                              clear hh
                              simp only [filled, upd, Have, is, any, row, pick, Act.put, List.setIfInBounds_toArray, List.set_cons_zero, List.set_cons_succ, Nat.reduceAdd, Nat.reduceEqDiff, reduceIte] at hK ⊢
                              simp only [e13, e19] at hK ⊢
                              go_simp
                              exact hK _ _ (Below.refl _ _) rfl
                        · intro t wq hbq hh
                          have f20 := have_get hh 20 (by decide)
                          simp only [pick] at f20
                          replace f20 : t 20 = (.bool false) := f20
                          clear hh
                          simp only [filled, upd, Have, is, any, row, pick, Act.put, List.setIfInBounds_toArray, List.set_cons_zero, List.set_cons_succ, Nat.reduceAdd, Nat.reduceEqDiff, reduceIte]
                          simp only [f20]
                          go_wp2
                          go_roundw
                          case rel => exact ⟨i + 1, by omega, by go_num, HB9.out.trans (hbq.mono HB9.out.size)⟩
                          case measure => simp [intOf]; omega
                      · obtain rfl : i = l'.length := by omega
                        have hT9 := hid (HT8.out.below HB.out)
                        have hH9 := hid (owns_below HOH8.out HB.out)
                        have hO9 := hid (owns_below HOT8.out HB.out)
                        have hbel9 : Below w1.heap.size w1 _ := hbel8.trans (HB.out.mono hbel8.size)
                        clear HT8 HOH8 HOT8 HR8 HRH8 HRT8
                        go_wp2
                        go_roundw
                        case rel => exact ⟨k + 1, last', l', by omega, by go_num, rfl, by omega, hlr', HRI'.out, hT9.out, hH9.out, hO9.out, hbel9⟩
                        case measure => simp [intOf]; omega
          · have hkn : k = n := by omega
            go_wp2
            go_ret
            exact ⟨rfl, bel hb1 hbel⟩
      · have hbad : room < 1 ∨ 64 < room := by omega
        rcases (show room < 1 ∨ (¬ room < 1 ∧ 64 < room) by omega) with h4 | ⟨h4, h5⟩
        all_goals
          go_wp2_with fail
          refine (new_bad room hbad _).mono ?_
          rintro e w2 ⟨rfl, hb2⟩
          go_wp2_with fail
          refine (TbH.put_nil 1 _).mono ?_
          rintro e w3 ⟨rfl, hb3⟩
          go_wp2_with fail
          refine (len_nil _).mono ?_
          rintro e w4 ⟨rfl, hb4⟩
          go_wp2_with fail
          refine (handles_nil _).mono ?_
          rintro e w5 ⟨rfl, hb5⟩
          go_wp2
          go_ret
          exact ⟨rfl, bel (bel (bel (bel hb1 hb2) hb3) hb4) hb5⟩
    · have p2 : (n2 : Int) < (n : Int) := by omega
      go_enter Try.func3, Try.ntmps3
      go_wp2_with fail
      refine (TbW.awake_any _).mono ?_
      rintro e w1 ⟨rfl, hb1⟩
      go_wp2_with fail
      refine (TbW.awake_any _).mono ?_
      rintro e w2 ⟨rfl, hb2⟩
      go_wp2_with fail
      go_ret
      exact ⟨rfl, bel hb1 hb2⟩
  · have p1 : (150 : Int) < (n : Int) := by omega
    go_enter Try.func3, Try.ntmps3
    go_wp2_with fail
    refine (TbW.awake_any _).mono ?_
    rintro e w1 ⟨rfl, hb1⟩
    go_wp2_with fail
    refine (TbW.awake_any _).mono ?_
    rintro e w2 ⟨rfl, hb2⟩
    go_wp2_with fail
    go_ret
    exact ⟨rfl, bel hb1 hb2⟩
end Go.Proofs.Ytihlojkghemjeaa.Laws
