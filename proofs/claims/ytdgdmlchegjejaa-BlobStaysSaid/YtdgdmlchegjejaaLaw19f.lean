/- The walk of the law BlobStays: it returns true, whatever it is called with. -/
import Derived.Test.YtdgdmlchegjejaaBlobW
import Derived.Test.YtdgdmlchegjejaaBlobS
namespace Go.Proofs.Ytdgdmlchegjejaa.Laws
open Go.RowKit Go.Proofs.Ytdgdmlchegjejaa.Base Go.Proofs.Ytdgdmlchegjejaa.Base2 Go.Proofs.Ytdgdmlchegjejaa.Base3 Go.Proofs.Ytdgdmlchegjejaa.BlobA Go.Proofs.Ytdgdmlchegjejaa.BlobB Go.Proofs.Ytdgdmlchegjejaa.BlobC Go.Proofs.Ytdgdmlchegjejaa.BlobD Go.Proofs.Ytdgdmlchegjejaa.BlobS Go.Proofs.Ytdgdmlchegjejaa.Regs

theorem u8_next (c : UInt8) : ∃ d : UInt8, IntKind.u8.wrap ((c.toNat : Int) + 1) = (d.toNat : Int) := by
  refine ⟨UInt8.ofNat ((c.toNat + 1) % 256), ?_⟩
  have := c.toNat_lt
  simp [IntKind.wrap, IntKind.signed, IntKind.bits]
set_option linter.unusedSimpArgs false in
set_option maxHeartbeats 8000000 in
set_option maxRecDepth 100000 in
theorem BlobStays_any (A : Option Addr) (n cap : Nat) (L : List UInt8) (w : World) (hr : Rds w A n (bcells L)) (_hc : n ≤ cap) (_hm : cap ≤ maxLen) :
    Calls Try.prog 4 #[.slice A n cap] w fun e w' => e = .returned (.bool true) ∧ Below w.heap.size w w' := by
  have hl : L.length = n := by rw [← length_bcells]; exact hr.1
  have HL0 := hid hl
  have HR := hid hr
  obtain ⟨i0, hi, hz0, hz1, hz2⟩ := info_parts info_u8
  clear hl hr
  by_cases h1 : n ≤ 300
  · have p1 : ¬ (300 : Int) < (n : Int) := by omega
    go_enter Try.func4, Try.ntmps4
    go_wp2_with fail
    refine (BlobW.awake_any _).mono ?_
    rintro e w1 ⟨rfl, hb1⟩
    have hownA : (w1.alloc (.cells #[] 5)).ownsRow w1.heap.size 5 1 (.slice (some ⟨w1.heap.size, 0, none⟩) 0 0) 0 [] := World.ownsRow_made w1 #[] 0 (Nat.le_refl _) (by decide) rfl
    have hbelA : Below w1.heap.size w1 (w1.alloc (.cells #[] 5)) := (Below.refl _ _).alloc (Nat.le_refl _) _
    have HRA : Hid (Rds (w1.alloc (.cells #[] 5)) A n (bcells L)) := hid ((HR.out.below hb1).below hbelA)
    go_wp2_with (at_builtin; refine wpList_app_any rfl _ _ 22 rfl w1.heap.size 5 i0 (.int .u8 0) 1 Try.underlying22 hi hz0 hz1 hz2 rfl _ 0 [] rfl hownA hbelA hbelA.size A n cap (bcells L) rfl HRA.out (bcells_one _) (by unfold maxLen; omega) (by omega) ?_)
    intro v2 w2 hown2 hb2
    have hown2 : w2.ownsRow w1.heap.size 5 1 v2 n (bcells L) := by simpa using hown2
    clear hownA hbelA HRA
    obtain ⟨A2, c2, rfl, hc2, hm2, hr2⟩ := owns_form hown2
    have HO2 := hid (Orow.of_owns hown2)
    have HR2 := hid hr2
    clear hown2 hr2
    go_wp2_with fail
    refine (new_in A2 n c2 L (strOf [97]) _ HR2.out (by omega) (by decide)).mono ?_
    rintro e w3 ⟨gx, rfl, hgx, hblob, hb3⟩
    have HBX3 := hid hblob
    clear hblob
    go_wp2_with fail
    refine (slice_in gx n L _ (.pointer none) (.pointer none) none none (strOf [98]) _ HBX3.out.at (by omega) (Or.inl ⟨rfl, rfl⟩) (Or.inl ⟨rfl, rfl⟩) (by decide)).mono ?_
    rintro e w4 ⟨gy, rfl, hgy, hblob, hb4⟩
    have e0 : pl none 0 n = 0 := rfl
    have e1 : pl none n n = n := rfl
    rw [e0, e1, show max 0 n - 0 = n by omega, List.drop_zero, List.take_of_length_le (by rw [HL0.out]; exact Nat.le_refl _)] at hblob
    have HBY4 := hid (hblob.low hb3.size)
    clear hblob e0 e1
    have HBX4 := hid (HBX3.out.below hb4)
    have HBX4' := hid HBX4.out.at
    go_wp2_with fail
    refine (bytes_any gx n L _ _ HBX4'.out (by omega)).mono ?_
    rintro e w5 ⟨v5, rfl, hown5, hb5⟩
    obtain ⟨A5, c5, rfl, hc5, hm5, hr5⟩ := owns_form hown5
    have HO5 := hid (Orow.of_owns hown5)
    clear hown5 hr5
    have HO25 := hid (HO2.out.mid (Mid.of_below ((hb3.trans (hb4.mono hb3.size)).trans (hb5.mono (Nat.le_trans hb3.size hb4.size))) (Nat.le_refl _)))
    have hbAll : Below w.heap.size w w5 := bel (bel (bel (bel hb1 hb2) hb3) hb4) hb5
    have s1 := hb1.size
    have s2 := hb2.size
    have s3 := hb3.size
    have s4 := hb4.size
    have s5 := hb5.size
    have HM5 : Hid (Mid w2.heap.size w4.heap.size w4 w5) := hid (Mid.of_below hb5 (Nat.le_refl _))
    clear HR2 HBX3 HBX4' HO2
    go_wp2
    go_loopw [27] (fun vk wr => ∃ k : Nat, k ≤ n ∧ vk = .int .i64 (k : Int) ∧ Hid (Orow wr A2 n w1.heap.size w2.heap.size) ∧ Hid (Orow wr A5 n w4.heap.size w5.heap.size) ∧ Hid (Mid w2.heap.size w4.heap.size w4 wr) ∧ Below w.heap.size w wr) (fun vk _ => n - (intOf vk).toNat)
    case atStart => exact ⟨0, by omega, rfl, HO25, HO5, HM5, hbAll⟩
    case round =>
      obtain ⟨k, hk, rfl, HOa, HOb, HM, hbel⟩ := hrel
      by_cases hlt : k < n
      · obtain ⟨ga, ca, rfl, ha1, ha2, ha4, ha5, ha6⟩ := HOa.out.at k hlt
        obtain ⟨da, hda⟩ : ∃ d : UInt8, IntKind.u8.wrap ((ca.toNat : Int) + 1) = (d.toNat : Int) := u8_next ca
        obtain ⟨gb, cb, rfl, hb2', hb3', hb4', hb5', _⟩ := HOb.out.at k hlt
        obtain ⟨db, hdb⟩ : ∃ d : UInt8, IntKind.u8.wrap ((cb.toNat : Int) + 1) = (d.toNat : Int) := u8_next cb
        have hne : gb ≠ ga := by omega
        have hz1 : ∀ u, (wr.setCell ⟨ga, k, none⟩ u).cell? ⟨gb, k, none⟩ = some (.int .u8 (cb.toNat : Int)) := fun u => (cell_of_block (p := ⟨gb, k, none⟩) (heap_setCell_other wr ⟨ga, k, none⟩ gb u hne)).trans hb4'
        have hz2 : ∀ u, (wr.setCell ⟨ga, k, none⟩ u).frozen? ⟨gb, k, none⟩ = false := fun u => by
          have e := heap_setCell_other wr ⟨ga, k, none⟩ gb u hne
          unfold World.frozen? at hb5' ⊢
          rw [e]
          exact hb5'
        have HOa2 := hid (ha6 da)
        have HMa := hid (HM.out.set ⟨ga, k, none⟩ (.int .u8 (da.toNat : Int)) (Or.inl ha2))
        have HOb2 := hid (HOb.out.mid (w' := wr.setCell ⟨ga, k, none⟩ (.int .u8 (da.toNat : Int))) ((show Mid w4.heap.size w5.heap.size wr wr from ⟨Nat.le_refl _, fun _ _ _ => rfl⟩).set _ _ (Or.inl (by show ga < _; omega))))
        obtain ⟨gb2, cb2, hgb, _, _, _, _, hput⟩ := HOb2.out.at k hlt
        obtain rfl : gb = gb2 := by simpa using hgb
        have HOb3 := hid (hput db)
        have HOa3 := hid (HOa2.out.mid (w' := (wr.setCell ⟨ga, k, none⟩ (.int .u8 (da.toNat : Int))).setCell ⟨gb, k, none⟩ (.int .u8 (db.toNat : Int))) ((show Mid w1.heap.size w2.heap.size (wr.setCell ⟨ga, k, none⟩ (.int .u8 (da.toNat : Int))) _ from ⟨Nat.le_refl _, fun _ _ _ => rfl⟩).set _ _ (Or.inr (by show _ ≤ gb; omega))))
        have HM3 := hid (HMa.out.set ⟨gb, k, none⟩ (.int .u8 (db.toNat : Int)) (Or.inr hb2'))
        have hbel3 := (hbel.setCell (p := ⟨ga, k, none⟩) (by show w.heap.size ≤ ga; have := hb1.size; omega) (.int .u8 (da.toNat : Int))).setCell (p := ⟨gb, k, none⟩) (by show w.heap.size ≤ gb; have := hb1.size; omega) (.int .u8 (db.toNat : Int))
        clear hput hgb HOa2 HOb2 HMa HOa HOb HM hbel
        go_wp2
        go_roundw
        case rel => exact ⟨k + 1, by omega, by go_num, HOa3, HOb3, HM3, hbel3⟩
        case measure => simp [intOf]; omega
      · go_wp2
        obtain rfl : n = k := by omega
        have HBX := hid ((HBX4.out.mid HM.out).at)
        have HBY := hid ((HBY4.out.mid HM.out).at)
        have HRQ := hid (HR.out.below hbel)
        clear HOa HOb HM HO25 HO5 HM5 HBX4 HBY4
        refine wp_region_rel (by kernel_rfl) [is (.pointer (some ⟨gx, 0, none⟩)), row n (bcells L), is (.string (strOf L)), is (.slice A n cap), is (.string (strOf L)), is (.bool true), is (.bool true), is (.pointer (some ⟨gy, 0, none⟩)), row n (bcells L), is (.string (strOf L)), is (.slice A n cap), is (.string (strOf L)), is (.bool true), is (.bool true), is (.bool true)] [[], [0], [1], [], [3], [2, 4], [5], [6], [6, 7], [6, 8], [6], [6, 10], [6, 9, 11], [6, 12], [13]] (by kernel_rfl) ?_ ?_
        · refine ⟨?_, ?_, ?_, ?_, ?_, ?_, ?_, ?_, ?_, ?_, ?_, ?_, ?_, ?_, ?_, trivial⟩
          · intro t wq hbq hh K hK
            clear hh
            simp only [filled, upd, Have, is, any, row, pick, Act.put, List.setIfInBounds_toArray, List.set_cons_zero, List.set_cons_succ, Nat.reduceAdd, Nat.reduceEqDiff, reduceIte] at hK ⊢
            go_simp
            exact hK _ _ (Below.refl _ _) rfl
          · intro t wq hbq hh K hK
            have e0 := hh.1
            simp only [pick] at e0
            replace e0 : t 0 = (.pointer (some ⟨gx, 0, none⟩)) := e0
            clear hh
            simp only [filled, upd, Have, is, any, row, pick, Act.put, List.setIfInBounds_toArray, List.set_cons_zero, List.set_cons_succ, Nat.reduceAdd, Nat.reduceEqDiff, reduceIte] at hK ⊢
            simp only [e0] at hK ⊢
            go_simp
            refine (bytes_any gx n L _ _ (HBX.out.below hbq) (by omega)).mono ?_
            rintro e w8 ⟨v, rfl, hown, hb8⟩
            obtain ⟨A5, c5, rfl, hc5, hm5, hr5⟩ := owns_form hown
            exact hK _ _ hb8 ⟨_, _, rfl, hc5, hm5, hr5⟩
          · intro t wq hbq hh K hK
            have e1 := hh.1
            simp only [pick] at e1
            clear hh
            simp only [filled, upd, Have, is, any, row, pick, Act.put, List.setIfInBounds_toArray, List.set_cons_zero, List.set_cons_succ, Nat.reduceAdd, Nat.reduceEqDiff, reduceIte] at hK ⊢
            obtain ⟨A1, c1, e1, hc1, hm1, hr1⟩ := e1
            simp only [e1] at hK ⊢
            have hs := run_string_of 22 9 5 Try.underlying22 Try.underlying5 Try.underlying9 _ c1 hr1
            go_simp
            exact hK _ _ (Below.refl _ _) rfl
          · intro t wq hbq hh K hK
            clear hh
            simp only [filled, upd, Have, is, any, row, pick, Act.put, List.setIfInBounds_toArray, List.set_cons_zero, List.set_cons_succ, Nat.reduceAdd, Nat.reduceEqDiff, reduceIte] at hK ⊢
            go_simp
            exact hK _ _ (Below.refl _ _) rfl
          · intro t wq hbq hh K hK
            have e3 := hh.1
            simp only [pick] at e3
            replace e3 : t 3 = (.slice A n cap) := e3
            clear hh
            simp only [filled, upd, Have, is, any, row, pick, Act.put, List.setIfInBounds_toArray, List.set_cons_zero, List.set_cons_succ, Nat.reduceAdd, Nat.reduceEqDiff, reduceIte] at hK ⊢
            simp only [e3] at hK ⊢
            have hs := run_string_of 22 9 5 Try.underlying22 Try.underlying5 Try.underlying9 _ cap (HRQ.out.below hbq)
            go_simp
            exact hK _ _ (Below.refl _ _) rfl
          · intro t wq hbq hh K hK
            have e2 := hh.1
            simp only [pick] at e2
            replace e2 : t 2 = (.string (strOf L)) := e2
            have e4 := hh.2.1
            simp only [pick] at e4
            replace e4 : t 4 = (.string (strOf L)) := e4
            clear hh
            simp only [filled, upd, Have, is, any, row, pick, Act.put, List.setIfInBounds_toArray, List.set_cons_zero, List.set_cons_succ, Nat.reduceAdd, Nat.reduceEqDiff, reduceIte] at hK ⊢
            simp only [e2, e4] at hK ⊢
            go_simp
            exact hK _ _ (Below.refl _ _) (by simp)
          · intro t wq hbq hh K hK
            have e5 := hh.1
            simp only [pick] at e5
            replace e5 : t 5 = (.bool true) := e5
            clear hh
            simp only [filled, upd, Have, is, any, row, pick, Act.put, List.setIfInBounds_toArray, List.set_cons_zero, List.set_cons_succ, Nat.reduceAdd, Nat.reduceEqDiff, reduceIte] at hK ⊢
            simp only [e5] at hK ⊢
            go_simp
            exact hK _ _ (Below.refl _ _) rfl
          · intro t wq hbq hh K hK
            have e6 := hh.1
            simp only [pick] at e6
            replace e6 : t 6 = (.bool true) := e6
            clear hh
            simp only [filled, upd, Have, is, any, row, pick, Act.put, List.setIfInBounds_toArray, List.set_cons_zero, List.set_cons_succ, Nat.reduceAdd, Nat.reduceEqDiff, reduceIte] at hK ⊢
            simp only [e6] at hK ⊢
            go_simp
            exact hK _ _ (Below.refl _ _) rfl
          · intro t wq hbq hh K hK
            have e6 := hh.1
            simp only [pick] at e6
            replace e6 : t 6 = (.bool true) := e6
            have e7 := hh.2.1
            simp only [pick] at e7
            replace e7 : t 7 = (.pointer (some ⟨gy, 0, none⟩)) := e7
            clear hh
            simp only [filled, upd, Have, is, any, row, pick, Act.put, List.setIfInBounds_toArray, List.set_cons_zero, List.set_cons_succ, Nat.reduceAdd, Nat.reduceEqDiff, reduceIte] at hK ⊢
            simp only [e6, e7] at hK ⊢
            go_simp
            refine (bytes_any gy n L _ _ (HBY.out.below hbq) (by omega)).mono ?_
            rintro e w8 ⟨v, rfl, hown, hb8⟩
            obtain ⟨A5, c5, rfl, hc5, hm5, hr5⟩ := owns_form hown
            exact hK _ _ hb8 ⟨_, _, rfl, hc5, hm5, hr5⟩
          · intro t wq hbq hh K hK
            have e6 := hh.1
            simp only [pick] at e6
            replace e6 : t 6 = (.bool true) := e6
            have e8 := hh.2.1
            simp only [pick] at e8
            clear hh
            simp only [filled, upd, Have, is, any, row, pick, Act.put, List.setIfInBounds_toArray, List.set_cons_zero, List.set_cons_succ, Nat.reduceAdd, Nat.reduceEqDiff, reduceIte] at hK ⊢
            obtain ⟨A8, c8, e8, hc8, hm8, hr8⟩ := e8
            simp only [e6, e8] at hK ⊢
            have hs := run_string_of 22 9 5 Try.underlying22 Try.underlying5 Try.underlying9 _ c8 hr8
            go_simp
            exact hK _ _ (Below.refl _ _) rfl
          · intro t wq hbq hh K hK
            have e6 := hh.1
            simp only [pick] at e6
            replace e6 : t 6 = (.bool true) := e6
            clear hh
            simp only [filled, upd, Have, is, any, row, pick, Act.put, List.setIfInBounds_toArray, List.set_cons_zero, List.set_cons_succ, Nat.reduceAdd, Nat.reduceEqDiff, reduceIte] at hK ⊢
            simp only [e6] at hK ⊢
            go_simp
            exact hK _ _ (Below.refl _ _) rfl
          · intro t wq hbq hh K hK
            have e6 := hh.1
            simp only [pick] at e6
            replace e6 : t 6 = (.bool true) := e6
            have e10 := hh.2.1
            simp only [pick] at e10
            replace e10 : t 10 = (.slice A n cap) := e10
            clear hh
            simp only [filled, upd, Have, is, any, row, pick, Act.put, List.setIfInBounds_toArray, List.set_cons_zero, List.set_cons_succ, Nat.reduceAdd, Nat.reduceEqDiff, reduceIte] at hK ⊢
            simp only [e6, e10] at hK ⊢
            have hs := run_string_of 22 9 5 Try.underlying22 Try.underlying5 Try.underlying9 _ cap (HRQ.out.below hbq)
            go_simp
            exact hK _ _ (Below.refl _ _) rfl
          · intro t wq hbq hh K hK
            have e6 := hh.1
            simp only [pick] at e6
            replace e6 : t 6 = (.bool true) := e6
            have e9 := hh.2.1
            simp only [pick] at e9
            replace e9 : t 9 = (.string (strOf L)) := e9
            have e11 := hh.2.2.1
            simp only [pick] at e11
            replace e11 : t 11 = (.string (strOf L)) := e11
            clear hh
            simp only [filled, upd, Have, is, any, row, pick, Act.put, List.setIfInBounds_toArray, List.set_cons_zero, List.set_cons_succ, Nat.reduceAdd, Nat.reduceEqDiff, reduceIte] at hK ⊢
            simp only [e6, e9, e11] at hK ⊢
            go_simp
            exact hK _ _ (Below.refl _ _) (by simp)
          · intro t wq hbq hh K hK
            have e6 := hh.1
            simp only [pick] at e6
            replace e6 : t 6 = (.bool true) := e6
            have e12 := hh.2.1
            simp only [pick] at e12
            replace e12 : t 12 = (.bool true) := e12
            clear hh
            simp only [filled, upd, Have, is, any, row, pick, Act.put, List.setIfInBounds_toArray, List.set_cons_zero, List.set_cons_succ, Nat.reduceAdd, Nat.reduceEqDiff, reduceIte] at hK ⊢
            simp only [e6, e12] at hK ⊢
            go_simp
            exact hK _ _ (Below.refl _ _) rfl
          · intro t wq hbq hh K hK
            have e13 := hh.1
            simp only [pick] at e13
            replace e13 : t 13 = (.bool true) := e13
            clear hh
            simp only [filled, upd, Have, is, any, row, pick, Act.put, List.setIfInBounds_toArray, List.set_cons_zero, List.set_cons_succ, Nat.reduceAdd, Nat.reduceEqDiff, reduceIte] at hK ⊢
            simp only [e13] at hK ⊢
            go_simp
            exact hK _ _ (Below.refl _ _) rfl
        · intro t wq hbq hh
          have f14 := have_get hh 14 (by decide)
          simp only [pick] at f14
          replace f14 : t 14 = (.bool true) := f14
          clear hh
          simp only [filled, upd, Have, is, any, row, pick, Act.put, List.setIfInBounds_toArray, List.set_cons_zero, List.set_cons_succ, Nat.reduceAdd, Nat.reduceEqDiff, reduceIte]
          simp only [f14]
          go_wp2
          go_ret
          exact ⟨rfl, hbel.trans (hbq.mono hbel.size)⟩
  · have p1 : (300 : Int) < (n : Int) := by omega
    go_enter Try.func4, Try.ntmps4
    go_wp2_with fail
    refine (BlobW.awake_any _).mono ?_
    rintro e w1 ⟨rfl, hb1⟩
    go_wp2_with fail
    refine (BlobW.awake_any _).mono ?_
    rintro e w2 ⟨rfl, hb2⟩
    go_wp2_with fail
    go_ret
    exact ⟨rfl, bel hb1 hb2⟩
end Go.Proofs.Ytdgdmlchegjejaa.Laws
