/- The walk of the law IdentCase: it returns true, whatever it is called with. -/
import Derived.Test.YtdgdmlchegjejaaIdnS
import Derived.Test.YtdgdmlchegjejaaIdnW
import Derived.Test.YtdgdmlchegjejaaLaw21a
import Derived.Deep.DeepCutAuto
import Derived.Test.YtdgdmlchegjejaaRegt
namespace Go.Proofs.Ytdgdmlchegjejaa.Laws
open Go.RowKit Go.Proofs.Ytdgdmlchegjejaa.Base Go.Proofs.Ytdgdmlchegjejaa.Base2 Go.Proofs.Ytdgdmlchegjejaa.IdnA Go.Proofs.Ytdgdmlchegjejaa.IdnP Go.Proofs.Ytdgdmlchegjejaa.IdnR Go.Proofs.Ytdgdmlchegjejaa.Regs

/-- A fact that nothing looks into. -/
structure Shut (p : Prop) : Prop where
  out : p
theorem row_rds {w : World} {g : Nat} {t : TypeId} {L : List UInt8} {n : Nat} (h : ByteRow w g t L) (hn : L.length = n) : Rds w (some ⟨g, 0, none⟩) n (bcells L) := by
  obtain ⟨C, m, hh, _⟩ := id h
  exact Rds.of_spot (by rw [length_bcells, hn]) (Array.getElem?_eq_some_iff.1 hh).1 fun j hj => by
    have hj' : j < L.length := by rw [length_bcells] at hj; exact hj
    rw [Nat.zero_add, h.cell j hj']
    simp [bcells]
def Turned (f : Nat → UInt8) (g : Nat) (X : List UInt8) (B : Bool) (w4 wx : World) : Prop :=
  Rds wx (some ⟨g, 0, none⟩) 36 (bcells X) ∧ X.length = 36 ∧ decide (own X = X) = B ∧ ((strOf X).toList == (strOf (nm f 16)).toList) = B ∧ Below g w4 wx
theorem turned_yes {f : Nat → UInt8} {g k : Nat} {d : UInt8} {w4 wx : World} {t : TypeId} (h : ByteRow wx g t ((nm f 16).set k d)) (hl : (nm f 16).length = 36) (hk : k < (nm f 16).length) (h1 : 65 ≤ d.toNat) (h2 : d.toNat ≤ 70) (hb : Below g w4 wx) : ∃ X B, Turned f g X B w4 wx := by
  have hc := capital f k hk d h1 h2
  exact ⟨_, false, row_rds h (by rw [List.length_set]; exact hl), by rw [List.length_set]; exact hl, decide_eq_false hc.1, by rw [str_beq]; exact decide_eq_false hc.2, hb⟩
theorem turned_no {f : Nat → UInt8} {g : Nat} {w4 : World} {t : TypeId} (h : ByteRow w4 g t (nm f 16)) (hl : (nm f 16).length = 36) : ∃ X B, Turned f g X B w4 w4 :=
  ⟨_, true, row_rds h hl, hl, decide_eq_true (own_name f), by rw [str_beq]; exact decide_eq_true rfl, Below.refl _ _⟩
theorem str_beq' (a b : List UInt8) : ((strOf a).toList == (strOf b).toList) = decide (a = b) := str_beq a b
set_option linter.unusedSimpArgs false in
set_option maxHeartbeats 8000000 in
set_option maxRecDepth 100000 in
theorem IdentCase_any (z : Nat → Int) (y : Int) (s : ByteArray) (w : World) (hz : ∀ i, i < 16 → 0 ≤ z i ∧ z i ≤ 255) (hy : 0 ≤ y ∧ y ≤ 255) (hs : s.size ≤ 140737488351232) :
    Calls Try.prog 10 #[.agg #[.int .u8 (z 0), .int .u8 (z 1), .int .u8 (z 2), .int .u8 (z 3), .int .u8 (z 4), .int .u8 (z 5), .int .u8 (z 6), .int .u8 (z 7), .int .u8 (z 8), .int .u8 (z 9), .int .u8 (z 10), .int .u8 (z 11), .int .u8 (z 12), .int .u8 (z 13), .int .u8 (z 14), .int .u8 (z 15)], .int .u8 y, .string s] w fun e w' => e = .returned (.bool true) ∧ Below w.heap.size w w' := by
  obtain ⟨f, hf⟩ : ∃ f : Nat → UInt8, ∀ i, i < 16 → z i = ((f i).toNat : Int) := ⟨fun i => UInt8.ofNat (z i).toNat, fun i hi => by have := hz i hi; simp; omega⟩
  rw [hf 0 (by decide), hf 1 (by decide), hf 2 (by decide), hf 3 (by decide), hf 4 (by decide), hf 5 (by decide), hf 6 (by decide), hf 7 (by decide), hf 8 (by decide), hf 9 (by decide), hf 10 (by decide), hf 11 (by decide), hf 12 (by decide), hf 13 (by decide), hf 14 (by decide), hf 15 (by decide)]
  clear hf hz
  obtain ⟨hy0, hy1⟩ := hy
  obtain ⟨n, rfl⟩ : ∃ n : Nat, y = (n : Int) := ⟨y.toNat, by omega⟩
  have HNL : Shut ((nm f 16).length = 36) := ⟨(nm_isn f).1⟩
  have HSL : Shut (s.data.toList.length = s.size) := ⟨Array.length_toList⟩
  obtain ⟨E, hE⟩ : ∃ E : Bool, E = decide (s.data.toList = []) := ⟨_, rfl⟩
  have HE1 : Shut (decide (own (s.data.toList ++ nm f 16) = s.data.toList ++ nm f 16) = E) := ⟨by rw [hE]; exact decide_eq_decide.2 (IdnR.ahead f _)⟩
  have HE2 : Shut (decide (own (nm f 16 ++ s.data.toList) = nm f 16 ++ s.data.toList) = E) := ⟨by rw [hE]; exact decide_eq_decide.2 (IdnR.behind f _)⟩
  have htl : s.toList = s.data.toList := by obtain ⟨d⟩ := s; rw [ByteArray.toList_mk]
  have HSE : Shut ((s.toList == []) = E) := ⟨by rw [hE, htl, Bool.eq_iff_iff]; simp⟩
  have HSE2 : Shut (s.toList.isEmpty = E) := ⟨by rw [hE, htl, Bool.eq_iff_iff]; simp⟩
  clear hE htl
  obtain ⟨k, hk⟩ : ∃ k, k = n % 36 := ⟨_, rfl⟩
  have hk36 : k < 36 := by omega
  have hm2 : (n : Int) % 36 = (k : Int) := by omega
  have hm1 : (n : Int).tmod 36 = (k : Int) := by rw [Int.tmod_eq_emod_of_nonneg (by omega)]; exact hm2
  clear hk
  have HKN : Shut (k < (nm f 16).length) := ⟨by rw [HNL.out]; exact hk36⟩
  obtain ⟨c, hc⟩ : ∃ c, c = (nm f 16)[k]'HKN.out := ⟨_, rfl⟩
  have HC : Shut (c = (nm f 16)[k]'HKN.out) := ⟨hc⟩
  clear hc
  go_enter Try.func10, Try.ntmps10
  go_wp2_with fail
  generalize hw1 : w.alloc _ = w1
  have hbel1 : Below w.heap.size w w1 := by rw [← hw1]; exact (Below.refl _ _).alloc (Nat.le_refl _) _
  have HROW1 : Hid (w1.heap[w.heap.size]? = some (.cells #[.int .u8 ((f 0).toNat : Int), .int .u8 ((f 1).toNat : Int), .int .u8 ((f 2).toNat : Int), .int .u8 ((f 3).toNat : Int), .int .u8 ((f 4).toNat : Int), .int .u8 ((f 5).toNat : Int), .int .u8 ((f 6).toNat : Int), .int .u8 ((f 7).toNat : Int), .int .u8 ((f 8).toNat : Int), .int .u8 ((f 9).toNat : Int), .int .u8 ((f 10).toNat : Int), .int .u8 ((f 11).toNat : Int), .int .u8 ((f 12).toNat : Int), .int .u8 ((f 13).toNat : Int), .int .u8 ((f 14).toNat : Int), .int .u8 ((f 15).toNat : Int)] 39 (0, 0))) := by
    show _ = _
    rw [← hw1]
    exact heap_alloc_new w _
  have hs1 : w.heap.size < w1.heap.size := by rw [← hw1]; simp
  clear hw1
  refine (IdnW.awake_any _).mono ?_
  rintro e w2 ⟨rfl, hb2⟩
  have hrow2 := (hb2.block _ hs1).trans HROW1.out
  have HROW2 := hid hrow2
  have hblt2 : w.heap.size < w2.heap.size := Nat.lt_of_lt_of_le hs1 hb2.size
  have hbel2 := hbel1.trans (hb2.mono hbel1.size)
  obtain ⟨a0, a1, a2, a3, a4, a5, a6, a7, a8, a9, a10, a11, a12, a13, a14, a15⟩ := cells16 hrow2
  clear hrow2
  by_cases h100 : s.size ≤ 100
  · go_wp2_with fail
    refine (of_any f _).mono ?_
    rintro e w3 ⟨rfl, hb3⟩
    have HROW3 := hid ((hb3.block _ hblt2).trans HROW2.out)
    have hblt3 : w.heap.size < w3.heap.size := Nat.lt_of_lt_of_le hblt2 hb3.size
    have hbel3 := hbel2.trans (hb3.mono hbel2.size)
    clear a0 a1 a2 a3 a4 a5 a6 a7 a8 a9 a10 a11 a12 a13 a14 a15
    have hcv := fun (w : World) s => run_bytes_of_string (P := Try.prog) w 9 22 5 s Try.underlying9 Try.underlying22 Try.underlying5
    generalize hS16 : strOf (nm f 16) = S16
    have hsz : S16.size = 36 := by rw [← hS16, size_strOf]; exact HNL.out
    have HS16 : Shut (S16 = strOf (nm f 16)) := ⟨hS16.symm⟩
    have Hcap : Shut (36 ≤ grownCap w3 S16.size 0 5) := ⟨by have := grownCap_ge w3 S16.size 0 5; omega⟩
    have h36 : ((S16.size : Int) == 36) = true := by rw [hsz]; rfl
    have h36' : ((S16.size : Int) != 36) = false := by rw [hsz]; rfl
    have hk2 : (k : Int) < (S16.size : Int) := by omega
    have hk3 : k < S16.size := by omega
    have HSZ : Shut (S16.size = 36) := ⟨hsz⟩
    clear hsz hS16
    go_upto_region 7 with (fail)
    clear hcv
    have c1 : 36 ≤ grownCap w3 S16.size 0 5 := Hcap.out
    have c2 : grownCap w3 S16.size 0 5 ≤ maxLen := grownCap_le_maxLen _ _ _ _ (by rw [HSZ.out]; decide)
    have hrow := ByteRow.made w3 S16 5 (grownCap w3 S16.size 0 5) (by have := HSZ.out; omega)
    have hb34 : Below w3.heap.size w3 (w3.alloc (.cells (bytesRow S16 (grownCap w3 S16.size 0 5)) 5 ((bytesRow S16 (grownCap w3 S16.size 0 5)).size, (bytesRow S16 (grownCap w3 S16.size 0 5)).size + 1))).drew := ((Below.refl _ _).alloc (Nat.le_refl _) _).drew
    have HBR0 : ByteRow (w3.alloc (.cells (bytesRow S16 (grownCap w3 S16.size 0 5)) 5 ((bytesRow S16 (grownCap w3 S16.size 0 5)).size, (bytesRow S16 (grownCap w3 S16.size 0 5)).size + 1))).drew w3.heap.size 5 S16.data.toList := hrow
    clear hrow Hcap
    generalize hw4 : (w3.alloc _).drew = w4 at hb34 HBR0 ⊢
    clear hw4
    generalize grownCap w3 S16.size 0 5 = cp at c1 c2 ⊢
    have HBR : Shut (ByteRow w4 w3.heap.size 5 (nm f 16)) := ⟨by rw [HS16.out] at HBR0; exact HBR0⟩
    clear HBR0
    rw [HSZ.out]
    clear h36 h36' hk2 hk3
    have hbel4 := bel hbel3 hb34
    have hblt4 : w.heap.size < w4.heap.size := Nat.lt_of_lt_of_le hblt3 hb34.size
    have HROW4 : Shut (w4.heap[w.heap.size]? = some (.cells #[.int .u8 ((f 0).toNat : Int), .int .u8 ((f 1).toNat : Int), .int .u8 ((f 2).toNat : Int), .int .u8 ((f 3).toNat : Int), .int .u8 ((f 4).toNat : Int), .int .u8 ((f 5).toNat : Int), .int .u8 ((f 6).toNat : Int), .int .u8 ((f 7).toNat : Int), .int .u8 ((f 8).toNat : Int), .int .u8 ((f 9).toNat : Int), .int .u8 ((f 10).toNat : Int), .int .u8 ((f 11).toNat : Int), .int .u8 ((f 12).toNat : Int), .int .u8 ((f 13).toNat : Int), .int .u8 ((f 14).toNat : Int), .int .u8 ((f 15).toNat : Int)] 39 (0, 0))) := ⟨(hb34.block _ hblt3).trans HROW3.out⟩
    have hc : w4.cell? ⟨w3.heap.size, k, none⟩ = some (.int .u8 (c.toNat : Int)) := by rw [HC.out]; exact HBR.out.cell k HKN.out
    have hfz := HBR.out.frozen k HKN.out
    have hki : (k : Int) < 36 := by omega
    have hlt3 : w.heap.size ≤ w3.heap.size := by omega
    obtain ⟨o, ho⟩ : ∃ o, o = decide (97 ≤ (c.toNat : Int) ∧ (c.toNat : Int) ≤ 102) := ⟨_, rfl⟩
    have HO := Shut.mk ho
    clear ho
    go_cut [37] (fun v wx => v = .bool o ∧ wx = w4)
    case first =>
      by_cases hA1 : 97 ≤ (c.toNat : Int)
      · by_cases hA2 : (c.toNat : Int) ≤ 102
        · have HT : Shut (o = true) := ⟨by rw [HO.out]; exact decide_eq_true ⟨hA1, hA2⟩⟩
          go_wp2
          go_meet
          refine ⟨?_, rfl⟩
          rw [HT.out]
        · have hA3 : 102 < (c.toNat : Int) := by omega
          have HT : Shut (o = false) := ⟨by rw [HO.out]; exact decide_eq_false (fun h => hA2 h.2)⟩
          clear hA2
          go_wp2
          go_meet
          refine ⟨?_, rfl⟩
          rw [HT.out]
          exact congrArg Value.bool (decide_eq_false (by omega))
      · have HT : Shut (o = false) := ⟨by rw [HO.out]; exact decide_eq_false (fun h => hA1 h.1)⟩
        go_wp2
        go_meet
        refine ⟨?_, rfl⟩
        rw [HT.out]
    case rest =>
    obtain ⟨rfl, hwc⟩ := hcut
    subst hwc
    go_upto_if 37 with (fail)
    go_cut [] (fun wx => Shut (∃ X B, Turned f w3.heap.size X B wc wx))
    case first =>
      cases o with
      | true =>
        obtain ⟨hA1, hA2⟩ : 97 ≤ (c.toNat : Int) ∧ (c.toNat : Int) ≤ 102 := of_decide_eq_true HO.out.symm
        obtain ⟨d, hd⟩ : ∃ d : UInt8, (d.toNat : Int) = (c.toNat : Int) - 32 := ⟨UInt8.ofNat (c.toNat - 32), by simp; omega⟩
        have hrow5 := HBR.out.set k d
        have HT : Shut (∃ X B, Turned f w3.heap.size X B wc (wc.setCell ⟨w3.heap.size, k, none⟩ (.int .u8 (d.toNat : Int)))) :=
          ⟨turned_yes hrow5 (nm_isn f).1 HKN.out (by omega) (by omega) ((Below.refl w3.heap.size wc).setCell (p := ⟨w3.heap.size, k, none⟩) (Nat.le_refl _) _)⟩
        rw [hd] at HT
        clear hd hrow5
        go_wp2
        go_meet
        exact HT
      | false =>
        have HT : Shut (∃ X B, Turned f w3.heap.size X B wc wc) := ⟨turned_no HBR.out (nm_isn f).1⟩
        go_wp2
        go_meet
        exact HT
    case rest =>
    have HCT := hcut
    clear hcut
    obtain ⟨w5, hw5⟩ : ∃ x, x = wc := ⟨_, rfl⟩
    rw [← hw5] at HCT ⊢
    clear hw5
    obtain ⟨X, B, hX1, hX2, hX3, hX4, hb45⟩ := HCT.out
    have HRX := Shut.mk hX1
    have HXL := Shut.mk hX2
    have HBX := Shut.mk hX3
    have HXN := Shut.mk hX4
    clear hX1 hX2 hX3 hX4 HCT hc hfz
    go_upto_region 9 with (fail)
    have HROW : Shut (w5.heap[w.heap.size]? = some (.cells #[.int .u8 ((f 0).toNat : Int), .int .u8 ((f 1).toNat : Int), .int .u8 ((f 2).toNat : Int), .int .u8 ((f 3).toNat : Int), .int .u8 ((f 4).toNat : Int), .int .u8 ((f 5).toNat : Int), .int .u8 ((f 6).toNat : Int), .int .u8 ((f 7).toNat : Int), .int .u8 ((f 8).toNat : Int), .int .u8 ((f 9).toNat : Int), .int .u8 ((f 10).toNat : Int), .int .u8 ((f 11).toNat : Int), .int .u8 ((f 12).toNat : Int), .int .u8 ((f 13).toNat : Int), .int .u8 ((f 14).toNat : Int), .int .u8 ((f 15).toNat : Int)] 39 (0, 0))) := ⟨(hb45.block _ hblt3).trans HROW4.out⟩
    have hblt : w.heap.size < w5.heap.size := Nat.lt_of_lt_of_le hblt4 hb45.size
    have hbel : Below w.heap.size w w5 := hbel4.trans (hb45.mono (by omega))
    have HCAP : Shut (cp ≤ maxLen) := ⟨c2⟩
    refine wp_region_rel (by kernel_rfl) [row 36 (bcells X), is (.string (strOf X)), is (.bool B), row 36 (bcells X), is (.string (strOf X)), is (.agg #[.int .u8 ((f 0).toNat : Int), .int .u8 ((f 1).toNat : Int), .int .u8 ((f 2).toNat : Int), .int .u8 ((f 3).toNat : Int), .int .u8 ((f 4).toNat : Int), .int .u8 ((f 5).toNat : Int), .int .u8 ((f 6).toNat : Int), .int .u8 ((f 7).toNat : Int), .int .u8 ((f 8).toNat : Int), .int .u8 ((f 9).toNat : Int), .int .u8 ((f 10).toNat : Int), .int .u8 ((f 11).toNat : Int), .int .u8 ((f 12).toNat : Int), .int .u8 ((f 13).toNat : Int), .int .u8 ((f 14).toNat : Int), .int .u8 ((f 15).toNat : Int)]), is (.string (strOf (nm f 16))), is (.bool B), is (.bool true), is (.bool true), is (.string s), is (.agg #[.int .u8 ((f 0).toNat : Int), .int .u8 ((f 1).toNat : Int), .int .u8 ((f 2).toNat : Int), .int .u8 ((f 3).toNat : Int), .int .u8 ((f 4).toNat : Int), .int .u8 ((f 5).toNat : Int), .int .u8 ((f 6).toNat : Int), .int .u8 ((f 7).toNat : Int), .int .u8 ((f 8).toNat : Int), .int .u8 ((f 9).toNat : Int), .int .u8 ((f 10).toNat : Int), .int .u8 ((f 11).toNat : Int), .int .u8 ((f 12).toNat : Int), .int .u8 ((f 13).toNat : Int), .int .u8 ((f 14).toNat : Int), .int .u8 ((f 15).toNat : Int)]), is (.string (strOf (nm f 16))), is (.string (strOf (s.data.toList ++ nm f 16))), is (.bool E), is (.string s), is (.bool E), is (.bool true), is (.bool true), is (.bool true), is (.agg #[.int .u8 ((f 0).toNat : Int), .int .u8 ((f 1).toNat : Int), .int .u8 ((f 2).toNat : Int), .int .u8 ((f 3).toNat : Int), .int .u8 ((f 4).toNat : Int), .int .u8 ((f 5).toNat : Int), .int .u8 ((f 6).toNat : Int), .int .u8 ((f 7).toNat : Int), .int .u8 ((f 8).toNat : Int), .int .u8 ((f 9).toNat : Int), .int .u8 ((f 10).toNat : Int), .int .u8 ((f 11).toNat : Int), .int .u8 ((f 12).toNat : Int), .int .u8 ((f 13).toNat : Int), .int .u8 ((f 14).toNat : Int), .int .u8 ((f 15).toNat : Int)]), is (.string (strOf (nm f 16))), is (.string s), is (.string (strOf (nm f 16 ++ s.data.toList))), is (.bool E), is (.string s), is (.bool E), is (.bool true), is (.bool true), is (.bool true)] [[], [0], [1], [], [3], [], [5], [4, 6], [2, 7], [8], [9], [9], [9, 11], [9, 10, 12], [9, 13], [9], [9, 15], [9, 14, 16], [9, 17], [18], [19], [19, 20], [19], [19, 21, 22], [19, 23], [19], [19, 25], [19, 24, 26], [19, 27], [28]] (by kernel_rfl) ?_ ?_
    · refine ⟨?_, ?_, ?_, ?_, ?_, ?_, ?_, ?_, ?_, ?_, ?_, ?_, ?_, ?_, ?_, ?_, ?_, ?_, ?_, ?_, ?_, ?_, ?_, ?_, ?_, ?_, ?_, ?_, ?_, ?_, trivial⟩
      · as_aux_lemma =>
          intro t wq hbq hh K hK
          clear hh
          simp only [filled, upd, Have, is, any, row, pick, Act.put, List.setIfInBounds_toArray, List.set_cons_zero, List.set_cons_succ, Nat.reduceAdd, Nat.reduceEqDiff, reduceIte] at hK ⊢
          go_simp
          exact hK _ _ (Below.refl _ _) ⟨_, _, rfl, by omega, HCAP.out, HRX.out.below hbq⟩
      · as_aux_lemma =>
          intro t wq hbq hh K hK
          have e0 := hh.1
          simp only [pick] at e0
          clear hh
          simp only [filled, upd, Have, is, any, row, pick, Act.put, List.setIfInBounds_toArray, List.set_cons_zero, List.set_cons_succ, Nat.reduceAdd, Nat.reduceEqDiff, reduceIte] at hK ⊢
          obtain ⟨A0, c0, e0, hc0, hm0, hr0⟩ := e0
          simp only [e0] at hK ⊢
          have hsx := run_string_of 22 9 5 Try.underlying22 Try.underlying5 Try.underlying9 _ c0 hr0
          go_simp
          exact hK _ _ (Below.refl _ _) rfl
      · as_aux_lemma =>
          intro t wq hbq hh K hK
          have e1 := hh.1
          simp only [pick] at e1
          replace e1 : t 1 = (.string (strOf X)) := e1
          clear hh
          simp only [filled, upd, Have, is, any, row, pick, Act.put, List.setIfInBounds_toArray, List.set_cons_zero, List.set_cons_succ, Nat.reduceAdd, Nat.reduceEqDiff, reduceIte] at hK ⊢
          simp only [e1] at hK ⊢
          go_simp
          refine (IdnC.is_any (strOf X) _ (by rw [size_strOf, HXL.out]; omega)).mono ?_
          rintro e w5 ⟨rfl, hb5⟩
          have e1 : (strOf X).data.toList = X := rfl
          rw [e1, HBX.out]
          exact hK _ _ hb5 rfl
      · as_aux_lemma =>
          intro t wq hbq hh K hK
          clear hh
          simp only [filled, upd, Have, is, any, row, pick, Act.put, List.setIfInBounds_toArray, List.set_cons_zero, List.set_cons_succ, Nat.reduceAdd, Nat.reduceEqDiff, reduceIte] at hK ⊢
          go_simp
          exact hK _ _ (Below.refl _ _) ⟨_, _, rfl, by omega, HCAP.out, HRX.out.below hbq⟩
      · as_aux_lemma =>
          intro t wq hbq hh K hK
          have e3 := hh.1
          simp only [pick] at e3
          clear hh
          simp only [filled, upd, Have, is, any, row, pick, Act.put, List.setIfInBounds_toArray, List.set_cons_zero, List.set_cons_succ, Nat.reduceAdd, Nat.reduceEqDiff, reduceIte] at hK ⊢
          obtain ⟨A3, c3, e3, hc3, hm3, hr3⟩ := e3
          simp only [e3] at hK ⊢
          have hsx := run_string_of 22 9 5 Try.underlying22 Try.underlying5 Try.underlying9 _ c3 hr3
          go_simp
          exact hK _ _ (Below.refl _ _) rfl
      · as_aux_lemma =>
          intro t wq hbq hh K hK
          clear hh
          simp only [filled, upd, Have, is, any, row, pick, Act.put, List.setIfInBounds_toArray, List.set_cons_zero, List.set_cons_succ, Nat.reduceAdd, Nat.reduceEqDiff, reduceIte] at hK ⊢
          have hrow := (hbq.block _ hblt).trans HROW.out
          obtain ⟨a0, a1, a2, a3, a4, a5, a6, a7, a8, a9, a10, a11, a12, a13, a14, a15⟩ := cells16 hrow
          clear hrow
          go_simp
          exact hK _ _ (Below.refl _ _) rfl
      · as_aux_lemma =>
          intro t wq hbq hh K hK
          have e5 := hh.1
          simp only [pick] at e5
          replace e5 : t 5 = (.agg #[.int .u8 ((f 0).toNat : Int), .int .u8 ((f 1).toNat : Int), .int .u8 ((f 2).toNat : Int), .int .u8 ((f 3).toNat : Int), .int .u8 ((f 4).toNat : Int), .int .u8 ((f 5).toNat : Int), .int .u8 ((f 6).toNat : Int), .int .u8 ((f 7).toNat : Int), .int .u8 ((f 8).toNat : Int), .int .u8 ((f 9).toNat : Int), .int .u8 ((f 10).toNat : Int), .int .u8 ((f 11).toNat : Int), .int .u8 ((f 12).toNat : Int), .int .u8 ((f 13).toNat : Int), .int .u8 ((f 14).toNat : Int), .int .u8 ((f 15).toNat : Int)]) := e5
          clear hh
          simp only [filled, upd, Have, is, any, row, pick, Act.put, List.setIfInBounds_toArray, List.set_cons_zero, List.set_cons_succ, Nat.reduceAdd, Nat.reduceEqDiff, reduceIte] at hK ⊢
          simp only [e5] at hK ⊢
          go_simp
          refine (of_any f _).mono ?_
          rintro e w5 ⟨rfl, hb5⟩
          exact hK _ _ hb5 rfl
      · as_aux_lemma =>
          intro t wq hbq hh K hK
          have e4 := hh.1
          simp only [pick] at e4
          replace e4 : t 4 = (.string (strOf X)) := e4
          have e6 := hh.2.1
          simp only [pick] at e6
          replace e6 : t 6 = (.string (strOf (nm f 16))) := e6
          clear hh
          simp only [filled, upd, Have, is, any, row, pick, Act.put, List.setIfInBounds_toArray, List.set_cons_zero, List.set_cons_succ, Nat.reduceAdd, Nat.reduceEqDiff, reduceIte] at hK ⊢
          simp only [e4, e6] at hK ⊢
          go_simp
          exact hK _ _ (Below.refl _ _) (congrArg Value.bool HXN.out)
      · as_aux_lemma =>
          intro t wq hbq hh K hK
          have e2 := hh.1
          simp only [pick] at e2
          replace e2 : t 2 = (.bool B) := e2
          have e7 := hh.2.1
          simp only [pick] at e7
          replace e7 : t 7 = (.bool B) := e7
          clear hh
          simp only [filled, upd, Have, is, any, row, pick, Act.put, List.setIfInBounds_toArray, List.set_cons_zero, List.set_cons_succ, Nat.reduceAdd, Nat.reduceEqDiff, reduceIte] at hK ⊢
          simp only [e2, e7] at hK ⊢
          go_simp
          exact hK _ _ (Below.refl _ _) (by simp [is, pick])
      · as_aux_lemma =>
          intro t wq hbq hh K hK
          have e8 := hh.1
          simp only [pick] at e8
          replace e8 : t 8 = (.bool true) := e8
          clear hh
          simp only [filled, upd, Have, is, any, row, pick, Act.put, List.setIfInBounds_toArray, List.set_cons_zero, List.set_cons_succ, Nat.reduceAdd, Nat.reduceEqDiff, reduceIte] at hK ⊢
          simp only [e8] at hK ⊢
          go_simp
          exact hK _ _ (Below.refl _ _) rfl
      · as_aux_lemma =>
          intro t wq hbq hh K hK
          have e9 := hh.1
          simp only [pick] at e9
          replace e9 : t 9 = (.bool true) := e9
          clear hh
          simp only [filled, upd, Have, is, any, row, pick, Act.put, List.setIfInBounds_toArray, List.set_cons_zero, List.set_cons_succ, Nat.reduceAdd, Nat.reduceEqDiff, reduceIte] at hK ⊢
          simp only [e9] at hK ⊢
          go_simp
          exact hK _ _ (Below.refl _ _) rfl
      · as_aux_lemma =>
          intro t wq hbq hh K hK
          have e9 := hh.1
          simp only [pick] at e9
          replace e9 : t 9 = (.bool true) := e9
          clear hh
          simp only [filled, upd, Have, is, any, row, pick, Act.put, List.setIfInBounds_toArray, List.set_cons_zero, List.set_cons_succ, Nat.reduceAdd, Nat.reduceEqDiff, reduceIte] at hK ⊢
          simp only [e9] at hK ⊢
          have hrow := (hbq.block _ hblt).trans HROW.out
          obtain ⟨a0, a1, a2, a3, a4, a5, a6, a7, a8, a9, a10, a11, a12, a13, a14, a15⟩ := cells16 hrow
          clear hrow
          go_simp
          exact hK _ _ (Below.refl _ _) rfl
      · as_aux_lemma =>
          intro t wq hbq hh K hK
          have e9 := hh.1
          simp only [pick] at e9
          replace e9 : t 9 = (.bool true) := e9
          have e11 := hh.2.1
          simp only [pick] at e11
          replace e11 : t 11 = (.agg #[.int .u8 ((f 0).toNat : Int), .int .u8 ((f 1).toNat : Int), .int .u8 ((f 2).toNat : Int), .int .u8 ((f 3).toNat : Int), .int .u8 ((f 4).toNat : Int), .int .u8 ((f 5).toNat : Int), .int .u8 ((f 6).toNat : Int), .int .u8 ((f 7).toNat : Int), .int .u8 ((f 8).toNat : Int), .int .u8 ((f 9).toNat : Int), .int .u8 ((f 10).toNat : Int), .int .u8 ((f 11).toNat : Int), .int .u8 ((f 12).toNat : Int), .int .u8 ((f 13).toNat : Int), .int .u8 ((f 14).toNat : Int), .int .u8 ((f 15).toNat : Int)]) := e11
          clear hh
          simp only [filled, upd, Have, is, any, row, pick, Act.put, List.setIfInBounds_toArray, List.set_cons_zero, List.set_cons_succ, Nat.reduceAdd, Nat.reduceEqDiff, reduceIte] at hK ⊢
          simp only [e9, e11] at hK ⊢
          go_simp
          refine (of_any f _).mono ?_
          rintro e w5 ⟨rfl, hb5⟩
          exact hK _ _ hb5 rfl
      · as_aux_lemma =>
          intro t wq hbq hh K hK
          have e9 := hh.1
          simp only [pick] at e9
          replace e9 : t 9 = (.bool true) := e9
          have e10 := hh.2.1
          simp only [pick] at e10
          replace e10 : t 10 = (.string s) := e10
          have e12 := hh.2.2.1
          simp only [pick] at e12
          replace e12 : t 12 = (.string (strOf (nm f 16))) := e12
          clear hh
          simp only [filled, upd, Have, is, any, row, pick, Act.put, List.setIfInBounds_toArray, List.set_cons_zero, List.set_cons_succ, Nat.reduceAdd, Nat.reduceEqDiff, reduceIte] at hK ⊢
          simp only [e9, e10, e12] at hK ⊢
          have hadd : (Op.stringOp .add s (strOf (nm f 16))).run Try.prog wq = .ok (.string (strOf (s.data.toList ++ nm f 16))) wq := str_add' s (strOf (nm f 16)) wq (by rw [size_strOf, HNL.out]; omega)
          go_simp
          exact hK _ _ (Below.refl _ _) rfl
      · as_aux_lemma =>
          intro t wq hbq hh K hK
          have e9 := hh.1
          simp only [pick] at e9
          replace e9 : t 9 = (.bool true) := e9
          have e13 := hh.2.1
          simp only [pick] at e13
          replace e13 : t 13 = (.string (strOf (s.data.toList ++ nm f 16))) := e13
          clear hh
          simp only [filled, upd, Have, is, any, row, pick, Act.put, List.setIfInBounds_toArray, List.set_cons_zero, List.set_cons_succ, Nat.reduceAdd, Nat.reduceEqDiff, reduceIte] at hK ⊢
          simp only [e9, e13] at hK ⊢
          go_simp
          refine (IdnC.is_any (strOf (s.data.toList ++ nm f 16)) _ (by rw [size_strOf, List.length_append, HNL.out, HSL.out]; omega)).mono ?_
          rintro e w5 ⟨rfl, hb5⟩
          have e1 : (strOf (s.data.toList ++ nm f 16)).data.toList = s.data.toList ++ nm f 16 := rfl
          rw [e1, HE1.out]
          exact hK _ _ hb5 rfl
      · as_aux_lemma =>
          intro t wq hbq hh K hK
          have e9 := hh.1
          simp only [pick] at e9
          replace e9 : t 9 = (.bool true) := e9
          clear hh
          simp only [filled, upd, Have, is, any, row, pick, Act.put, List.setIfInBounds_toArray, List.set_cons_zero, List.set_cons_succ, Nat.reduceAdd, Nat.reduceEqDiff, reduceIte] at hK ⊢
          simp only [e9] at hK ⊢
          go_simp
          exact hK _ _ (Below.refl _ _) rfl
      · as_aux_lemma =>
          intro t wq hbq hh K hK
          have e9 := hh.1
          simp only [pick] at e9
          replace e9 : t 9 = (.bool true) := e9
          have e15 := hh.2.1
          simp only [pick] at e15
          replace e15 : t 15 = (.string s) := e15
          clear hh
          simp only [filled, upd, Have, is, any, row, pick, Act.put, List.setIfInBounds_toArray, List.set_cons_zero, List.set_cons_succ, Nat.reduceAdd, Nat.reduceEqDiff, reduceIte] at hK ⊢
          simp only [e9, e15] at hK ⊢
          go_simp
          first | exact hK _ _ (Below.refl _ _) (congrArg Value.bool HSE.out) | exact hK _ _ (Below.refl _ _) (congrArg Value.bool HSE2.out)
      · as_aux_lemma =>
          intro t wq hbq hh K hK
          have e9 := hh.1
          simp only [pick] at e9
          replace e9 : t 9 = (.bool true) := e9
          have e14 := hh.2.1
          simp only [pick] at e14
          replace e14 : t 14 = (.bool E) := e14
          have e16 := hh.2.2.1
          simp only [pick] at e16
          replace e16 : t 16 = (.bool E) := e16
          clear hh
          simp only [filled, upd, Have, is, any, row, pick, Act.put, List.setIfInBounds_toArray, List.set_cons_zero, List.set_cons_succ, Nat.reduceAdd, Nat.reduceEqDiff, reduceIte] at hK ⊢
          simp only [e9, e14, e16] at hK ⊢
          go_simp
          exact hK _ _ (Below.refl _ _) (by simp [is, pick])
      · as_aux_lemma =>
          intro t wq hbq hh K hK
          have e9 := hh.1
          simp only [pick] at e9
          replace e9 : t 9 = (.bool true) := e9
          have e17 := hh.2.1
          simp only [pick] at e17
          replace e17 : t 17 = (.bool true) := e17
          clear hh
          simp only [filled, upd, Have, is, any, row, pick, Act.put, List.setIfInBounds_toArray, List.set_cons_zero, List.set_cons_succ, Nat.reduceAdd, Nat.reduceEqDiff, reduceIte] at hK ⊢
          simp only [e9, e17] at hK ⊢
          go_simp
          exact hK _ _ (Below.refl _ _) rfl
      · as_aux_lemma =>
          intro t wq hbq hh K hK
          have e18 := hh.1
          simp only [pick] at e18
          replace e18 : t 18 = (.bool true) := e18
          clear hh
          simp only [filled, upd, Have, is, any, row, pick, Act.put, List.setIfInBounds_toArray, List.set_cons_zero, List.set_cons_succ, Nat.reduceAdd, Nat.reduceEqDiff, reduceIte] at hK ⊢
          simp only [e18] at hK ⊢
          go_simp
          exact hK _ _ (Below.refl _ _) rfl
      · as_aux_lemma =>
          intro t wq hbq hh K hK
          have e19 := hh.1
          simp only [pick] at e19
          replace e19 : t 19 = (.bool true) := e19
          clear hh
          simp only [filled, upd, Have, is, any, row, pick, Act.put, List.setIfInBounds_toArray, List.set_cons_zero, List.set_cons_succ, Nat.reduceAdd, Nat.reduceEqDiff, reduceIte] at hK ⊢
          simp only [e19] at hK ⊢
          have hrow := (hbq.block _ hblt).trans HROW.out
          obtain ⟨a0, a1, a2, a3, a4, a5, a6, a7, a8, a9, a10, a11, a12, a13, a14, a15⟩ := cells16 hrow
          clear hrow
          go_simp
          exact hK _ _ (Below.refl _ _) rfl
      · as_aux_lemma =>
          intro t wq hbq hh K hK
          have e19 := hh.1
          simp only [pick] at e19
          replace e19 : t 19 = (.bool true) := e19
          have e20 := hh.2.1
          simp only [pick] at e20
          replace e20 : t 20 = (.agg #[.int .u8 ((f 0).toNat : Int), .int .u8 ((f 1).toNat : Int), .int .u8 ((f 2).toNat : Int), .int .u8 ((f 3).toNat : Int), .int .u8 ((f 4).toNat : Int), .int .u8 ((f 5).toNat : Int), .int .u8 ((f 6).toNat : Int), .int .u8 ((f 7).toNat : Int), .int .u8 ((f 8).toNat : Int), .int .u8 ((f 9).toNat : Int), .int .u8 ((f 10).toNat : Int), .int .u8 ((f 11).toNat : Int), .int .u8 ((f 12).toNat : Int), .int .u8 ((f 13).toNat : Int), .int .u8 ((f 14).toNat : Int), .int .u8 ((f 15).toNat : Int)]) := e20
          clear hh
          simp only [filled, upd, Have, is, any, row, pick, Act.put, List.setIfInBounds_toArray, List.set_cons_zero, List.set_cons_succ, Nat.reduceAdd, Nat.reduceEqDiff, reduceIte] at hK ⊢
          simp only [e19, e20] at hK ⊢
          go_simp
          refine (of_any f _).mono ?_
          rintro e w5 ⟨rfl, hb5⟩
          exact hK _ _ hb5 rfl
      · as_aux_lemma =>
          intro t wq hbq hh K hK
          have e19 := hh.1
          simp only [pick] at e19
          replace e19 : t 19 = (.bool true) := e19
          clear hh
          simp only [filled, upd, Have, is, any, row, pick, Act.put, List.setIfInBounds_toArray, List.set_cons_zero, List.set_cons_succ, Nat.reduceAdd, Nat.reduceEqDiff, reduceIte] at hK ⊢
          simp only [e19] at hK ⊢
          go_simp
          exact hK _ _ (Below.refl _ _) rfl
      · as_aux_lemma =>
          intro t wq hbq hh K hK
          have e19 := hh.1
          simp only [pick] at e19
          replace e19 : t 19 = (.bool true) := e19
          have e21 := hh.2.1
          simp only [pick] at e21
          replace e21 : t 21 = (.string (strOf (nm f 16))) := e21
          have e22 := hh.2.2.1
          simp only [pick] at e22
          replace e22 : t 22 = (.string s) := e22
          clear hh
          simp only [filled, upd, Have, is, any, row, pick, Act.put, List.setIfInBounds_toArray, List.set_cons_zero, List.set_cons_succ, Nat.reduceAdd, Nat.reduceEqDiff, reduceIte] at hK ⊢
          simp only [e19, e21, e22] at hK ⊢
          have hadd : (Op.stringOp .add (strOf (nm f 16)) s).run Try.prog wq = .ok (.string (strOf (nm f 16 ++ s.data.toList))) wq := str_add' (strOf (nm f 16)) s wq (by rw [size_strOf, HNL.out]; omega)
          go_simp
          exact hK _ _ (Below.refl _ _) rfl
      · as_aux_lemma =>
          intro t wq hbq hh K hK
          have e19 := hh.1
          simp only [pick] at e19
          replace e19 : t 19 = (.bool true) := e19
          have e23 := hh.2.1
          simp only [pick] at e23
          replace e23 : t 23 = (.string (strOf (nm f 16 ++ s.data.toList))) := e23
          clear hh
          simp only [filled, upd, Have, is, any, row, pick, Act.put, List.setIfInBounds_toArray, List.set_cons_zero, List.set_cons_succ, Nat.reduceAdd, Nat.reduceEqDiff, reduceIte] at hK ⊢
          simp only [e19, e23] at hK ⊢
          go_simp
          refine (IdnC.is_any (strOf (nm f 16 ++ s.data.toList)) _ (by rw [size_strOf, List.length_append, HNL.out, HSL.out]; omega)).mono ?_
          rintro e w5 ⟨rfl, hb5⟩
          have e1 : (strOf (nm f 16 ++ s.data.toList)).data.toList = nm f 16 ++ s.data.toList := rfl
          rw [e1, HE2.out]
          exact hK _ _ hb5 rfl
      · as_aux_lemma =>
          intro t wq hbq hh K hK
          have e19 := hh.1
          simp only [pick] at e19
          replace e19 : t 19 = (.bool true) := e19
          clear hh
          simp only [filled, upd, Have, is, any, row, pick, Act.put, List.setIfInBounds_toArray, List.set_cons_zero, List.set_cons_succ, Nat.reduceAdd, Nat.reduceEqDiff, reduceIte] at hK ⊢
          simp only [e19] at hK ⊢
          go_simp
          exact hK _ _ (Below.refl _ _) rfl
      · as_aux_lemma =>
          intro t wq hbq hh K hK
          have e19 := hh.1
          simp only [pick] at e19
          replace e19 : t 19 = (.bool true) := e19
          have e25 := hh.2.1
          simp only [pick] at e25
          replace e25 : t 25 = (.string s) := e25
          clear hh
          simp only [filled, upd, Have, is, any, row, pick, Act.put, List.setIfInBounds_toArray, List.set_cons_zero, List.set_cons_succ, Nat.reduceAdd, Nat.reduceEqDiff, reduceIte] at hK ⊢
          simp only [e19, e25] at hK ⊢
          go_simp
          first | exact hK _ _ (Below.refl _ _) (congrArg Value.bool HSE.out) | exact hK _ _ (Below.refl _ _) (congrArg Value.bool HSE2.out)
      · as_aux_lemma =>
          intro t wq hbq hh K hK
          have e19 := hh.1
          simp only [pick] at e19
          replace e19 : t 19 = (.bool true) := e19
          have e24 := hh.2.1
          simp only [pick] at e24
          replace e24 : t 24 = (.bool E) := e24
          have e26 := hh.2.2.1
          simp only [pick] at e26
          replace e26 : t 26 = (.bool E) := e26
          clear hh
          simp only [filled, upd, Have, is, any, row, pick, Act.put, List.setIfInBounds_toArray, List.set_cons_zero, List.set_cons_succ, Nat.reduceAdd, Nat.reduceEqDiff, reduceIte] at hK ⊢
          simp only [e19, e24, e26] at hK ⊢
          go_simp
          exact hK _ _ (Below.refl _ _) (by simp [is, pick])
      · as_aux_lemma =>
          intro t wq hbq hh K hK
          have e19 := hh.1
          simp only [pick] at e19
          replace e19 : t 19 = (.bool true) := e19
          have e27 := hh.2.1
          simp only [pick] at e27
          replace e27 : t 27 = (.bool true) := e27
          clear hh
          simp only [filled, upd, Have, is, any, row, pick, Act.put, List.setIfInBounds_toArray, List.set_cons_zero, List.set_cons_succ, Nat.reduceAdd, Nat.reduceEqDiff, reduceIte] at hK ⊢
          simp only [e19, e27] at hK ⊢
          go_simp
          exact hK _ _ (Below.refl _ _) rfl
      · as_aux_lemma =>
          intro t wq hbq hh K hK
          have e28 := hh.1
          simp only [pick] at e28
          replace e28 : t 28 = (.bool true) := e28
          clear hh
          simp only [filled, upd, Have, is, any, row, pick, Act.put, List.setIfInBounds_toArray, List.set_cons_zero, List.set_cons_succ, Nat.reduceAdd, Nat.reduceEqDiff, reduceIte] at hK ⊢
          simp only [e28] at hK ⊢
          go_simp
          exact hK _ _ (Below.refl _ _) rfl
    · intro t wq hbq hh
      have f29 := have_get hh 29 (by decide)
      simp only [pick] at f29
      replace f29 : t 29 = (.bool true) := f29
      clear hh
      simp only [filled, upd, Have, is, any, row, pick, Act.put, List.setIfInBounds_toArray, List.set_cons_zero, List.set_cons_succ, Nat.reduceAdd, Nat.reduceEqDiff, reduceIte]
      simp only [f29]
      go_wp2
      go_ret
      exact ⟨rfl, hbel.trans (hbq.mono hbel.size)⟩
  · go_wp2_with fail
    refine (IdnW.awake_any _).mono ?_
    rintro e w3 ⟨rfl, hb3⟩
    go_wp2
    go_ret
    exact ⟨rfl, hbel2.trans (hb3.mono hbel2.size)⟩
end Go.Proofs.Ytdgdmlchegjejaa.Laws
