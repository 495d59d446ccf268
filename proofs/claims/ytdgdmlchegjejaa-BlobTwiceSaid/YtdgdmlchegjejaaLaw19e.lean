/- The walk of the law BlobTwice: it returns true, whatever it is called with. -/
import Derived.Test.YtdgdmlchegjejaaBlobW
import Derived.Test.YtdgdmlchegjejaaRegg
namespace Go.Proofs.Ytdgdmlchegjejaa.Laws
open Go.RowKit Go.Proofs.Ytdgdmlchegjejaa.Base Go.Proofs.Ytdgdmlchegjejaa.Base2 Go.Proofs.Ytdgdmlchegjejaa.BlobA Go.Proofs.Ytdgdmlchegjejaa.BlobB Go.Proofs.Ytdgdmlchegjejaa.BlobC Go.Proofs.Ytdgdmlchegjejaa.BlobD Go.Proofs.Ytdgdmlchegjejaa.Regs

theorem pl_min (k l n : Nat) : pl (some (k : Int)) l n = min k n := by
  unfold pl plc
  simp only
  rw [if_neg (by omega)]
  simp
/-- Two boxes that the region lays and fills, by what has been done. -/
def Duo (w0 : World) (B : Nat) (x y : Int) (L : Nat → Bool) (t : Nat → Value) (w : World) : Prop :=
  Below B w0 w ∧ (L 18 = true → ∃ p, t 18 = .pointer (some ⟨p, 0, none⟩) ∧ B ≤ p ∧ w.heap[p]? = some (.cells #[.int .i64 (if L 20 = true then x else 0)] 2 (0, 0))) ∧
    (L 19 = true → ∃ p, t 19 = .pointer (some ⟨p, 0, none⟩) ∧ B ≤ p ∧ w.heap[p]? = some (.cells #[.int .i64 (if L 21 = true then y else 0)] 2 (0, 0))) ∧
    (L 18 = true → L 19 = true → t 18 ≠ t 19)
section
variable {w0 : World} {B : Nat} {x y : Int} {L : Nat → Bool} {t : Nat → Value} {v : Value} {w : World}
theorem upd_ne (t : Nat → Value) {i k : Nat} (v : Value) (h : k ≠ i) : upd t i v k = t k := by simp [upd, h]
theorem upd_self (t : Nat → Value) (i : Nat) (v : Value) : upd t i v i = v := by simp [upd]
theorem stab2 (i : Nat) (hi : (i == 18 || i == 19 || i == 20 || i == 21) = false) {w' : World} (hb : Below w.heap.size w w') (hB : B ≤ w.heap.size) (hG : Duo w0 B x y L t w) : Duo w0 B x y (did L i) (upd t i v) w' := by
  simp only [Bool.or_eq_false_iff, beq_eq_false_iff_ne] at hi
  obtain ⟨⟨⟨h1, h2⟩, h3⟩, h4⟩ := hi
  obtain ⟨k1, k2, k3, k4⟩ := hG
  unfold Duo
  rw [did_ne L (Ne.symm h1), did_ne L (Ne.symm h2), did_ne L (Ne.symm h3), did_ne L (Ne.symm h4), upd_ne t v (Ne.symm h1), upd_ne t v (Ne.symm h2)]
  refine ⟨k1.trans (hb.mono hB), fun h => ?_, fun h => ?_, k4⟩
  · obtain ⟨p, e1, e2, e3⟩ := k2 h
    exact ⟨p, e1, e2, (hb.block _ (Array.getElem?_eq_some_iff.1 e3).1).trans e3⟩
  · obtain ⟨p, e1, e2, e3⟩ := k3 h
    exact ⟨p, e1, e2, (hb.block _ (Array.getElem?_eq_some_iff.1 e3).1).trans e3⟩
theorem duo_a (h20 : L 20 = false) (hB : B ≤ w.heap.size) (hG : Duo w0 B x y L t w) : Duo w0 B x y (did L 18) (upd t 18 (.pointer (some ⟨w.heap.size, 0, none⟩))) (w.alloc (.cells #[.int .i64 0] 2 (0, 0))) := by
  obtain ⟨k1, k2, k3, k4⟩ := hG
  unfold Duo
  rw [did_self, did_ne L (show (19 : Nat) ≠ 18 by decide), did_ne L (show (20 : Nat) ≠ 18 by decide), did_ne L (show (21 : Nat) ≠ 18 by decide), upd_self, upd_ne t _ (show (19 : Nat) ≠ 18 by decide)]
  refine ⟨k1.alloc hB _, fun _ => ⟨_, rfl, hB, ?_⟩, fun h => ?_, fun _ h e => ?_⟩
  · rw [heap_alloc_new, h20]; rfl
  · obtain ⟨p, e1, e2, e3⟩ := k3 h
    exact ⟨p, e1, e2, (heap_alloc_old w _ (Array.getElem?_eq_some_iff.1 e3).1).trans e3⟩
  · obtain ⟨p, e1, e2, e3⟩ := k3 h
    have hp := (Array.getElem?_eq_some_iff.1 e3).1
    rw [e1] at e
    have e9 := congrArg (fun v => match v with | Value.pointer (some a) => a.block | _ => 0) e
    simp only at e9
    omega
theorem duo_b (h21 : L 21 = false) (hB : B ≤ w.heap.size) (hG : Duo w0 B x y L t w) : Duo w0 B x y (did L 19) (upd t 19 (.pointer (some ⟨w.heap.size, 0, none⟩))) (w.alloc (.cells #[.int .i64 0] 2 (0, 0))) := by
  obtain ⟨k1, k2, k3, k4⟩ := hG
  unfold Duo
  rw [did_self, did_ne L (show (18 : Nat) ≠ 19 by decide), did_ne L (show (20 : Nat) ≠ 19 by decide), did_ne L (show (21 : Nat) ≠ 19 by decide), upd_self, upd_ne t _ (show (18 : Nat) ≠ 19 by decide)]
  refine ⟨k1.alloc hB _, fun h => ?_, fun _ => ⟨_, rfl, hB, ?_⟩, fun h _ e => ?_⟩
  · obtain ⟨p, e1, e2, e3⟩ := k2 h
    exact ⟨p, e1, e2, (heap_alloc_old w _ (Array.getElem?_eq_some_iff.1 e3).1).trans e3⟩
  · rw [heap_alloc_new, h21]; rfl
  · obtain ⟨p, e1, e2, e3⟩ := k2 h
    have hp := (Array.getElem?_eq_some_iff.1 e3).1
    rw [e1] at e
    have e9 := congrArg (fun v => match v with | Value.pointer (some a) => a.block | _ => 0) e
    simp only at e9
    omega
theorem duo_c {p : Nat} (ht : t 18 = .pointer (some ⟨p, 0, none⟩)) (h18 : L 18 = true) (hG : Duo w0 B x y L t w) : Duo w0 B x y (did L 20) (upd t 20 v) (w.setCell ⟨p, 0, none⟩ (.int .i64 x)) := by
  obtain ⟨k1, k2, k3, k4⟩ := hG
  obtain ⟨p', e1, e2, e3⟩ := k2 h18
  rw [ht] at e1
  obtain rfl : p = p' := by simpa using e1
  unfold Duo
  rw [did_self, did_ne L (show (19 : Nat) ≠ 20 by decide), did_ne L (show (18 : Nat) ≠ 20 by decide), did_ne L (show (21 : Nat) ≠ 20 by decide), upd_ne t v (show (18 : Nat) ≠ 20 by decide), upd_ne t v (show (19 : Nat) ≠ 20 by decide)]
  refine ⟨k1.setCell e2 _, fun _ => ⟨p, ht, e2, ?_⟩, fun h => ?_, k4⟩
  · rw [heap_setCell_same w p 0 _ _ _ e3]; rfl
  · obtain ⟨q, f1, f2, f3⟩ := k3 h
    have hne : q ≠ p := fun e => k4 h18 h (by rw [ht, f1, e])
    exact ⟨q, f1, f2, (heap_setCell_other w _ _ _ hne).trans f3⟩
theorem duo_d {p : Nat} (ht : t 19 = .pointer (some ⟨p, 0, none⟩)) (h19 : L 19 = true) (hG : Duo w0 B x y L t w) : Duo w0 B x y (did L 21) (upd t 21 v) (w.setCell ⟨p, 0, none⟩ (.int .i64 y)) := by
  obtain ⟨k1, k2, k3, k4⟩ := hG
  obtain ⟨p', e1, e2, e3⟩ := k3 h19
  rw [ht] at e1
  obtain rfl : p = p' := by simpa using e1
  unfold Duo
  rw [did_self, did_ne L (show (19 : Nat) ≠ 21 by decide), did_ne L (show (18 : Nat) ≠ 21 by decide), did_ne L (show (20 : Nat) ≠ 21 by decide), upd_ne t v (show (18 : Nat) ≠ 21 by decide), upd_ne t v (show (19 : Nat) ≠ 21 by decide)]
  refine ⟨k1.setCell e2 _, fun h => ?_, fun _ => ⟨p, ht, e2, ?_⟩, k4⟩
  · obtain ⟨q, f1, f2, f3⟩ := k2 h
    have hne : q ≠ p := fun e => k4 h h19 (by rw [ht, f1, e])
    exact ⟨q, f1, f2, (heap_setCell_other w _ _ _ hne).trans f3⟩
  · rw [heap_setCell_same w p 0 _ _ _ e3]; rfl
end
theorem cut_twice (L : List UInt8) (n a b c d s1 n1 s2 e2 : Nat) (hl : L.length = n) (h1 : min a n = s1) (h2 : max s1 (min b n) - s1 = n1) (h3 : min c n1 = s2) (h4 : min d n1 = e2) :
    (((L.drop s1).take n1).drop s2).take (max s2 e2 - s2) = (L.drop (min (s1 + s2) n)).take (max (min (s1 + s2) n) (min (s1 + e2) n) - min (s1 + s2) n) ∧ max (min (s1 + s2) n) (min (s1 + e2) n) - min (s1 + s2) n = max s2 e2 - s2 := by
  have x1 : min (s1 + s2) n = s1 + s2 := by omega
  have x2 : max (min (s1 + s2) n) (min (s1 + e2) n) - min (s1 + s2) n = max s2 e2 - s2 := by omega
  refine ⟨?_, x2⟩
  rw [x2, x1, List.drop_take, List.drop_drop, List.take_take]
  congr 1
  omega
theorem four (w1 w2 : World) (a b c d : Int) (h : (((w1.alloc (.cells #[.int .i64 a] 2)).alloc (.cells #[.int .i64 b] 2)).alloc (.cells #[.int .i64 c] 2)).alloc (.cells #[.int .i64 d] 2) = w2) :
    Below w1.heap.size w1 w2 ∧ w2.heap.size = w1.heap.size + 1 + 1 + 1 + 1 ∧ w2.cell? ⟨w1.heap.size, 0, none⟩ = some (.int .i64 a) ∧ w2.cell? ⟨w1.heap.size + 1, 0, none⟩ = some (.int .i64 b) ∧ w2.cell? ⟨w1.heap.size + 1 + 1, 0, none⟩ = some (.int .i64 c) ∧ w2.cell? ⟨w1.heap.size + 1 + 1 + 1, 0, none⟩ = some (.int .i64 d) := by
  subst h
  refine ⟨((((Below.refl _ _).alloc (Nat.le_refl _) _).alloc (by simp) _).alloc (by simp only [World.size_alloc]; omega) _).alloc (by simp only [World.size_alloc]; omega) _, by simp, ?_, ?_, ?_, ?_⟩
  · refine (cell_of_row _ w1.heap.size 0 #[.int .i64 a] 2 (0, 0) ?_).trans rfl
    rw [heap_alloc_old _ _ (by simp only [World.size_alloc]; omega), heap_alloc_old _ _ (by simp only [World.size_alloc]; omega), heap_alloc_old _ _ (by simp only [World.size_alloc]; omega), heap_alloc_new]
  · refine (cell_of_row _ (w1.heap.size + 1) 0 #[.int .i64 b] 2 (0, 0) ?_).trans rfl
    rw [heap_alloc_old _ _ (by simp only [World.size_alloc]; omega), heap_alloc_old _ _ (by simp only [World.size_alloc]; omega), show w1.heap.size + 1 = (w1.alloc (.cells #[.int .i64 a] 2)).heap.size by simp, heap_alloc_new]
  · refine (cell_of_row _ (w1.heap.size + 1 + 1) 0 #[.int .i64 c] 2 (0, 0) ?_).trans rfl
    rw [heap_alloc_old _ _ (by simp only [World.size_alloc]; omega), show w1.heap.size + 1 + 1 = ((w1.alloc (.cells #[.int .i64 a] 2)).alloc (.cells #[.int .i64 b] 2)).heap.size by simp, heap_alloc_new]
  · refine (cell_of_row _ (w1.heap.size + 1 + 1 + 1) 0 #[.int .i64 d] 2 (0, 0) ?_).trans rfl
    rw [show w1.heap.size + 1 + 1 + 1 = (((w1.alloc (.cells #[.int .i64 a] 2)).alloc (.cells #[.int .i64 b] 2)).alloc (.cells #[.int .i64 c] 2)).heap.size by simp, heap_alloc_new]
set_option linter.unusedSimpArgs false in
set_option maxHeartbeats 8000000 in
set_option maxRecDepth 100000 in
theorem BlobTwice_any (A : Option Addr) (n cap : Nat) (L : List UInt8) (zf zt zg zu : Int) (w : World) (hr : Rds w A n (bcells L)) (_hc : n ≤ cap) (_hm : cap ≤ maxLen) (hf : 0 ≤ zf ∧ zf ≤ 65535) (ht : 0 ≤ zt ∧ zt ≤ 65535) (hg : 0 ≤ zg ∧ zg ≤ 65535) (hu : 0 ≤ zu ∧ zu ≤ 65535) :
    Calls Try.prog 7 #[.slice A n cap, .int .u16 zf, .int .u16 zt, .int .u16 zg, .int .u16 zu] w fun e w' => e = .returned (.bool true) ∧ Below w.heap.size w w' := by
  have hl : L.length = n := by rw [← length_bcells]; exact hr.1
  have HL0 := hid hl
  have HR := hid hr
  clear hl hr
  obtain ⟨a, rfl⟩ : ∃ a : Nat, zf = (a : Int) := ⟨zf.toNat, by omega⟩
  obtain ⟨b, rfl⟩ : ∃ a : Nat, zt = (a : Int) := ⟨zt.toNat, by omega⟩
  obtain ⟨c, rfl⟩ : ∃ a : Nat, zg = (a : Int) := ⟨zg.toNat, by omega⟩
  obtain ⟨d, rfl⟩ : ∃ a : Nat, zu = (a : Int) := ⟨zu.toNat, by omega⟩
  by_cases h1 : n ≤ 300
  · have p1 : ¬ (300 : Int) < (n : Int) := by omega
    obtain ⟨s1, hs1⟩ : ∃ s1, min a n = s1 := ⟨_, rfl⟩
    obtain ⟨n1, hn1⟩ : ∃ n1, max s1 (min b n) - s1 = n1 := ⟨_, rfl⟩
    obtain ⟨s2, hs2⟩ : ∃ s2, min c n1 = s2 := ⟨_, rfl⟩
    obtain ⟨e2, he2⟩ : ∃ e2, min d n1 = e2 := ⟨_, rfl⟩
    have hcut := cut_twice L n a b c d s1 n1 s2 e2 HL0.out hs1 hn1 hs2 he2
    obtain ⟨L1, hL1⟩ : ∃ L1, (L.drop s1).take n1 = L1 := ⟨_, rfl⟩
    obtain ⟨L2, hL2⟩ : ∃ L2, (L1.drop s2).take (max s2 e2 - s2) = L2 := ⟨_, rfl⟩
    obtain ⟨n2, hn2⟩ : ∃ n2, max s2 e2 - s2 = n2 := ⟨_, rfl⟩
    rw [hL1, hL2, hn2] at hcut
    obtain ⟨hcut, hcut2⟩ := hcut
    have HCUT := hid hcut
    have HCUT2 := hid hcut2
    have HL1 := hid hL1
    have HL2 := hid hL2
    clear hcut hcut2 hL1 hL2
    go_enter Try.func7, Try.ntmps7
    go_wp2_with fail
    refine (BlobW.awake_any _).mono ?_
    rintro e w1 ⟨rfl, hb1⟩
    have HR1 := hid (HR.out.below hb1)
    go_wp2_with fail
    generalize hw2 : (((w1.alloc _).alloc _).alloc _).alloc _ = w2
    obtain ⟨hb12, hsz2, ca, cb, cc, cd⟩ := four w1 w2 _ _ _ _ hw2
    clear hw2
    have HR2 := hid (HR1.out.below hb12)
    refine (new_any A n cap L (strOf []) _ HR2.out (by omega) (by decide)).mono ?_
    rintro e w3 ⟨g0, rfl, hg0, hblob, hb3⟩
    have HB3 := hid hblob
    have HR3 := hid (HR2.out.below hb3)
    clear hblob
    have HPA : Hid (Ptr w3 (.pointer (some ⟨w1.heap.size, 0, none⟩)) (some (a : Int))) := hid ((show Ptr w2 _ _ from Or.inr ⟨w1.heap.size, _, rfl, by omega, ca, by omega, by omega, rfl⟩).below hb3)
    have HPB : Hid (Ptr w3 (.pointer (some ⟨w1.heap.size + 1, 0, none⟩)) (some (b : Int))) := hid ((show Ptr w2 _ _ from Or.inr ⟨w1.heap.size + 1, _, rfl, by omega, cb, by omega, by omega, rfl⟩).below hb3)
    have HPC : Hid (Ptr w3 (.pointer (some ⟨w1.heap.size + 1 + 1, 0, none⟩)) (some (c : Int))) := hid ((show Ptr w2 _ _ from Or.inr ⟨w1.heap.size + 1 + 1, _, rfl, by omega, cc, by omega, by omega, rfl⟩).below hb3)
    have HPD : Hid (Ptr w3 (.pointer (some ⟨w1.heap.size + 1 + 1 + 1, 0, none⟩)) (some (d : Int))) := hid ((show Ptr w2 _ _ from Or.inr ⟨w1.heap.size + 1 + 1 + 1, _, rfl, by omega, cd, by omega, by omega, rfl⟩).below hb3)
    go_wp2_with fail
    refine (slice_any g0 n L _ _ _ _ _ (strOf []) _ HB3.out (by omega) HPA.out HPB.out (by decide)).mono ?_
    rintro e w4 ⟨gx, rfl, hgx, hblob, hb4⟩
    rw [pl_min, pl_min, hs1, hn1, HL1.out] at hblob
    have HBX4 := hid hblob
    clear hblob
    have HR4 := hid (HR3.out.below hb4)
    have HPC4 := hid (HPC.out.below hb4)
    have HPD4 := hid (HPD.out.below hb4)
    have hn1l : n1 ≤ n := by omega
    go_wp2_with fail
    refine (slice_any gx n1 L1 _ _ _ _ _ (strOf []) _ HBX4.out (by omega) HPC4.out HPD4.out (by decide)).mono ?_
    rintro e w5 ⟨gy, rfl, hgy, hblob, hb5⟩
    have hL2 := HL2.out
    rw [hn2] at hL2
    rw [pl_min, pl_min, hs2, he2, hn2, hL2] at hblob
    clear hL2
    have HBY := hid hblob
    clear hblob
    have HBX := hid (HBX4.out.below hb5)
    have HR5 := hid (HR4.out.below hb5)
    have hb25 : Below w2.heap.size w2 w5 := bel (bel hb3 hb4) hb5
    have hsz5 : w1.heap.size + 1 + 1 + 1 + 1 ≤ w5.heap.size := by have := hb25.size; omega
    have HCa := hid ((hb25.cell (p := ⟨w1.heap.size, 0, none⟩) (by show w1.heap.size < _; omega)).trans ca)
    have HCc := hid ((hb25.cell (p := ⟨w1.heap.size + 1 + 1, 0, none⟩) (by show w1.heap.size + 1 + 1 < _; omega)).trans cc)
    have HCd := hid ((hb25.cell (p := ⟨w1.heap.size + 1 + 1 + 1, 0, none⟩) (by show w1.heap.size + 1 + 1 + 1 < _; omega)).trans cd)
    have hbAll : Below w.heap.size w w5 := bel (bel hb1 hb12) hb25
    clear ca cb cc cd HPA HPB HPC HPD HPC4 HPD4 HB3 HBX4 HR1 HR2 HR3 HR4
    go_wp2_with fail
    refine wp_region_inv (by kernel_rfl) (Duo w5 w5.heap.size ((s1 + s2 : Nat) : Int) ((s1 + e2 : Nat) : Int)) [is (.int .i64 ((a : Int))), is (.slice A n cap), is (.int .i64 ((n : Int))), is (.int .i64 ((s1 : Int))), is (.int .i64 ((c : Int))), is (.pointer (some ⟨gx, 0, none⟩)), is (.int .i64 ((n1 : Int))), is (.int .i64 ((s2 : Int))), is (.int .i64 (((s1 + s2 : Nat) : Int))), is (.int .i64 ((a : Int))), is (.slice A n cap), is (.int .i64 ((n : Int))), is (.int .i64 ((s1 : Int))), is (.int .i64 ((d : Int))), is (.pointer (some ⟨gx, 0, none⟩)), is (.int .i64 ((n1 : Int))), is (.int .i64 ((e2 : Int))), is (.int .i64 (((s1 + e2 : Nat) : Int))), any, any, any, any] [[], [], [1], [0, 2], [], [], [5], [4, 6], [3, 7], [], [], [10], [9, 11], [], [], [14], [13, 15], [12, 16], [], [], [8, 18], [17, 19]] (by kernel_rfl) (by repeat (first | exact free_nil | refine free_is _ ?_ | refine free_any ?_)) ?_ ?_ ?_
    · exact fun t => ⟨⟨rfl, rfl, rfl, Nat.le_refl _, fun _ _ => rfl⟩, (fun h => by cases h), (fun h => by cases h), (fun h => by cases h)⟩
    · refine ⟨?_, ?_, ?_, ?_, ?_, ?_, ?_, ?_, ?_, ?_, ?_, ?_, ?_, ?_, ?_, ?_, ?_, ?_, ?_, ?_, ?_, ?_, trivial⟩
      · intro L t wq hG hL hC hN hh K hK
        clear hh
        simp only [filled, upd, Have, is, any, row, pick, Act.put, List.setIfInBounds_toArray, List.set_cons_zero, List.set_cons_succ, Nat.reduceAdd, Nat.reduceEqDiff, reduceIte] at hK ⊢
        have hBq := hG.1.size
        have hc := (hG.1.cell (p := ⟨w1.heap.size, 0, none⟩) (by show w1.heap.size < w5.heap.size; omega)).trans HCa.out
        go_simp
        exact hK _ _ rfl (stab2 0 (by decide) (Below.refl _ _) hG.1.size hG)
      · intro L t wq hG hL hC hN hh K hK
        clear hh
        simp only [filled, upd, Have, is, any, row, pick, Act.put, List.setIfInBounds_toArray, List.set_cons_zero, List.set_cons_succ, Nat.reduceAdd, Nat.reduceEqDiff, reduceIte] at hK ⊢
        go_simp
        exact hK _ _ rfl (stab2 1 (by decide) (Below.refl _ _) hG.1.size hG)
      · intro L t wq hG hL hC hN hh K hK
        have e1 := hh.1
        simp only [pick] at e1
        replace e1 : t 1 = (.slice A n cap) := e1
        clear hh
        simp only [filled, upd, Have, is, any, row, pick, Act.put, List.setIfInBounds_toArray, List.set_cons_zero, List.set_cons_succ, Nat.reduceAdd, Nat.reduceEqDiff, reduceIte] at hK ⊢
        simp only [e1] at hK ⊢
        go_simp
        exact hK _ _ rfl (stab2 2 (by decide) (Below.refl _ _) hG.1.size hG)
      · intro L t wq hG hL hC hN hh K hK
        have e0 := hh.1
        simp only [pick] at e0
        replace e0 : t 0 = (.int .i64 ((a : Int))) := e0
        have e2 := hh.2.1
        simp only [pick] at e2
        replace e2 : t 2 = (.int .i64 ((n : Int))) := e2
        clear hh
        simp only [filled, upd, Have, is, any, row, pick, Act.put, List.setIfInBounds_toArray, List.set_cons_zero, List.set_cons_succ, Nat.reduceAdd, Nat.reduceEqDiff, reduceIte] at hK ⊢
        simp only [e0, e2] at hK ⊢
        have hmn : min (a : Int) (n : Int) = (s1 : Int) := by omega
        go_simp
        exact hK _ _ (by first | rfl | (congr 1; split <;> omega) | (simp; split <;> omega) | simp [hmn]) (stab2 3 (by decide) (Below.refl _ _) hG.1.size hG)
      · intro L t wq hG hL hC hN hh K hK
        clear hh
        simp only [filled, upd, Have, is, any, row, pick, Act.put, List.setIfInBounds_toArray, List.set_cons_zero, List.set_cons_succ, Nat.reduceAdd, Nat.reduceEqDiff, reduceIte] at hK ⊢
        have hBq := hG.1.size
        have hc := (hG.1.cell (p := ⟨(w1.heap.size + 1 + 1), 0, none⟩) (by show (w1.heap.size + 1 + 1) < w5.heap.size; omega)).trans HCc.out
        go_simp
        exact hK _ _ rfl (stab2 4 (by decide) (Below.refl _ _) hG.1.size hG)
      · intro L t wq hG hL hC hN hh K hK
        clear hh
        simp only [filled, upd, Have, is, any, row, pick, Act.put, List.setIfInBounds_toArray, List.set_cons_zero, List.set_cons_succ, Nat.reduceAdd, Nat.reduceEqDiff, reduceIte] at hK ⊢
        go_simp
        exact hK _ _ rfl (stab2 5 (by decide) (Below.refl _ _) hG.1.size hG)
      · intro L t wq hG hL hC hN hh K hK
        have e5 := hh.1
        simp only [pick] at e5
        replace e5 : t 5 = (.pointer (some ⟨gx, 0, none⟩)) := e5
        clear hh
        simp only [filled, upd, Have, is, any, row, pick, Act.put, List.setIfInBounds_toArray, List.set_cons_zero, List.set_cons_succ, Nat.reduceAdd, Nat.reduceEqDiff, reduceIte] at hK ⊢
        simp only [e5] at hK ⊢
        go_simp
        refine (len_any gx n1 _ _ _ (HBX.out.below hG.1)).mono ?_
        rintro e w6 ⟨rfl, hb6⟩
        exact hK _ _ rfl (stab2 6 (by decide) hb6 hG.1.size hG)
      · intro L t wq hG hL hC hN hh K hK
        have e4 := hh.1
        simp only [pick] at e4
        replace e4 : t 4 = (.int .i64 ((c : Int))) := e4
        have e6 := hh.2.1
        simp only [pick] at e6
        replace e6 : t 6 = (.int .i64 ((n1 : Int))) := e6
        clear hh
        simp only [filled, upd, Have, is, any, row, pick, Act.put, List.setIfInBounds_toArray, List.set_cons_zero, List.set_cons_succ, Nat.reduceAdd, Nat.reduceEqDiff, reduceIte] at hK ⊢
        simp only [e4, e6] at hK ⊢
        have hmn : min (c : Int) (n1 : Int) = (s2 : Int) := by omega
        go_simp
        exact hK _ _ (by first | rfl | (congr 1; split <;> omega) | (simp; split <;> omega) | simp [hmn]) (stab2 7 (by decide) (Below.refl _ _) hG.1.size hG)
      · intro L t wq hG hL hC hN hh K hK
        have e3 := hh.1
        simp only [pick] at e3
        replace e3 : t 3 = (.int .i64 ((s1 : Int))) := e3
        have e7 := hh.2.1
        simp only [pick] at e7
        replace e7 : t 7 = (.int .i64 ((s2 : Int))) := e7
        clear hh
        simp only [filled, upd, Have, is, any, row, pick, Act.put, List.setIfInBounds_toArray, List.set_cons_zero, List.set_cons_succ, Nat.reduceAdd, Nat.reduceEqDiff, reduceIte] at hK ⊢
        simp only [e3, e7] at hK ⊢
        go_simp
        first | exact hK _ _ rfl (stab2 8 (by decide) (Below.refl _ _) hG.1.size hG) | exact hK _ _ (int_wrap (by omega) (by omega)) (stab2 8 (by decide) (Below.refl _ _) hG.1.size hG) | exact hK _ _ (by rw [int_wrap (by omega) (by omega)]; rfl) (stab2 8 (by decide) (Below.refl _ _) hG.1.size hG)
      · intro L t wq hG hL hC hN hh K hK
        clear hh
        simp only [filled, upd, Have, is, any, row, pick, Act.put, List.setIfInBounds_toArray, List.set_cons_zero, List.set_cons_succ, Nat.reduceAdd, Nat.reduceEqDiff, reduceIte] at hK ⊢
        have hBq := hG.1.size
        have hc := (hG.1.cell (p := ⟨w1.heap.size, 0, none⟩) (by show w1.heap.size < w5.heap.size; omega)).trans HCa.out
        go_simp
        exact hK _ _ rfl (stab2 9 (by decide) (Below.refl _ _) hG.1.size hG)
      · intro L t wq hG hL hC hN hh K hK
        clear hh
        simp only [filled, upd, Have, is, any, row, pick, Act.put, List.setIfInBounds_toArray, List.set_cons_zero, List.set_cons_succ, Nat.reduceAdd, Nat.reduceEqDiff, reduceIte] at hK ⊢
        go_simp
        exact hK _ _ rfl (stab2 10 (by decide) (Below.refl _ _) hG.1.size hG)
      · intro L t wq hG hL hC hN hh K hK
        have e10 := hh.1
        simp only [pick] at e10
        replace e10 : t 10 = (.slice A n cap) := e10
        clear hh
        simp only [filled, upd, Have, is, any, row, pick, Act.put, List.setIfInBounds_toArray, List.set_cons_zero, List.set_cons_succ, Nat.reduceAdd, Nat.reduceEqDiff, reduceIte] at hK ⊢
        simp only [e10] at hK ⊢
        go_simp
        exact hK _ _ rfl (stab2 11 (by decide) (Below.refl _ _) hG.1.size hG)
      · intro L t wq hG hL hC hN hh K hK
        have e9 := hh.1
        simp only [pick] at e9
        replace e9 : t 9 = (.int .i64 ((a : Int))) := e9
        have e11 := hh.2.1
        simp only [pick] at e11
        replace e11 : t 11 = (.int .i64 ((n : Int))) := e11
        clear hh
        simp only [filled, upd, Have, is, any, row, pick, Act.put, List.setIfInBounds_toArray, List.set_cons_zero, List.set_cons_succ, Nat.reduceAdd, Nat.reduceEqDiff, reduceIte] at hK ⊢
        simp only [e9, e11] at hK ⊢
        have hmn : min (a : Int) (n : Int) = (s1 : Int) := by omega
        go_simp
        exact hK _ _ (by first | rfl | (congr 1; split <;> omega) | (simp; split <;> omega) | simp [hmn]) (stab2 12 (by decide) (Below.refl _ _) hG.1.size hG)
      · intro L t wq hG hL hC hN hh K hK
        clear hh
        simp only [filled, upd, Have, is, any, row, pick, Act.put, List.setIfInBounds_toArray, List.set_cons_zero, List.set_cons_succ, Nat.reduceAdd, Nat.reduceEqDiff, reduceIte] at hK ⊢
        have hBq := hG.1.size
        have hc := (hG.1.cell (p := ⟨(w1.heap.size + 1 + 1 + 1), 0, none⟩) (by show (w1.heap.size + 1 + 1 + 1) < w5.heap.size; omega)).trans HCd.out
        go_simp
        exact hK _ _ rfl (stab2 13 (by decide) (Below.refl _ _) hG.1.size hG)
      · intro L t wq hG hL hC hN hh K hK
        clear hh
        simp only [filled, upd, Have, is, any, row, pick, Act.put, List.setIfInBounds_toArray, List.set_cons_zero, List.set_cons_succ, Nat.reduceAdd, Nat.reduceEqDiff, reduceIte] at hK ⊢
        go_simp
        exact hK _ _ rfl (stab2 14 (by decide) (Below.refl _ _) hG.1.size hG)
      · intro L t wq hG hL hC hN hh K hK
        have e14 := hh.1
        simp only [pick] at e14
        replace e14 : t 14 = (.pointer (some ⟨gx, 0, none⟩)) := e14
        clear hh
        simp only [filled, upd, Have, is, any, row, pick, Act.put, List.setIfInBounds_toArray, List.set_cons_zero, List.set_cons_succ, Nat.reduceAdd, Nat.reduceEqDiff, reduceIte] at hK ⊢
        simp only [e14] at hK ⊢
        go_simp
        refine (len_any gx n1 _ _ _ (HBX.out.below hG.1)).mono ?_
        rintro e w6 ⟨rfl, hb6⟩
        exact hK _ _ rfl (stab2 15 (by decide) hb6 hG.1.size hG)
      · intro L t wq hG hL hC hN hh K hK
        have e13 := hh.1
        simp only [pick] at e13
        replace e13 : t 13 = (.int .i64 ((d : Int))) := e13
        have e15 := hh.2.1
        simp only [pick] at e15
        replace e15 : t 15 = (.int .i64 ((n1 : Int))) := e15
        clear hh
        simp only [filled, upd, Have, is, any, row, pick, Act.put, List.setIfInBounds_toArray, List.set_cons_zero, List.set_cons_succ, Nat.reduceAdd, Nat.reduceEqDiff, reduceIte] at hK ⊢
        simp only [e13, e15] at hK ⊢
        have hmn : min (d : Int) (n1 : Int) = (e2 : Int) := by omega
        go_simp
        exact hK _ _ (by first | rfl | (congr 1; split <;> omega) | (simp; split <;> omega) | simp [hmn]) (stab2 16 (by decide) (Below.refl _ _) hG.1.size hG)
      · intro L t wq hG hL hC hN hh K hK
        have e12 := hh.1
        simp only [pick] at e12
        replace e12 : t 12 = (.int .i64 ((s1 : Int))) := e12
        have e16 := hh.2.1
        simp only [pick] at e16
        replace e16 : t 16 = (.int .i64 ((e2 : Int))) := e16
        clear hh
        simp only [filled, upd, Have, is, any, row, pick, Act.put, List.setIfInBounds_toArray, List.set_cons_zero, List.set_cons_succ, Nat.reduceAdd, Nat.reduceEqDiff, reduceIte] at hK ⊢
        simp only [e12, e16] at hK ⊢
        go_simp
        first | exact hK _ _ rfl (stab2 17 (by decide) (Below.refl _ _) hG.1.size hG) | exact hK _ _ (int_wrap (by omega) (by omega)) (stab2 17 (by decide) (Below.refl _ _) hG.1.size hG) | exact hK _ _ (by rw [int_wrap (by omega) (by omega)]; rfl) (stab2 17 (by decide) (Below.refl _ _) hG.1.size hG)
      · intro L t wq hG hL hC hN hh K hK
        clear hh
        simp only [filled, upd, Have, is, any, row, pick, Act.put, List.setIfInBounds_toArray, List.set_cons_zero, List.set_cons_succ, Nat.reduceAdd, Nat.reduceEqDiff, reduceIte] at hK ⊢
        go_simp
        exact hK _ _ trivial (duo_a (by cases h : L 20 with | false => rfl | true => exact absurd (hC 20 h 18 (by decide)) (by rw [hL]; decide)) hG.1.size hG)
      · intro L t wq hG hL hC hN hh K hK
        clear hh
        simp only [filled, upd, Have, is, any, row, pick, Act.put, List.setIfInBounds_toArray, List.set_cons_zero, List.set_cons_succ, Nat.reduceAdd, Nat.reduceEqDiff, reduceIte] at hK ⊢
        go_simp
        exact hK _ _ trivial (duo_b (by cases h : L 21 with | false => rfl | true => exact absurd (hC 21 h 19 (by decide)) (by rw [hL]; decide)) hG.1.size hG)
      · intro L t wq hG hL hC hN hh K hK
        have e8 := hh.1
        simp only [pick] at e8
        replace e8 : t 8 = (.int .i64 (((s1 + s2 : Nat) : Int))) := e8
        clear hh
        simp only [filled, upd, Have, is, any, row, pick, Act.put, List.setIfInBounds_toArray, List.set_cons_zero, List.set_cons_succ, Nat.reduceAdd, Nat.reduceEqDiff, reduceIte] at hK ⊢
        simp only [e8] at hK ⊢
        obtain ⟨p, hp, hp1, hp2⟩ := hG.2.1 (hN 18 (by decide))
        simp only [hp] at hK ⊢
        simp only [hL, Bool.false_eq_true, reduceIte] at hp2
        have hc1 := (cell_of_row wq p 0 _ _ _ hp2)
        have hc2 := frozen_of_row wq p 0 _ _ hp2
        go_simp
        exact hK undef _ trivial (duo_c hp (hN 18 (by decide)) hG)
      · intro L t wq hG hL hC hN hh K hK
        have e17 := hh.1
        simp only [pick] at e17
        replace e17 : t 17 = (.int .i64 (((s1 + e2 : Nat) : Int))) := e17
        clear hh
        simp only [filled, upd, Have, is, any, row, pick, Act.put, List.setIfInBounds_toArray, List.set_cons_zero, List.set_cons_succ, Nat.reduceAdd, Nat.reduceEqDiff, reduceIte] at hK ⊢
        simp only [e17] at hK ⊢
        obtain ⟨p, hp, hp1, hp2⟩ := hG.2.2.1 (hN 19 (by decide))
        simp only [hp] at hK ⊢
        simp only [hL, Bool.false_eq_true, reduceIte] at hp2
        have hc1 := (cell_of_row wq p 0 _ _ _ hp2)
        have hc2 := frozen_of_row wq p 0 _ _ hp2
        go_simp
        exact hK undef _ trivial (duo_d hp (hN 19 (by decide)) hG)
    · intro Lz t wq hG hall hh
      clear hh
      simp only [filled, upd, Have, is, any, row, pick, Act.put, List.setIfInBounds_toArray, List.set_cons_zero, List.set_cons_succ, Nat.reduceAdd, Nat.reduceEqDiff, reduceIte]
      obtain ⟨p, hp, hp1, hp2⟩ := hG.2.1 (hall 18 (by decide))
      obtain ⟨q, hq, hq1, hq2⟩ := hG.2.2.1 (hall 19 (by decide))
      simp only [hp, hq]
      simp only [hall 20 (by decide), hall 21 (by decide), reduceIte] at hp2 hq2
      have hcp := (cell_of_row wq p 0 _ _ _ hp2).trans rfl
      have hcq := (cell_of_row wq q 0 _ _ _ hq2).trans rfl
      have hsp := (Array.getElem?_eq_some_iff.1 hp2).1
      have hsq := (Array.getElem?_eq_some_iff.1 hq2).1
      have hb6 := hG.1
      clear hG hall
      have HR6 := hid (HR5.out.below hb6)
      have HBY6 := hid (HBY.out.below hb6)
      have HPP : Hid (Ptr wq (.pointer (some ⟨p, 0, none⟩)) (some ((s1 + s2 : Nat) : Int))) := hid (Or.inr ⟨p, _, rfl, hsp, hcp, by omega, by omega, rfl⟩)
      have HPQ : Hid (Ptr wq (.pointer (some ⟨q, 0, none⟩)) (some ((s1 + e2 : Nat) : Int))) := hid (Or.inr ⟨q, _, rfl, hsq, hcq, by omega, by omega, rfl⟩)
      go_wp2_with fail
      refine (new_any A n cap L (strOf []) _ HR6.out (by omega) (by decide)).mono ?_
      rintro e w7 ⟨g1, rfl, hg1, hblob, hb7⟩
      have HB7 := hid hblob
      clear hblob
      have HPP7 := hid (HPP.out.below hb7)
      have HPQ7 := hid (HPQ.out.below hb7)
      go_wp2_with fail
      refine (slice_any g1 n L _ _ _ _ _ (strOf []) _ HB7.out (by omega) HPP7.out HPQ7.out (by decide)).mono ?_
      rintro e w8 ⟨gz, rfl, hgz, hblob, hb8⟩
      rw [pl_min, pl_min, ← HCUT.out, HCUT2.out] at hblob
      have HBZ := hid hblob
      clear hblob
      have HBY8 := hid ((HBY6.out.below hb7).below hb8)
      have hbL : Below w.heap.size w w8 := bel (bel (bel hbAll hb6) hb7) hb8
      have hn2l : n2 ≤ n := by omega
      go_wp2_with fail
      refine wp_region_rel (by kernel_rfl) [is (.pointer (some ⟨gy, 0, none⟩)), row n2 (bcells L2), is (.string (strOf L2)), is (.pointer (some ⟨gz, 0, none⟩)), row n2 (bcells L2), is (.string (strOf L2)), is (.bool true), is (.bool true)] [[], [0], [1], [], [3], [4], [2, 5], [6]] (by kernel_rfl) ?_ ?_
      · refine ⟨?_, ?_, ?_, ?_, ?_, ?_, ?_, ?_, trivial⟩
        · intro t wx hbx hh K hK
          clear hh
          simp only [filled, upd, Have, is, any, row, pick, Act.put, List.setIfInBounds_toArray, List.set_cons_zero, List.set_cons_succ, Nat.reduceAdd, Nat.reduceEqDiff, reduceIte] at hK ⊢
          go_simp
          exact hK _ _ (Below.refl _ _) rfl
        · intro t wx hbx hh K hK
          have e0 := hh.1
          simp only [pick] at e0
          replace e0 : t 0 = (.pointer (some ⟨gy, 0, none⟩)) := e0
          clear hh
          simp only [filled, upd, Have, is, any, row, pick, Act.put, List.setIfInBounds_toArray, List.set_cons_zero, List.set_cons_succ, Nat.reduceAdd, Nat.reduceEqDiff, reduceIte] at hK ⊢
          simp only [e0] at hK ⊢
          go_simp
          refine (bytes_any gy n2 L2 _ _ (HBY8.out.below hbx) (by omega)).mono ?_
          rintro e w9 ⟨v, rfl, hown, hb9⟩
          obtain ⟨A5, c5, rfl, hc5, hm5, hr5⟩ := owns_form hown
          exact hK _ _ hb9 ⟨_, _, rfl, hc5, hm5, hr5⟩
        · intro t wx hbx hh K hK
          have e1 := hh.1
          simp only [pick] at e1
          clear hh
          simp only [filled, upd, Have, is, any, row, pick, Act.put, List.setIfInBounds_toArray, List.set_cons_zero, List.set_cons_succ, Nat.reduceAdd, Nat.reduceEqDiff, reduceIte] at hK ⊢
          obtain ⟨A1, c1, e1, hc1, hm1, hr1⟩ := e1
          simp only [e1] at hK ⊢
          have hs := run_string_of 22 9 5 Try.underlying22 Try.underlying5 Try.underlying9 _ c1 hr1
          go_simp
          exact hK _ _ (Below.refl _ _) rfl
        · intro t wx hbx hh K hK
          clear hh
          simp only [filled, upd, Have, is, any, row, pick, Act.put, List.setIfInBounds_toArray, List.set_cons_zero, List.set_cons_succ, Nat.reduceAdd, Nat.reduceEqDiff, reduceIte] at hK ⊢
          go_simp
          exact hK _ _ (Below.refl _ _) rfl
        · intro t wx hbx hh K hK
          have e3 := hh.1
          simp only [pick] at e3
          replace e3 : t 3 = (.pointer (some ⟨gz, 0, none⟩)) := e3
          clear hh
          simp only [filled, upd, Have, is, any, row, pick, Act.put, List.setIfInBounds_toArray, List.set_cons_zero, List.set_cons_succ, Nat.reduceAdd, Nat.reduceEqDiff, reduceIte] at hK ⊢
          simp only [e3] at hK ⊢
          go_simp
          refine (bytes_any gz n2 L2 _ _ (HBZ.out.below hbx) (by omega)).mono ?_
          rintro e w9 ⟨v, rfl, hown, hb9⟩
          obtain ⟨A5, c5, rfl, hc5, hm5, hr5⟩ := owns_form hown
          exact hK _ _ hb9 ⟨_, _, rfl, hc5, hm5, hr5⟩
        · intro t wx hbx hh K hK
          have e4 := hh.1
          simp only [pick] at e4
          clear hh
          simp only [filled, upd, Have, is, any, row, pick, Act.put, List.setIfInBounds_toArray, List.set_cons_zero, List.set_cons_succ, Nat.reduceAdd, Nat.reduceEqDiff, reduceIte] at hK ⊢
          obtain ⟨A4, c4, e4, hc4, hm4, hr4⟩ := e4
          simp only [e4] at hK ⊢
          have hs := run_string_of 22 9 5 Try.underlying22 Try.underlying5 Try.underlying9 _ c4 hr4
          go_simp
          exact hK _ _ (Below.refl _ _) rfl
        · intro t wx hbx hh K hK
          have e2 := hh.1
          simp only [pick] at e2
          replace e2 : t 2 = (.string (strOf L2)) := e2
          have e5 := hh.2.1
          simp only [pick] at e5
          replace e5 : t 5 = (.string (strOf L2)) := e5
          clear hh
          simp only [filled, upd, Have, is, any, row, pick, Act.put, List.setIfInBounds_toArray, List.set_cons_zero, List.set_cons_succ, Nat.reduceAdd, Nat.reduceEqDiff, reduceIte] at hK ⊢
          simp only [e2, e5] at hK ⊢
          go_simp
          exact hK _ _ (Below.refl _ _) (by simp)
        · intro t wx hbx hh K hK
          have e6 := hh.1
          simp only [pick] at e6
          replace e6 : t 6 = (.bool true) := e6
          clear hh
          simp only [filled, upd, Have, is, any, row, pick, Act.put, List.setIfInBounds_toArray, List.set_cons_zero, List.set_cons_succ, Nat.reduceAdd, Nat.reduceEqDiff, reduceIte] at hK ⊢
          simp only [e6] at hK ⊢
          go_simp
          exact hK _ _ (Below.refl _ _) rfl
      · intro t wx hbx hh
        have f7 := have_get hh 7 (by decide)
        simp only [pick] at f7
        replace f7 : t 7 = (.bool true) := f7
        clear hh
        simp only [filled, upd, Have, is, any, row, pick, Act.put, List.setIfInBounds_toArray, List.set_cons_zero, List.set_cons_succ, Nat.reduceAdd, Nat.reduceEqDiff, reduceIte]
        simp only [f7]
        go_wp2
        go_ret
        exact ⟨rfl, hbL.trans (hbx.mono hbL.size)⟩
  · have p1 : (300 : Int) < (n : Int) := by omega
    go_enter Try.func7, Try.ntmps7
    go_wp2_with fail
    refine (BlobW.awake_any _).mono ?_
    rintro e w1 ⟨rfl, hb1⟩
    go_wp2_with fail
    refine (BlobW.awake_any _).mono ?_
    rintro e w2 ⟨rfl, hb2⟩
    go_wp2_with fail
    go_ret
    exact ⟨rfl, bel hb1 hb2⟩
end Go.Proofs.Ytdgdmlchegjejaa.Laws
