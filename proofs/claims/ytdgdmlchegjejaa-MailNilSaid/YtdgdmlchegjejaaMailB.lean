/- Mail: New of one; the law's own 'awake'; the law MailNil. -/
import Derived.Test.YtdgdmlchegjejaaMailA
import Derived.WalkSmall
namespace Go.Proofs.Ytdgdmlchegjejaa.MailB
open Go.Conc Go.RowKit Go.Proofs.Ytdgdmlchegjejaa.Base Go.Proofs.Ytdgdmlchegjejaa.Base2 Go.Proofs.Ytdgdmlchegjejaa.MailA

theorem info_int : ∃ i, Try.prog.info? 3 = some i ∧ i.bytes = 8 := by
  have h : (Try.prog.info? 3).map (·.bytes) = some 8 := by kernel_rfl
  obtain ⟨i, hi, hb⟩ := Option.map_eq_some_iff.1 h
  exact ⟨i, hi, hb⟩
theorem mk1 (w : World) : (Instr.makeChan 77 (.int .i64 1)).run Try.prog w = .ok (.chan (some w.heap.size)) (w.alloc (.chan 1 #[] false 0 0 false)) := by
  obtain ⟨i, hi, hb⟩ := info_int
  simpa using run_makeChan (P := Try.prog) (w := w) Try.underlying77 hi .i64 1 (by omega) (by rw [hb]; omega)
theorem m2_ne {w : World} {g cu cp c s r : Nat} {buf : Array Value} (h : M2 w g cu cp) (hB : Box w c buf s r) : c ≠ g := by
  rintro rfl
  have := h.symm.trans hB
  cases this
theorem box_below {w w' : World} {c s r : Nat} {buf : Array Value} (h : Box w c buf s r) (hb : Below w.heap.size w w') : Box w' c buf s r := (hb.block c (Array.getElem?_eq_some_iff.1 h).1).trans h
theorem box_lt {w : World} {c s r : Nat} {buf : Array Value} (h : Box w c buf s r) : c < w.heap.size := (Array.getElem?_eq_some_iff.1 h).1
theorem m2_lt {w : World} {g cu cp : Nat} (h : M2 w g cu cp) : g < w.heap.size := (Array.getElem?_eq_some_iff.1 h).1
theorem two_then (w : World) (a b c : Obj) : ((((w.alloc a).alloc b).alloc c).heap[w.heap.size]? = some a ∧ (((w.alloc a).alloc b).alloc c).heap[w.heap.size + 1]? = some b ∧ (((w.alloc a).alloc b).alloc c).heap[w.heap.size + 2]? = some c) := by
  refine ⟨?_, ?_, ?_⟩
  · rw [Below.heap_alloc _ _ _ (by simp; omega), Below.heap_alloc _ _ _ (by simp)]; exact heap_alloc_new w _
  · rw [Below.heap_alloc _ _ _ (by simp)]
    have := heap_alloc_new (w.alloc a) b
    simpa only [World.size_alloc] using this
  · have := heap_alloc_new ((w.alloc a).alloc b) c
    simpa only [World.size_alloc] using this
set_option maxRecDepth 100000 in
theorem new_one (w : World) : Calls Try.prog 48 #[.int .i64 1] w fun e w' => ∃ g cu cp, e = .returned (.tuple #[.pointer (some ⟨g, 0, none⟩), .int .i64 0]) ∧ M2 w' g cu cp ∧ Box w' cu #[] 0 0 ∧ Box w' cp #[] 0 0 ∧ cu ≠ cp ∧ w.heap.size ≤ cu ∧ w.heap.size ≤ cp ∧ Below w.heap.size w w' := by
  have hmc := mk1
  go_enter Try.func48, Try.ntmps48
  go_wp2_with fail
  go_region
  · go_wp2
    go_ret2
    obtain ⟨t0, t1, t2⟩ := two_then w (.chan 1 #[] false 0 0 false) (.chan 1 #[] false 0 0 false) (.cells #[.chan (some w.heap.size), .chan (some (w.heap.size + 1))] 79 (0, 0))
    exact ⟨_, _, _, rfl, t2, t0, t1, by omega, by omega, by omega, ((((Below.refl _ _).alloc (Nat.le_refl _) _).alloc (by simp) _).alloc (by simp; omega) _).drew⟩
  · go_wp2
    go_ret2
    obtain ⟨t0, t1, t2⟩ := two_then w (.chan 1 #[] false 0 0 false) (.chan 1 #[] false 0 0 false) (.cells #[.chan (some (w.heap.size + 1)), .chan (some w.heap.size)] 79 (0, 0))
    exact ⟨_, _, _, rfl, t2, t1, t0, by omega, by omega, by omega, ((((Below.refl _ _).alloc (Nat.le_refl _) _).alloc (by simp) _).alloc (by simp; omega) _).drew⟩
theorem m2_set {w : World} {g cu cp c s r : Nat} {buf : Array Value} (h : M2 w g cu cp) (hne : c ≠ g) : M2 (w.setChan c 1 buf false s r false) g cu cp := (other _ _ _ _ _ _ _ _ _ hne).trans h
theorem box_set {w : World} {c d s r s' r' : Nat} {b b' : Array Value} (h : Box w d b' s' r') (hne : c ≠ d) : Box (w.setChan c 1 b false s r false) d b' s' r' := (other _ _ _ _ _ _ _ _ _ hne).trans h
theorem box_own {w : World} {c s r : Nat} {b : Array Value} (h : c < w.heap.size) : Box (w.setChan c 1 b false s r false) c b s r := heap_setChan w c 1 b false s r false h
set_option maxRecDepth 100000 in
theorem len_one (g cu cp s r s' r' : Nat) (x : Value) (w : World) (h : M2 w g cu cp) (hu : Box w cu #[] s r) (hp : Box w cp #[x] s' r') : Calls Try.prog 36 #[.pointer (some ⟨g, 0, none⟩)] w fun e w' => e = .returned (.int .i64 1) ∧ Below w.heap.size w w' := by
  obtain ⟨c0, c1⟩ := h.facts
  have hl0 := fun ty n => run_len_chan (P := Try.prog) (w := w.drewN n) 77 ty Try.underlying77 (show (w.drewN n).heap[cu]? = _ from hu)
  have hl1 := fun ty n => run_len_chan (P := Try.prog) (w := w.drewN n) 77 ty Try.underlying77 (show (w.drewN n).heap[cp]? = _ from hp)
  simp only [goInt, List.size_toArray, List.length_cons, List.length_nil] at hl0 hl1
  go_enter Try.func36, Try.ntmps36
  go_wp2_with fail
  go_quiet (fail)
  go_wp2
  go_ret
  exact ⟨rfl, below_drewN (Below.refl _ _) _⟩
set_option maxRecDepth 100000 in
theorem awake_any (w : World) : Calls Try.prog 34 #[] w fun e w' => e = .returned (.bool true) ∧ Below w.heap.size w w' := by
  go_enter Try.func34, Try.ntmps34
  go_wp2_with fail
  refine (new_one _).mono ?_
  rintro e w1 ⟨g, cu, cp, rfl, hM, hU, hP, hne, hcu, hcp, hb1⟩
  go_wp2_with fail
  refine (put_plain g cu cp 0 0 1 _ hM hP).mono ?_
  rintro e w2 ⟨rfl, hw2⟩
  have hM2 : M2 w2 g cu cp := by rw [hw2]; exact m2_set hM (m2_ne hM hP)
  have hU2 : Box w2 cu #[] 0 0 := by rw [hw2]; exact box_set hU (Ne.symm hne)
  have hP2 : Box w2 cp #[.int .i64 1] 1 0 := by rw [hw2]; exact box_own (box_lt hP)
  have hb2 : Below w.heap.size w w2 := by rw [hw2]; exact below_setChan hb1 hcp _ _ _ _ _ _
  clear hw2 hM hU hP hb1
  go_wp2_with fail
  refine (put_urgent g cu cp 0 0 2 _ hM2 hU2).mono ?_
  rintro e w3 ⟨rfl, hw3⟩
  have hM3 : M2 w3 g cu cp := by rw [hw3]; exact m2_set hM2 (m2_ne hM2 hU2)
  have hU3 : Box w3 cu #[.int .i64 2] 1 0 := by rw [hw3]; exact box_own (box_lt hU2)
  have hP3 : Box w3 cp #[.int .i64 1] 1 0 := by rw [hw3]; exact box_set hP2 hne
  have hb3 : Below w.heap.size w w3 := by rw [hw3]; exact below_setChan hb2 hcu _ _ _ _ _ _
  clear hw3 hM2 hU2 hP2 hb2
  go_wp2_with fail
  refine (put_full g cu cp 1 0 3 _ _ hM3 hU3).mono ?_
  rintro e w4 ⟨rfl, rfl⟩
  go_wp2_with fail
  refine (take_urgent g cu cp 1 0 2 _ hM3 hU3).mono ?_
  rintro e w5 ⟨rfl, hw5⟩
  have hM5 : M2 w5 g cu cp := by rw [hw5]; exact m2_set hM3 (m2_ne hM3 hU3)
  have hU5 : Box w5 cu #[] 1 1 := by rw [hw5]; exact box_own (box_lt hU3)
  have hP5 : Box w5 cp #[.int .i64 1] 1 0 := by rw [hw5]; exact box_set hP3 hne
  have hb5 : Below w.heap.size w w5 := by rw [hw5]; exact below_setChan hb3 hcu _ _ _ _ _ _
  clear hw5 hM3 hU3 hP3 hb3
  go_wp2_with fail
  refine (len_one g cu cp 1 1 1 0 _ _ hM5 hU5 hP5).mono ?_
  rintro e w6 ⟨rfl, hb6⟩
  go_wp2
  go_ret
  exact ⟨rfl, bel hb5 hb6⟩
end Go.Proofs.Ytdgdmlchegjejaa.MailB
namespace Go.Proofs.Ytdgdmlchegjejaa.Laws
open Go.RowKit Go.Proofs.Ytdgdmlchegjejaa.Base Go.Proofs.Ytdgdmlchegjejaa.Base2 Go.Proofs.Ytdgdmlchegjejaa.MailA Go.Proofs.Ytdgdmlchegjejaa.MailB
/-- The walk of the law MailNil: it returns true, whatever it is called with. -/
theorem MailNil_any (x : Int) (u : Bool) (w : World) (_hx : -9223372036854775808 ≤ x ∧ x ≤ 9223372036854775807) :
    Calls Try.prog 12 #[.int .i64 x, .bool u] w fun e w' => e = .returned (.bool true) ∧ Below w.heap.size w w' := by
  go_enter Try.func12, Try.ntmps12
  go_wp2_with fail
  refine (take_nil _).mono ?_
  rintro e w1 ⟨rfl, hb1⟩
  go_wp2_with fail
  refine (awake_any _).mono ?_
  rintro e w2 ⟨rfl, hb2⟩
  go_wp2_with fail
  refine (put_nil x u _).mono ?_
  rintro e w3 ⟨rfl, hb3⟩
  go_wp2_with fail
  refine (len_nil _).mono ?_
  rintro e w4 ⟨rfl, hb4⟩
  go_wp2
  go_ret
  exact ⟨rfl, bel (bel (bel hb1 hb2) hb3) hb4⟩
end Go.Proofs.Ytdgdmlchegjejaa.Laws
