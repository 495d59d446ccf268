/- Mail: what it holds, and what its calls answer; New; the laws' 'awake'. -/
import Derived.Test.YtihlojkghemjeaaMaiA
import Derived.WalkSmall
namespace Go.Proofs.Ytihlojkghemjeaa.MaiB
open Go.Conc Go.RowKit Go.Proofs.Ytihlojkghemjeaa.Base Go.Proofs.Ytihlojkghemjeaa.Base2 Go.Proofs.Ytihlojkghemjeaa.MaiA

/-- Mail at g, all of it from block B on: what is urgent, and what isn't, in boxes with this much room. -/
def MS (t : TypeId) (B : Nat) (w : World) (g cap : Nat) (U P : List Value) : Prop := ∃ cu cp s r s' r', M2 t w g cu cp ∧ Box w cu cap U.toArray s r ∧ Box w cp cap P.toArray s' r' ∧ cu ≠ cp ∧ B ≤ g ∧ B ≤ cu ∧ B ≤ cp
theorem other (w : World) (c c' cap : Nat) (buf : Array Value) (closed : Bool) (s r : Nat) (tm : Bool) (h : c ≠ c') : (w.setChan c cap buf closed s r tm).heap[c']? = w.heap[c']? := by
  simp [World.setChan, Array.getElem?_setIfInBounds_ne h]
theorem m2_ne {t : TypeId} {w : World} {g cu cp c cap s r : Nat} {buf : Array Value} (h : M2 t w g cu cp) (hB : Box w c cap buf s r) : c ≠ g := by
  rintro rfl
  have := h.symm.trans hB
  cases this
theorem box_lt {w : World} {c cap s r : Nat} {buf : Array Value} (h : Box w c cap buf s r) : c < w.heap.size := (Array.getElem?_eq_some_iff.1 h).1
theorem m2_lt {t : TypeId} {w : World} {g cu cp : Nat} (h : M2 t w g cu cp) : g < w.heap.size := (Array.getElem?_eq_some_iff.1 h).1
theorem m2_set {t : TypeId} {w : World} {g cu cp c cap s r : Nat} {buf : Array Value} (h : M2 t w g cu cp) (hne : c ≠ g) : M2 t (w.setChan c cap buf false s r false) g cu cp := (other _ _ _ _ _ _ _ _ _ hne).trans h
theorem box_set {w : World} {c d cap cap' s r s' r' : Nat} {b b' : Array Value} (h : Box w d cap' b' s' r') (hne : c ≠ d) : Box (w.setChan c cap b false s r false) d cap' b' s' r' := (other _ _ _ _ _ _ _ _ _ hne).trans h
theorem box_own {w : World} {c cap s r : Nat} {b : Array Value} (h : c < w.heap.size) : Box (w.setChan c cap b false s r false) c cap b s r := heap_setChan w c cap b false s r false h
theorem MS.below {t : TypeId} {B : Nat} {w w' : World} {g cap : Nat} {U P : List Value} (h : MS t B w g cap U P) (hb : Below w.heap.size w w') : MS t B w' g cap U P := by
  obtain ⟨cu, cp, s, r, s', r', h1, h2, h3, rest⟩ := h
  exact ⟨cu, cp, s, r, s', r', (hb.block _ (m2_lt h1)).trans h1, (hb.block _ (box_lt h2)).trans h2, (hb.block _ (box_lt h3)).trans h3, rest⟩
/-- All that is no box stays. -/
def Kept (w w' : World) : Prop := ∀ (k : Nat) (cs : Array Value) (t : TypeId) (m : Nat × Nat), w.heap[k]? = some (Obj.cells cs t m) → w'.heap[k]? = some (Obj.cells cs t m)
theorem Kept.refl (w : World) : Kept w w := fun _ _ _ _ h => h
theorem Kept.trans {a b c : World} (h : Kept a b) (k : Kept b c) : Kept a c := fun i cs t m e => k i cs t m (h i cs t m e)
theorem kept_below {w w' : World} (hb : Below w.heap.size w w') : Kept w w' := fun k cs t m h => (hb.block k (Array.getElem?_eq_some_iff.1 h).1).trans h
theorem kept_set {w : World} {c cap s r cap' s' r' : Nat} {buf buf' : Array Value} (h : Box w c cap buf s r) : Kept w (w.setChan c cap' buf' false s' r' false) := fun k cs t m e => by
  have hne : c ≠ k := by
    rintro rfl
    have := h.symm.trans e
    cases this
  exact (other _ _ _ _ _ _ _ _ _ hne).trans e
theorem getD_cons (x : Value) (U : List Value) : (x :: U).toArray.getD 0 undef = x := by simp
theorem rest_cons (x : Value) (U : List Value) : (x :: U).toArray.extract 1 (x :: U).toArray.size = U.toArray := by
  apply Array.ext'
  rw [Array.toList_extract]
  simp [List.extract_eq_take_drop]
theorem two_then (w : World) (a b c : Obj) : ((((w.alloc a).alloc b).alloc c).heap[w.heap.size]? = some a ∧ (((w.alloc a).alloc b).alloc c).heap[w.heap.size + 1]? = some b ∧ (((w.alloc a).alloc b).alloc c).heap[w.heap.size + 2]? = some c) := by
  refine ⟨?_, ?_, ?_⟩
  · rw [Below.heap_alloc _ _ _ (by simp; omega), Below.heap_alloc _ _ _ (by simp)]; exact heap_alloc_new w _
  · rw [Below.heap_alloc _ _ _ (by simp)]
    have := heap_alloc_new (w.alloc a) b
    simpa only [World.size_alloc] using this
  · have := heap_alloc_new ((w.alloc a).alloc b) c
    simpa only [World.size_alloc] using this
theorem putI_u (B g cap : Nat) (U P : List Value) (x : Int) (w : World) (h : MS 93 B w g cap U P) : Calls Try.prog 30 #[.pointer (some ⟨g, 0, none⟩), .int .i64 x, .bool true] w fun e w' => e = .returned (.bool (decide (U.length < cap))) ∧ MS 93 B w' g cap (if U.length < cap then U ++ [.int .i64 x] else U) P ∧ Below B w w' ∧ Kept w w' := by
  obtain ⟨cu, cp, s, r, s', r', h1, h2, h3, hne, hg, hcu, hcp⟩ := h
  by_cases hr : U.length < cap
  · refine (putI_urgent_room g cu cp cap s r _ x w h1 h2 (by simpa using hr)).mono ?_
    rintro e w' ⟨rfl, rfl⟩
    refine ⟨by rw [decide_eq_true hr], ?_, below_setChan (Below.refl _ _) hcu _ _ _ _ _ _, kept_set h2⟩
    rw [if_pos hr]
    refine ⟨cu, cp, s + 1, r, s', r', m2_set h1 (m2_ne h1 h2), ?_, box_set h3 hne, hne, hg, hcu, hcp⟩
    have := box_own (w := w) (c := cu) (cap := cap) (s := s + 1) (r := r) (b := U.toArray.push (.int .i64 x)) (box_lt h2)
    simpa using this
  · refine (putI_urgent_full g cu cp cap s r _ x w h1 h2 (by simp; omega)).mono ?_
    rintro e w' ⟨rfl, rfl⟩
    refine ⟨by rw [decide_eq_false hr], ?_, Below.refl _ _, Kept.refl _⟩
    rw [if_neg hr]
    exact ⟨cu, cp, s, r, s', r', h1, h2, h3, hne, hg, hcu, hcp⟩
theorem putI_p (B g cap : Nat) (U P : List Value) (x : Int) (w : World) (h : MS 93 B w g cap U P) : Calls Try.prog 30 #[.pointer (some ⟨g, 0, none⟩), .int .i64 x, .bool false] w fun e w' => e = .returned (.bool (decide (P.length < cap))) ∧ MS 93 B w' g cap U (if P.length < cap then P ++ [.int .i64 x] else P) ∧ Below B w w' ∧ Kept w w' := by
  obtain ⟨cu, cp, s, r, s', r', h1, h2, h3, hne, hg, hcu, hcp⟩ := h
  by_cases hr : P.length < cap
  · refine (putI_plain_room g cu cp cap s' r' _ x w h1 h3 (by simpa using hr)).mono ?_
    rintro e w' ⟨rfl, rfl⟩
    refine ⟨by rw [decide_eq_true hr], ?_, below_setChan (Below.refl _ _) hcp _ _ _ _ _ _, kept_set h3⟩
    rw [if_pos hr]
    refine ⟨cu, cp, s, r, s' + 1, r', m2_set h1 (m2_ne h1 h3), box_set h2 (Ne.symm hne), ?_, hne, hg, hcu, hcp⟩
    have := box_own (w := w) (c := cp) (cap := cap) (s := s' + 1) (r := r') (b := P.toArray.push (.int .i64 x)) (box_lt h3)
    simpa using this
  · refine (putI_plain_full g cu cp cap s' r' _ x w h1 h3 (by simp; omega)).mono ?_
    rintro e w' ⟨rfl, rfl⟩
    refine ⟨by rw [decide_eq_false hr], ?_, Below.refl _ _, Kept.refl _⟩
    rw [if_neg hr]
    exact ⟨cu, cp, s, r, s', r', h1, h2, h3, hne, hg, hcu, hcp⟩
theorem tkI_urgent (B g cap : Nat) (U P : List Value) (x : Int) (w : World) (h : MS 93 B w g cap (.int .i64 x :: U) P) : Calls Try.prog 28 #[.pointer (some ⟨g, 0, none⟩)] w fun e w' => e = .returned (.tuple #[.int .i64 x, .bool true, .bool true]) ∧ MS 93 B w' g cap U P ∧ Below B w w' ∧ Kept w w' := by
  obtain ⟨cu, cp, s, r, s', r', h1, h2, h3, hne, hg, hcu, hcp⟩ := h
  refine (takeI_urgent g cu cp cap s r 0 0 _ U.toArray x w h1 h2 (by simp) (getD_cons _ _) (rest_cons _ _)).mono ?_
  rintro e w' ⟨rfl, rfl⟩
  exact ⟨rfl, ⟨cu, cp, s, r + 1, s', r', m2_set h1 (m2_ne h1 h2), box_own (box_lt h2), box_set h3 hne, hne, hg, hcu, hcp⟩, below_setChan (Below.refl _ _) hcu _ _ _ _ _ _, kept_set h2⟩
theorem tkI_plain (B g cap : Nat) (P : List Value) (x : Int) (w : World) (h : MS 93 B w g cap [] (.int .i64 x :: P)) : Calls Try.prog 28 #[.pointer (some ⟨g, 0, none⟩)] w fun e w' => e = .returned (.tuple #[.int .i64 x, .bool false, .bool true]) ∧ MS 93 B w' g cap [] P ∧ Below B w w' ∧ Kept w w' := by
  obtain ⟨cu, cp, s, r, s', r', h1, h2, h3, hne, hg, hcu, hcp⟩ := h
  refine (takeI_plain g cu cp cap s r s' r' _ P.toArray x w h1 h2 h3 (by simp) (getD_cons _ _) (rest_cons _ _)).mono ?_
  rintro e w' ⟨rfl, rfl⟩
  exact ⟨rfl, ⟨cu, cp, s, r, s', r' + 1, m2_set h1 (m2_ne h1 h3), box_set h2 (Ne.symm hne), box_own (box_lt h3), hne, hg, hcu, hcp⟩, below_setChan (Below.refl _ _) hcp _ _ _ _ _ _, kept_set h3⟩
theorem tkI_none (B g cap : Nat)  (w : World) (h : MS 93 B w g cap [] []) : Calls Try.prog 28 #[.pointer (some ⟨g, 0, none⟩)] w fun e w' => e = .returned (.tuple #[.int .i64 0, .bool false, .bool false]) ∧ MS 93 B w' g cap [] [] ∧ Below B w w' ∧ Kept w w' := by
  obtain ⟨cu, cp, s, r, s', r', h1, h2, h3, hne, hg, hcu, hcp⟩ := h
  refine (takeI_none g cu cp cap s r s' r' w h1 h2 h3).mono ?_
  rintro e w' ⟨rfl, rfl⟩
  exact ⟨rfl, ⟨cu, cp, s, r, s', r', h1, h2, h3, hne, hg, hcu, hcp⟩, Below.refl _ _, Kept.refl _⟩
set_option maxRecDepth 100000 in
theorem lenI (B g cap : Nat) (U P : List Value) (w : World) (h : MS 93 B w g cap U P) (hU : U.length ≤ 1000) (hP : P.length ≤ 1000) : Calls Try.prog 29 #[.pointer (some ⟨g, 0, none⟩)] w fun e w' => e = .returned (.int .i64 ((U.length + P.length : Nat) : Int)) ∧ Below w.heap.size w w' := by
  obtain ⟨cu, cp, s, r, s', r', h1, h2, h3, hne, hg, hcu, hcp⟩ := h
  obtain ⟨c0, c1⟩ := h1.facts
  have hl0 := fun ty n => run_len_chan (P := Try.prog) (w := w.drewN n) 91 ty Try.underlying91 (show (w.drewN n).heap[cu]? = _ from h2)
  have hl1 := fun ty n => run_len_chan (P := Try.prog) (w := w.drewN n) 91 ty Try.underlying91 (show (w.drewN n).heap[cp]? = _ from h3)
  simp only [goInt, List.size_toArray] at hl0 hl1
  obtain ⟨a, ha⟩ : ∃ a, a = U.length := ⟨_, rfl⟩
  obtain ⟨b, hb⟩ : ∃ b, b = P.length := ⟨_, rfl⟩
  rw [← ha] at hl0 hU ⊢
  rw [← hb] at hl1 hP ⊢
  have HS : Hid ((a : Int) + (b : Int) = ((a + b : Nat) : Int)) := by show _ = _; omega
  clear ha hb h1 h2 h3
  go_enter Try.func29, Try.ntmps29
  go_wp2_with fail
  go_quiet (fail)
  go_wp2
  go_ret
  exact ⟨ret_int HS.out, below_drewN (Below.refl _ _) _⟩
theorem infoI : ∃ i, Try.prog.info? 3 = some i ∧ i.bytes = 8 := by
  have h : (Try.prog.info? 3).map (·.bytes) = some 8 := by kernel_rfl
  obtain ⟨i, hi, hb⟩ := Option.map_eq_some_iff.1 h
  exact ⟨i, hi, hb⟩
theorem mkI (n : Nat) (hn : n ≤ 64) (w : World) : (Instr.makeChan 91 (.int .i64 (n : Int))).run Try.prog w = .ok (.chan (some w.heap.size)) (w.alloc (.chan n #[] false 0 0 false)) := by
  obtain ⟨i, hi, hb⟩ := infoI
  exact run_makeChan (P := Try.prog) (w := w) Try.underlying91 hi .i64 n (by omega) (by rw [hb]; omega)
set_option maxRecDepth 100000 in
theorem newI (n : Nat) (h1 : 1 ≤ n) (hn : n ≤ 64) (w : World) : Calls Try.prog 27 #[.int .i64 (n : Int)] w fun e w' => ∃ g, e = .returned (.tuple #[.pointer (some ⟨g, 0, none⟩), .int .i64 0]) ∧ MS 93 w.heap.size w' g n [] [] ∧ Below w.heap.size w w' := by
  have hmc := mkI n hn
  have h1i : ¬ (n : Int) < 1 := by omega
  have h2i : ¬ (64 : Int) < (n : Int) := by omega
  go_enter Try.func27, Try.ntmps27
  go_wp2_with fail
  go_region
  · go_wp2
    go_ret2
    obtain ⟨t0, t1, t2⟩ := two_then w (.chan n #[] false 0 0 false) (.chan n #[] false 0 0 false) (.cells #[.chan (some w.heap.size), .chan (some (w.heap.size + 1))] 93 (0, 0))
    exact ⟨_, rfl, ⟨_, _, 0, 0, 0, 0, t2, t0, t1, by omega, by omega, by omega, by omega⟩, ((((Below.refl _ _).alloc (Nat.le_refl _) _).alloc (by simp) _).alloc (by simp; omega) _).drew⟩
  · go_wp2
    go_ret2
    obtain ⟨t0, t1, t2⟩ := two_then w (.chan n #[] false 0 0 false) (.chan n #[] false 0 0 false) (.cells #[.chan (some (w.heap.size + 1)), .chan (some w.heap.size)] 93 (0, 0))
    exact ⟨_, rfl, ⟨_, _, 0, 0, 0, 0, t2, t1, t0, by omega, by omega, by omega, by omega⟩, ((((Below.refl _ _).alloc (Nat.le_refl _) _).alloc (by simp) _).alloc (by simp; omega) _).drew⟩
theorem putS_u (B g cap : Nat) (U P : List Value) (x : ByteArray) (w : World) (h : MS 96 B w g cap U P) : Calls Try.prog 32 #[.pointer (some ⟨g, 0, none⟩), .string x, .bool true] w fun e w' => e = .returned (.bool (decide (U.length < cap))) ∧ MS 96 B w' g cap (if U.length < cap then U ++ [.string x] else U) P ∧ Below B w w' ∧ Kept w w' := by
  obtain ⟨cu, cp, s, r, s', r', h1, h2, h3, hne, hg, hcu, hcp⟩ := h
  by_cases hr : U.length < cap
  · refine (putS_urgent_room g cu cp cap s r _ x w h1 h2 (by simpa using hr)).mono ?_
    rintro e w' ⟨rfl, rfl⟩
    refine ⟨by rw [decide_eq_true hr], ?_, below_setChan (Below.refl _ _) hcu _ _ _ _ _ _, kept_set h2⟩
    rw [if_pos hr]
    refine ⟨cu, cp, s + 1, r, s', r', m2_set h1 (m2_ne h1 h2), ?_, box_set h3 hne, hne, hg, hcu, hcp⟩
    have := box_own (w := w) (c := cu) (cap := cap) (s := s + 1) (r := r) (b := U.toArray.push (.string x)) (box_lt h2)
    simpa using this
  · refine (putS_urgent_full g cu cp cap s r _ x w h1 h2 (by simp; omega)).mono ?_
    rintro e w' ⟨rfl, rfl⟩
    refine ⟨by rw [decide_eq_false hr], ?_, Below.refl _ _, Kept.refl _⟩
    rw [if_neg hr]
    exact ⟨cu, cp, s, r, s', r', h1, h2, h3, hne, hg, hcu, hcp⟩
theorem putS_p (B g cap : Nat) (U P : List Value) (x : ByteArray) (w : World) (h : MS 96 B w g cap U P) : Calls Try.prog 32 #[.pointer (some ⟨g, 0, none⟩), .string x, .bool false] w fun e w' => e = .returned (.bool (decide (P.length < cap))) ∧ MS 96 B w' g cap U (if P.length < cap then P ++ [.string x] else P) ∧ Below B w w' ∧ Kept w w' := by
  obtain ⟨cu, cp, s, r, s', r', h1, h2, h3, hne, hg, hcu, hcp⟩ := h
  by_cases hr : P.length < cap
  · refine (putS_plain_room g cu cp cap s' r' _ x w h1 h3 (by simpa using hr)).mono ?_
    rintro e w' ⟨rfl, rfl⟩
    refine ⟨by rw [decide_eq_true hr], ?_, below_setChan (Below.refl _ _) hcp _ _ _ _ _ _, kept_set h3⟩
    rw [if_pos hr]
    refine ⟨cu, cp, s, r, s' + 1, r', m2_set h1 (m2_ne h1 h3), box_set h2 (Ne.symm hne), ?_, hne, hg, hcu, hcp⟩
    have := box_own (w := w) (c := cp) (cap := cap) (s := s' + 1) (r := r') (b := P.toArray.push (.string x)) (box_lt h3)
    simpa using this
  · refine (putS_plain_full g cu cp cap s' r' _ x w h1 h3 (by simp; omega)).mono ?_
    rintro e w' ⟨rfl, rfl⟩
    refine ⟨by rw [decide_eq_false hr], ?_, Below.refl _ _, Kept.refl _⟩
    rw [if_neg hr]
    exact ⟨cu, cp, s, r, s', r', h1, h2, h3, hne, hg, hcu, hcp⟩
theorem tkS_urgent (B g cap : Nat) (U P : List Value) (x : ByteArray) (w : World) (h : MS 96 B w g cap (.string x :: U) P) : Calls Try.prog 33 #[.pointer (some ⟨g, 0, none⟩)] w fun e w' => e = .returned (.tuple #[.string x, .bool true, .bool true]) ∧ MS 96 B w' g cap U P ∧ Below B w w' ∧ Kept w w' := by
  obtain ⟨cu, cp, s, r, s', r', h1, h2, h3, hne, hg, hcu, hcp⟩ := h
  refine (takeS_urgent g cu cp cap s r 0 0 _ U.toArray x w h1 h2 (by simp) (getD_cons _ _) (rest_cons _ _)).mono ?_
  rintro e w' ⟨rfl, rfl⟩
  exact ⟨rfl, ⟨cu, cp, s, r + 1, s', r', m2_set h1 (m2_ne h1 h2), box_own (box_lt h2), box_set h3 hne, hne, hg, hcu, hcp⟩, below_setChan (Below.refl _ _) hcu _ _ _ _ _ _, kept_set h2⟩
theorem tkS_plain (B g cap : Nat) (P : List Value) (x : ByteArray) (w : World) (h : MS 96 B w g cap [] (.string x :: P)) : Calls Try.prog 33 #[.pointer (some ⟨g, 0, none⟩)] w fun e w' => e = .returned (.tuple #[.string x, .bool false, .bool true]) ∧ MS 96 B w' g cap [] P ∧ Below B w w' ∧ Kept w w' := by
  obtain ⟨cu, cp, s, r, s', r', h1, h2, h3, hne, hg, hcu, hcp⟩ := h
  refine (takeS_plain g cu cp cap s r s' r' _ P.toArray x w h1 h2 h3 (by simp) (getD_cons _ _) (rest_cons _ _)).mono ?_
  rintro e w' ⟨rfl, rfl⟩
  exact ⟨rfl, ⟨cu, cp, s, r, s', r' + 1, m2_set h1 (m2_ne h1 h3), box_set h2 (Ne.symm hne), box_own (box_lt h3), hne, hg, hcu, hcp⟩, below_setChan (Below.refl _ _) hcp _ _ _ _ _ _, kept_set h3⟩
theorem tkS_none (B g cap : Nat)  (w : World) (h : MS 96 B w g cap [] []) : Calls Try.prog 33 #[.pointer (some ⟨g, 0, none⟩)] w fun e w' => e = .returned (.tuple #[.string ⟨#[]⟩, .bool false, .bool false]) ∧ MS 96 B w' g cap [] [] ∧ Below B w w' ∧ Kept w w' := by
  obtain ⟨cu, cp, s, r, s', r', h1, h2, h3, hne, hg, hcu, hcp⟩ := h
  refine (takeS_none g cu cp cap s r s' r' w h1 h2 h3).mono ?_
  rintro e w' ⟨rfl, rfl⟩
  exact ⟨rfl, ⟨cu, cp, s, r, s', r', h1, h2, h3, hne, hg, hcu, hcp⟩, Below.refl _ _, Kept.refl _⟩
set_option maxRecDepth 100000 in
theorem lenS (B g cap : Nat) (U P : List Value) (w : World) (h : MS 96 B w g cap U P) (hU : U.length ≤ 1000) (hP : P.length ≤ 1000) : Calls Try.prog 34 #[.pointer (some ⟨g, 0, none⟩)] w fun e w' => e = .returned (.int .i64 ((U.length + P.length : Nat) : Int)) ∧ Below w.heap.size w w' := by
  obtain ⟨cu, cp, s, r, s', r', h1, h2, h3, hne, hg, hcu, hcp⟩ := h
  obtain ⟨c0, c1⟩ := h1.facts
  have hl0 := fun ty n => run_len_chan (P := Try.prog) (w := w.drewN n) 94 ty Try.underlying94 (show (w.drewN n).heap[cu]? = _ from h2)
  have hl1 := fun ty n => run_len_chan (P := Try.prog) (w := w.drewN n) 94 ty Try.underlying94 (show (w.drewN n).heap[cp]? = _ from h3)
  simp only [goInt, List.size_toArray] at hl0 hl1
  obtain ⟨a, ha⟩ : ∃ a, a = U.length := ⟨_, rfl⟩
  obtain ⟨b, hb⟩ : ∃ b, b = P.length := ⟨_, rfl⟩
  rw [← ha] at hl0 hU ⊢
  rw [← hb] at hl1 hP ⊢
  have HS : Hid ((a : Int) + (b : Int) = ((a + b : Nat) : Int)) := by show _ = _; omega
  clear ha hb h1 h2 h3
  go_enter Try.func34, Try.ntmps34
  go_wp2_with fail
  go_quiet (fail)
  go_wp2
  go_ret
  exact ⟨ret_int HS.out, below_drewN (Below.refl _ _) _⟩
theorem infoS : ∃ i, Try.prog.info? 9 = some i ∧ i.bytes = 16 := by
  have h : (Try.prog.info? 9).map (·.bytes) = some 16 := by kernel_rfl
  obtain ⟨i, hi, hb⟩ := Option.map_eq_some_iff.1 h
  exact ⟨i, hi, hb⟩
theorem mkS (n : Nat) (hn : n ≤ 64) (w : World) : (Instr.makeChan 94 (.int .i64 (n : Int))).run Try.prog w = .ok (.chan (some w.heap.size)) (w.alloc (.chan n #[] false 0 0 false)) := by
  obtain ⟨i, hi, hb⟩ := infoS
  exact run_makeChan (P := Try.prog) (w := w) Try.underlying94 hi .i64 n (by omega) (by rw [hb]; omega)
set_option maxRecDepth 100000 in
theorem newS (n : Nat) (h1 : 1 ≤ n) (hn : n ≤ 64) (w : World) : Calls Try.prog 31 #[.int .i64 (n : Int)] w fun e w' => ∃ g, e = .returned (.tuple #[.pointer (some ⟨g, 0, none⟩), .int .i64 0]) ∧ MS 96 w.heap.size w' g n [] [] ∧ Below w.heap.size w w' := by
  have hmc := mkS n hn
  have h1i : ¬ (n : Int) < 1 := by omega
  have h2i : ¬ (64 : Int) < (n : Int) := by omega
  go_enter Try.func31, Try.ntmps31
  go_wp2_with fail
  go_region
  · go_wp2
    go_ret2
    obtain ⟨t0, t1, t2⟩ := two_then w (.chan n #[] false 0 0 false) (.chan n #[] false 0 0 false) (.cells #[.chan (some w.heap.size), .chan (some (w.heap.size + 1))] 96 (0, 0))
    exact ⟨_, rfl, ⟨_, _, 0, 0, 0, 0, t2, t0, t1, by omega, by omega, by omega, by omega⟩, ((((Below.refl _ _).alloc (Nat.le_refl _) _).alloc (by simp) _).alloc (by simp; omega) _).drew⟩
  · go_wp2
    go_ret2
    obtain ⟨t0, t1, t2⟩ := two_then w (.chan n #[] false 0 0 false) (.chan n #[] false 0 0 false) (.cells #[.chan (some (w.heap.size + 1)), .chan (some w.heap.size)] 96 (0, 0))
    exact ⟨_, rfl, ⟨_, _, 0, 0, 0, 0, t2, t1, t0, by omega, by omega, by omega, by omega⟩, ((((Below.refl _ _).alloc (Nat.le_refl _) _).alloc (by simp) _).alloc (by simp; omega) _).drew⟩
set_option maxRecDepth 100000 in
theorem awake_any (w : World) : Calls Try.prog 26 #[] w fun e w' => e = .returned (.bool true) ∧ Below w.heap.size w w' := by
  go_enter Try.func26, Try.ntmps26
  go_wp2_with fail
  refine (newI 1 (Nat.le_refl _) (by omega) _).mono ?_
  rintro e w1 ⟨g, rfl, h1, hb1⟩
  have H1 := hid h1
  have HB1 := hid hb1
  clear h1 hb1
  go_wp2_with fail
  refine (putI_p _ g 1 [] [] 1 _ H1.out).mono ?_
  rintro e w2 ⟨rfl, h2, hb2, _⟩
  have H2 : Hid (MS 93 w.heap.size w2 g 1 [] [.int .i64 1]) := h2
  have HB2 : Hid (Below w.heap.size w w2) := HB1.out.trans hb2
  clear h2 hb2
  go_wp2_with fail
  refine (putI_u _ g 1 [] [.int .i64 1] 2 _ H2.out).mono ?_
  rintro e w3 ⟨rfl, h3, hb3, _⟩
  have H3 : Hid (MS 93 w.heap.size w3 g 1 [.int .i64 2] [.int .i64 1]) := h3
  have HB3 : Hid (Below w.heap.size w w3) := HB2.out.trans hb3
  clear h3 hb3
  go_wp2_with fail
  refine (putI_u _ g 1 [.int .i64 2] [.int .i64 1] 3 _ H3.out).mono ?_
  rintro e w4 ⟨rfl, h4, hb4, _⟩
  have H4 : Hid (MS 93 w.heap.size w4 g 1 [.int .i64 2] [.int .i64 1]) := h4
  have HB4 : Hid (Below w.heap.size w w4) := HB3.out.trans hb4
  clear h4 hb4
  go_wp2_with fail
  refine (tkI_urgent _ g 1 [] [.int .i64 1] 2 _ H4.out).mono ?_
  rintro e w5 ⟨rfl, h5, hb5, _⟩
  have H5 := hid h5
  have HB5 : Hid (Below w.heap.size w w5) := HB4.out.trans hb5
  clear h5 hb5
  go_wp2_with fail
  refine (lenI _ g 1 [] [.int .i64 1] _ H5.out (by simp) (by simp)).mono ?_
  rintro e w6 ⟨rfl, hb6⟩
  go_wp2
  go_ret
  exact ⟨rfl, bel HB5.out hb6⟩
end Go.Proofs.Ytihlojkghemjeaa.MaiB
