/- Texts that belong together: qL, IdxM, GZ, G5, J7, uq, lJ, xu. -/
import Derived.Test.YtcfgioklgmlclaaGreatDoorPA
import Derived.Test.YtcfgioklgmlclaaGreatDoorMA
import Derived.Test.YtcfgioklgmlclaaGreatDoorShelf
import Derived.Laws.RangeAny
import Derived.Laws.Runes
import Derived.Deep.LoopGhost
import Derived.WalkMore
import Derived.BigQuiet
import Derived.Deep.QuietTactic
import Derived.Test.YtcfgioklgmlclaaGreatDoorMU
import Derived.Deep.DeepCutAuto
import Derived.Deep.CutBlock
import Derived.Maps.Own
import Derived.Maps.Views
import Derived.Deep.Slices
import Derived.Deep.Fields
import Derived.ChangeSame
set_option linter.unusedSimpArgs false
set_option linter.unusedVariables false
set_option maxRecDepth 100000
set_option maxHeartbeats 64000000
namespace Go.Proofs.YtcfgioklgmlclaaGreatDoor.qL
open Go.RowKit Base fE nV
def tw (st L : List UInt8) : List UInt8 := L.takeWhile fun c => !st.contains c
def dw (st L : List UInt8) : List UInt8 := L.dropWhile fun c => !st.contains c
theorem FN (st L : List UInt8) : tw st L ++ dw st L = L := List.takeWhile_append_dropWhile
theorem wU (st L : List UInt8) : tw st L = L.take (tw st L).length := by
 have h := congrArg (List.take (tw st L).length) (FN st L)
 rw [List.take_append_of_le_length (Nat.le_refl _), List.take_length] at h
 exact h
theorem qc (st L : List UInt8) : dw st L = L.drop (tw st L).length := by
 have h := congrArg (List.drop (tw st L).length) (FN st L)
 rw [← h]
 simp
theorem ac1 (p : UInt8 → Bool) (c : UInt8) : ∀ L : List UInt8, c ∈ L.takeWhile p → p c = true
 | [], h => by simp at h
 | x :: L, h => by
  rw [List.takeWhile_cons] at h
  split at h
  ·rename_i hx
   rcases List.mem_cons.1 h with rfl | h
   ·exact hx
   ·exact ac1 p c L h
  ·simp at h
theorem tw_no {st L : List UInt8} {c : UInt8} (h : c ∈ tw st L) : st.contains c = false := by
 unfold tw at h
 have := ac1 _ c L h
 simpa using this
theorem dw_head {st L : List UInt8} {c : UInt8} {r : List UInt8} (h : dw st L = c :: r) : st.contains c = true := by
 unfold dw at h
 have := List.head_dropWhile_not (fun c => !st.contains c) (l := L) (by rw [h]; simp)
 simp only [h, List.head_cons] at this
 simpa using this
theorem nJ (st L : List UInt8) : (tw st L).length ≤ L.length := by
 have := congrArg List.length (FN st L)
 rw [List.length_append] at this
 omega
theorem vX (st L : List UInt8) : (dw st L).length ≤ L.length := by
 have := congrArg List.length (FN st L)
 rw [List.length_append] at this
 omega
theorem Za (st L : List UInt8) : Lib.indexAny L st = if dw st L = [] then -1 else ((tw st L).length : Int) := by
 have hno : Lib.NoAny L st (tw st L).length := fun j b hj hb => by
  refine tw_no (st := st) (L := L) ?_
  obtain ⟨hjl, e⟩ := List.getElem?_eq_some_iff.1 hb
  rw [wU, ← e]
  exact List.mem_iff_getElem.2 ⟨j, by rw [List.length_take]; omega, by rw [List.getElem_take]⟩
 have hl := congrArg List.length (FN st L)
 rw [List.length_append] at hl
 cases hd : dw st L with
 | nil =>
  rw [if_pos rfl]
  rw [hd] at hl
  exact Lib.indexAny_none (by rw [← hl]; simpa using hno)
 | cons c r =>
  rw [if_neg (by simp)]
  refine Lib.indexAny_hit (x := c) hno ?_ (dw_head hd)
  have h2 := qc st L
  rw [hd] at h2
  have h3 := congrArg (fun M : List UInt8 => M[0]?) h2
  simp only [List.getElem?_cons_zero, List.getElem?_drop, Nat.add_zero] at h3
  exact h3.symm
def vl (s : List UInt8) : List UInt8 × Bool × List UInt8 :=
 if 0 < (iJ s).2 then ((iJ s).1, true, dw [59] (s.drop (iJ s).2)) else (tr (tw [59] s), decide (tr (tw [59] s) ≠ []), dw [59] s)
def pm (s : List UInt8) : Option (List UInt8 × List UInt8) × List UInt8 := match dw [59, 61] (tl s) with
 | [] => (none, [])
 | c :: r => if c = 59 then (none, c :: r) else (if ((vl r).2.1 && cZ (tw [59, 61] (tl s)) && Me (vl r).1) = true then some (lower (tw [59, 61] (tl s)), (vl r).1) else none, (vl r).2.2)
where Me (L : List UInt8) : Bool := vO.quotable L
def zU (n : List UInt8) (acc : List (List UInt8 × List UInt8)) : Bool := acc.any fun p => p.1 == n
def xA (acc : List (List UInt8 × List UInt8)) (o : Option (List UInt8 × List UInt8)) : List (List UInt8 × List UInt8) := match o with
 | none => acc
 | some p => if zU p.1 acc = true then acc else acc ++ [p]
def prF : Nat → List UInt8 → List (List UInt8 × List UInt8) → List (List UInt8 × List UInt8)
 | 0, _, acc => acc
 | _ + 1, [], acc => acc
 | n + 1, _ :: t, acc => prF n (pm t).2 (xA acc (pm t).1)
theorem vl_len (s : List UInt8) : (vl s).2.2.length ≤ s.length := by
 unfold vl
 split
 ·have := vX [59] (s.drop (iJ s).2)
  rw [List.length_drop] at this
  show (dw [59] (s.drop (iJ s).2)).length ≤ _
  omega
 ·exact vX [59] s
theorem OJ (s : List UInt8) : (pm s).2.length ≤ s.length := by
 have h1 := vX [59, 61] (tl s)
 have h2 := BO s
 unfold pm
 split
 ·simp
 ·rename_i c r h
  rw [h] at h1
  split
  ·show (c :: r).length ≤ _
   omega
  ·have := vl_len r
   show (vl r).2.2.length ≤ _
   simp at h1
   omega
theorem RQ : ∀ (n m : Nat) (r : List UInt8) (acc : List (List UInt8 × List UInt8)), r.length ≤ n → r.length ≤ m → prF n r acc = prF m r acc
 | 0, 0, _, _, _, _ => rfl
 | 0, _ + 1, [], _, _, _ => rfl
 | 0, _ + 1, _ :: _, _, h, _ => by simp at h
 | _ + 1, 0, [], _, _, _ => rfl
 | _ + 1, 0, _ :: _, _, _, h => by simp at h
 | _ + 1, _ + 1, [], _, _, _ => rfl
 | n + 1, m + 1, _ :: t, acc, h1, h2 => by
  have := OJ t
  simp at h1 h2
  exact RQ n m _ _ (by omega) (by omega)
def jF (r : List UInt8) (acc : List (List UInt8 × List UInt8)) : List (List UInt8 × List UInt8) := prF r.length r acc
theorem Jd (acc : List (List UInt8 × List UInt8)) : jF [] acc = acc := rfl
theorem zH (c : UInt8) (t : List UInt8) (acc : List (List UInt8 × List UInt8)) : jF (c :: t) acc = jF (pm t).2 (xA acc (pm t).1) := by
 unfold jF
 show prF t.length (pm t).2 (xA acc (pm t).1) = _
 exact RQ _ _ _ _ (OJ t) (Nat.le_refl _)
structure MT where
 ty : List UInt8
 sub : List UInt8
 ps : List (List UInt8 × List UInt8)
def mime (s : List UInt8) : Option MT := match dw [47] (nI s) with
 | [] => none
 | _ :: B => if (cZ (tw [47] (nI s)) && cZ (tr (tw [59] B))) = true then some ⟨lower (tw [47] (nI s)), lower (tr (tw [59] B)), jF (dw [59] B) []⟩ else none
end Go.Proofs.YtcfgioklgmlclaaGreatDoor.qL
namespace Go.Proofs.YtcfgioklgmlclaaGreatDoor.IdxM
open Go.RowKit Base aP fZ
theorem qV (w : World) (s : ByteArray) (p : Nat) : Below w.heap.size w (w.iter s p) := (Below.refl _ _).alloc (Nat.le_refl _) _
theorem iP (r : Int) (w : World) (h0 : 128 ≤ r) : Calls Tryz.prog 198 #[.int .i32 r] w fun e w' => e = .returned (.bool (validRune r)) ∧ w = w' := by
 have q0 : (0 : Int) ≤ r := by omega
 by_cases h1 : r < 55296
 ·have HV : Hid (validRune r = true) := decide_eq_true (.inl ⟨q0, h1⟩)
  go_enter Tryz.func198, Tryz.ntmps198
  go_wp2
  go_ret
  exact ⟨aB HV.out.symm, rfl⟩
 ·by_cases h2 : 57343 < r
  ·by_cases h3 : r ≤ 1114111
   ·have HV : Hid (validRune r = true) := decide_eq_true (.inr ⟨h2, h3⟩)
    go_enter Tryz.func198, Tryz.ntmps198
    go_wp2
    go_ret
    exact ⟨aB HV.out.symm, rfl⟩
   ·have HV : Hid (validRune r = false) := decide_eq_false (by omega)
    go_enter Tryz.func198, Tryz.ntmps198
    go_wp2
    go_ret
    exact ⟨aB HV.out.symm, rfl⟩
  ·have HV : Hid (validRune r = false) := decide_eq_false (by omega)
   go_enter Tryz.func198, Tryz.ntmps198
   go_wp2
   go_ret
   exact ⟨aB HV.out.symm, rfl⟩
def two : ByteArray := ⟨#[59, 61]⟩
theorem Jp (r : Int) (w : World) (h0 : 128 ≤ r) : Calls Tryz.prog 171 #[.string two, .int .i32 r] w fun e w' => e = .returned (.int .i64 (-1)) ∧ Below w.heap.size w w' := by
 have q0 : (0 : Int) ≤ r := by omega
 have q1 : ¬ r < 128 := by omega
 obtain ⟨T, hT⟩ : ∃ T, T = two := ⟨_, rfl⟩
 have hsz : T.size = 2 := by rw [hT]; rfl
 have g0 : ∀ h, T[0]'h = 59 := by subst hT; intro h; rfl
 have g1 : ∀ h, T[1]'h = 61 := by subst hT; intro h; rfl
 rw [← hT]
 by_cases hE : r = 65533
 ·subst hE
  have hn0 : ∀ ty, (Instr.next (.pointer (some ⟨w.heap.size, 0, none⟩)) true ty).run Tryz.prog (w.iter T 0) = .ok (.tuple #[.bool true, .int .i64 0, .int .i32 59]) (w.iter T 1) := fun ty => by
   have := run_next_ascii (P := Tryz.prog) w T 0 ty (by omega) (by rw [g0]; decide)
   rw [g0] at this
   exact this
  have hn1 : ∀ ty, (Instr.next (.pointer (some ⟨w.heap.size, 0, none⟩)) true ty).run Tryz.prog (w.iter T 1) = .ok (.tuple #[.bool true, .int .i64 1, .int .i32 61]) (w.iter T 2) := fun ty => by
   have := run_next_ascii (P := Tryz.prog) w T 1 ty (by omega) (by rw [g1]; decide)
   rw [g1] at this
   exact this
  have hn2 : ∀ ty, (Instr.next (.pointer (some ⟨w.heap.size, 0, none⟩)) true ty).run Tryz.prog (w.iter T 2) = .ok (.tuple #[.bool false]) (w.iter T 2) := fun ty => run_next_end w T 2 ty (by omega)
  clear hT g0 g1 hsz
  go_enter Tryz.func171, Tryz.ntmps171
  go_wp2
  go_loopg [5, 6] 2 (fun g _ _ wx => ∃ i : Nat, i + g = 2 ∧ wx = w.iter T i)
  case atStart => exact ⟨0, rfl, rfl⟩
  case round =>
   obtain ⟨i, hig, rfl⟩ := hrel
   cases gk with
   | zero =>
    obtain rfl : i = 2 := by omega
    go_wp2
    go_ret
    exact ⟨rfl, qV _ _ _⟩
   | succ g =>
    cases g with
    | zero =>
     obtain rfl : i = 1 := by omega
     go_wp2
     go_roundg 0
     case measure => omega
     case rel => exact ⟨2, rfl, rfl⟩
    | succ g =>
     obtain rfl : g = 0 := by omega
     obtain rfl : i = 0 := by omega
     go_wp2
     go_roundg 1
     case measure => omega
     case rel => exact ⟨1, rfl, rfl⟩
 ·cases hv : validRune r with
  | false =>
   have HV := hid hv
   clear hT g0 g1 hsz hv
   go_enter Tryz.func171, Tryz.ntmps171
   go_wp2_with fail
   refine (iP r _ h0).mono ?_
   rintro e w2 ⟨rfl, rfl⟩
   rw [HV.out]
   go_wp2
   go_ret
   exact ⟨rfl, Below.refl _ _⟩
  | true =>
   have HV := hid hv
   obtain ⟨hE2, hE4, hEl⟩ := encode_facts r (by rw [validRune_eq]; exact hv) h0
   obtain ⟨E, hEE⟩ : ∃ E, E = Utf8.encode r := ⟨_, rfl⟩
   rw [← hEE] at hE2 hE4 hEl
   have hcv : ∀ w : World, (convert 21 9 (.int .i32 r)).run Tryz.prog w = .ok (.string E) w := fun w => by
    rw [hEE]
    exact run_convert_int_string w _ _ .i32 r (by rw [Tryz.underlying21]; rfl) Tryz.underlying9
   clear hT hv hEE
   by_cases h2 : E.size = 2
   ·obtain ⟨c, hc⟩ : ∃ c, c = E[1]'(by omega) := ⟨_, rfl⟩
    have hc128 : 128 ≤ c.toNat := by
     have := hEl (by omega)
     rw [hc]
     have e : E.size - 1 = 1 := by omega
     simpa [e] using this
    have g92 := g1 (by omega)
    have hne : ((61 : Int) != (c.toNat : Int)) = true := by simp; omega
    have HC := hid hc128
    have hcE : E[1]'(by omega) = c := hc.symm
    have hz : (E.size : Int) - 1 = 1 := by omega
    clear hEl hE2 hE4 hc hc128 g0
    go_enter Tryz.func171, Tryz.ntmps171
    go_wp2_with fail
    refine (iP r _ h0).mono ?_
    rintro e w2 ⟨rfl, rfl⟩
    rw [HV.out]
    go_wp2
    go_step3
    go_wp2
    go_loopg [9] 0 (fun _ s9 wx => s9 = .int .i64 1 ∧ wx = w)
    case atStart => exact ⟨int_eq (by omega), rfl⟩
    case round =>
     obtain ⟨rfl, rfl⟩ := hrel
     go_wp2
     go_step3
     go_wp2
     go_region
     go_wp2_with fail
     refine dY (by kernel_rfl) [is (.string T), is (.int .i64 1), is (.int .i64 2), is (.string ByteArray.empty), is (.string E), is (.int .i64 1), is (.int .u8 (c.toNat : Int)), is (.int .i64 (-1)), is (.int .i64 (-1))] [[], [], [1], [0, 2], [], [], [4, 5], [3, 6], [7]] (by kernel_rfl) ?_ ?_
     ·refine ⟨?_, ?_, ?_, ?_, ?_, ?_, ?_, ?_, ?_, trivial⟩
      all_goals (intro t wq hbq hh K hK; simp only [filled, upd, Have, is, any, row, pick, Act.put, List.setIfInBounds_toArray, List.set_cons_zero, List.set_cons_succ, Nat.reduceAdd, Nat.reduceEqDiff, reduceIte, List.tail_cons, List.headD_cons] at hh hK ⊢; (try simp only [hh] at hK ⊢); try clear hh)
      iterate 2 · go_simp; exact hK _ _ (Below.refl _ _) rfl
      ·go_simp; first | exact hK _ _ (Below.refl _ _) rfl | exact hK _ _ (Below.refl _ _) (iU (by omega) (by omega))
      iterate 4 · go_simp; exact hK _ _ (Below.refl _ _) rfl
      ·go_simp; refine (Tryz.strings_IndexByte ByteArray.empty _ _).mono ?_; rintro e wz ⟨rfl, hwz⟩; subst hwz; exact hK _ _ (Below.refl _ _) rfl
      ·go_simp; exact hK _ _ (Below.refl _ _) rfl
     ·intro t wq hbq hh
      have f8 := aS hh 8 (by decide)
      simp only [pick] at f8
      replace f8 : t 8 = (.int .i64 (-1)) := f8
      clear hh
      simp only [filled, upd, Have, is, any, row, pick, Act.put, List.setIfInBounds_toArray, List.set_cons_zero, List.set_cons_succ, Nat.reduceAdd, Nat.reduceEqDiff, reduceIte]
      simp only [f8]
      go_wp2
      rw [Exit.noGoto_ret]
      go_simp
      go_ret
      exact ⟨rfl, CV (Below.refl _ _) hbq⟩
   ·have h3 : 3 ≤ E.size := by omega
    clear hEl g0 g1 h2
    have q3 : ¬ ((E.size : Int) - 1 < 2) := by omega
    go_enter Tryz.func171, Tryz.ntmps171
    go_wp2_with fail
    refine (iP r _ h0).mono ?_
    rintro e w2 ⟨rfl, rfl⟩
    rw [HV.out]
    go_wp2
    go_step3
    go_wp2
    go_loopg [9] 0 (fun _ s9 wx => s9 = .int .i64 ((E.size : Int) - 1) ∧ wx = w)
    case atStart => exact ⟨rfl, rfl⟩
    case round =>
     obtain ⟨rfl, rfl⟩ := hrel
     go_wp2
     rw [Exit.noGoto_ret]
     go_ret
     exact ⟨rfl, Below.refl _ _⟩
theorem IQ (r : Int) (w : World) (h0 : 0 ≤ r) (h1 : r < 128) : Calls Tryz.prog 171 #[.string two, .int .i32 r] w fun e w' => e = .returned (.int .i64 (Lib.indexByte two.data.toList r.toNat.toUInt8)) ∧ w' = w := Any.strings_IndexRune_ascii { Tryz.l153 with } two r w h0 h1
theorem far_no (c : UInt8) (h : 128 ≤ c.toNat) : ([59, 61] : List UInt8).contains c = false := by
 have h1 : ¬ c = 59 := by rintro rfl; exact absurd h (by decide)
 have h2 : ¬ c = 61 := by rintro rfl; exact absurd h (by decide)
 simp [h1, h2]
theorem UW (s : ByteArray) (i : Nat) (h : i < s.size) : (s.get! i) = s[i]'h := by
 simp [ByteArray.get!, getElem!_pos, h]
 rfl
theorem wide (s : ByteArray) (i : Nat) (h : i < s.size) (ha : 128 ≤ (s[i]'h).toNat) : i + (Utf8.decode s i).2 ≤ s.size ∧ ∀ j (hj : j < s.size), i ≤ j → j < i + (Utf8.decode s i).2 → 128 ≤ (s[j]'hj).toNat := by
 have hn : ¬ (s[i]'h).toNat < 128 := by omega
 have one : i + 1 ≤ s.size ∧ ∀ j (hj : j < s.size), i ≤ j → j < i + 1 → 128 ≤ (s[j]'hj).toNat := ⟨by omega, fun j hj h1 h2 => by
  obtain rfl : j = i := by omega
  exact ha⟩
 simp only [Utf8.decode, get_at s i h, hn, if_false]
 have c1 : ∀ k, (decide (i + k < s.size) && (s.get! (i + k)).toNat / 64 == 2) = true → ∃ hk : i + k < s.size, 128 ≤ (s[i + k]'hk).toNat := fun k hk => by
  simp only [Bool.and_eq_true, decide_eq_true_eq, beq_iff_eq] at hk
  refine ⟨hk.1, ?_⟩
  have := hk.2
  rw [UW s _ hk.1] at this
  omega
 split
 ·rename_i h2
  simp only [Bool.and_eq_true] at h2
  obtain ⟨k1, b1⟩ := c1 1 (by simpa using h2.2)
  split
  ·refine ⟨by show i + 2 ≤ _; omega, fun j hj h1 h2 => ?_⟩
   replace h2 : j < i + 2 := h2
   have : j = i ∨ j = i + 1 := by omega
   rcases this with rfl | rfl
   ·exact ha
   ·exact b1
  ·exact one
 ·split
  ·rename_i h2
   simp only [Bool.and_eq_true] at h2
   obtain ⟨k1, b1⟩ := c1 1 (by simpa using h2.1.2)
   obtain ⟨k2, b2⟩ := c1 2 (by simpa using h2.2)
   split
   ·refine ⟨by show i + 3 ≤ _; omega, fun j hj h1 h2 => ?_⟩
    replace h2 : j < i + 3 := h2
    have : j = i ∨ j = i + 1 ∨ j = i + 2 := by omega
    rcases this with rfl | rfl | rfl
    ·exact ha
    ·exact b1
    ·exact b2
   ·exact one
  ·split
   ·rename_i h2
    simp only [Bool.and_eq_true] at h2
    obtain ⟨k1, b1⟩ := c1 1 (by simpa using h2.1.1.2)
    obtain ⟨k2, b2⟩ := c1 2 (by simpa using h2.1.2)
    obtain ⟨k3, b3⟩ := c1 3 (by simpa using h2.2)
    split
    ·refine ⟨by show i + 4 ≤ _; omega, fun j hj h1 h2 => ?_⟩
     replace h2 : j < i + 4 := h2
     have : j = i ∨ j = i + 1 ∨ j = i + 2 ∨ j = i + 3 := by omega
     rcases this with rfl | rfl | rfl | rfl
     ·exact ha
     ·exact b1
     ·exact b2
     ·exact b3
    ·exact one
   ·exact one
def adv (w : World) (k : Nat) (s : ByteArray) (p : Nat) : World := { w with heap := w.heap.setIfInBounds k (.stringIter s p) }
theorem Ux (w : World) (k : Nat) (s : ByteArray) (p : Nat) (h : k < w.heap.size) : (adv w k s p).heap[k]? = some (.stringIter s p) := by
 show (w.heap.setIfInBounds k _)[k]? = _
 simp [h]
theorem Eo {w0 w : World} (h : Below w0.heap.size w0 w) (s : ByteArray) (p : Nat) : Below w0.heap.size w0 (adv w w0.heap.size s p) :=
 ⟨h.os, h.tape, h.output, by show _ ≤ (w.heap.setIfInBounds _ _).size; simpa using h.size, fun k hk => by
  show (w.heap.setIfInBounds _ _)[k]? = _
  rw [Array.getElem?_setIfInBounds_ne (by omega)]
  exact h.block k hk⟩
theorem next_any {P : Program} (w : World) (k : Nat) (s : ByteArray) (pos : Nat) (ty : TypeId) (hk : w.heap[k]? = some (.stringIter s pos)) (h : pos < s.size) :
  (Instr.next (.pointer (some ⟨k, 0, none⟩)) true ty).run P w = .ok (.tuple #[.bool true, .int .i64 pos, .int .i32 (Utf8.decode s pos).1]) (adv w k s (pos + (Utf8.decode s pos).2)) := by
 simp only [Instr.next, getObj, setObj, Sem.run_bind, Sem.run, hk, Result.andThen, h, if_true]
 simp [goInt, adv]
theorem IU {P : Program} (w : World) (k : Nat) (s : ByteArray) (pos : Nat) (ty : TypeId) (hk : w.heap[k]? = some (.stringIter s pos)) (h : ¬ pos < s.size) :
  (Instr.next (.pointer (some ⟨k, 0, none⟩)) true ty).run P w = .ok (.tuple #[.bool false]) w := by
 simp [Instr.next, getObj, Sem.run, hk, h]
theorem short_any (s : ByteArray) (w : World) (h8 : s.size ≤ 8) :
  Calls Tryz.prog 174 #[.string s, .string two] w fun e w' => e = .returned (.int .i64 (Lib.indexAny s.data.toList [59, 61])) ∧ Below w.heap.size w w' := by
 have hemp : two.toList.isEmpty = false := by unfold two; rw [ByteArray.toList_mk]; rfl
 have hsz2 : ((two.size : Int) == 1) = false := rfl
 have h8z : decide ((8 : Int) < (s.size : Int)) = false := decide_eq_false (by omega)
 have hL : s.data.toList.length = s.size := Array.length_toList
 have HL := hid hL
 clear hL
 have Ir := IQ
 have Iu := Jp
 obtain ⟨T, hT⟩ : ∃ T, T = two := ⟨_, rfl⟩
 rw [← hT] at Ir Iu
 have Qn := hid Ir
 have aaF := hid Iu
 clear Ir Iu
 rw [← hT] at hemp hsz2 ⊢
 have HT := hid hT
 clear hT
 go_enter Tryz.func174, Tryz.ntmps174
 go_wp2_with fail
 refine (Any.strings_shouldUseASCIISet { Tryz.l153 with } _ _).mono ?_
 rintro e w2 ⟨rfl, hw2⟩
 subst hw2
 rw [h8z]
 go_wp2
 go_loopg [9, 10] s.size (fun g _ _ wx => ∃ i : Nat, i ≤ s.size ∧ s.size ≤ i + g ∧ wx.heap[w2.heap.size]? = some (.stringIter s i) ∧ Hid (Below w2.heap.size w2 wx) ∧ Hid (Lib.NoAny s.data.toList [59, 61] i))
 case atStart => exact ⟨0, Nat.zero_le _, by omega, World.iter_heap _ _ _, qV _ _ _, Lib.NoAny.zero _ _⟩
 case round =>
  obtain ⟨i, hile, hig, hit, HB, HN⟩ := hrel
  have acw : w2.heap.size < wr.heap.size := (Array.getElem?_eq_some_iff.1 hit).1
  by_cases hi : i < s.size
  ·obtain ⟨g, rfl⟩ : ∃ g, gk = g + 1 := ⟨gk - 1, by omega⟩
   obtain ⟨x, hx⟩ : ∃ x : UInt8, s[i]'hi = x := ⟨_, rfl⟩
   have hxl : s.data.toList[i]? = some x := by rw [← hx]; exact Lib.data_getElem? s i hi
   have hnx := fun ty => next_any (P := Tryz.prog) wr w2.heap.size s i ty hit hi
   obtain ⟨r, hr⟩ : ∃ r : Nat, r = (Utf8.decode s i).1 := ⟨_, rfl⟩
   obtain ⟨d, hd⟩ : ∃ d : Nat, d = (Utf8.decode s i).2 := ⟨_, rfl⟩
   rw [← hr, ← hd] at hnx
   obtain ⟨wa, gI⟩ : ∃ wa, wa = adv wr w2.heap.size s (i + d) := ⟨_, rfl⟩
   have hia : wa.heap[w2.heap.size]? = some (.stringIter s (i + d)) := by rw [gI]; exact Ux _ _ _ _ acw
   have Qh : Hid (Below w2.heap.size w2 wa) := by show Below _ _ _; rw [gI]; exact Eo HB.out _ _
   have hka : w2.heap.size < wa.heap.size := (Array.getElem?_eq_some_iff.1 hia).1
   rw [← gI] at hnx
   have HIA := hid hia
   have HKA := hid hka
   clear gI hit acw hia hka
   by_cases hx128 : x.toNat < 128
   ·obtain rfl : d = 1 := by rw [hd, decode_ascii s i hi (by rw [hx]; exact hx128)]
    obtain rfl : r = x.toNat := by rw [hr, decode_ascii s i hi (by rw [hx]; exact hx128), hx]
    have Hx := hid hxl
    have HBK : Hid (((x.toNat : Int)).toNat.toUInt8 = x) := by show _ = _; simp
    have aax := hid (Lib.contains_iff_indexByte [59, 61] x)
    have hx0 : (0 : Int) ≤ (x.toNat : Int) := by omega
    clear hxl hx hr hd
    cases hin : ([59, 61] : List UInt8).contains x
    ·have hlt : ¬ ((0 : Int) ≤ Lib.indexByte T.data.toList x) := by rw [HT.out]; exact of_decide_eq_false (aax.out.symm.trans hin)
     have Nb := hid hin
     clear hin
     go_wp2_with fail
     refine (Qn.out _ _ hx0 (by omega)).mono ?_
     rintro e w3 ⟨rfl, hw3⟩
     subst hw3
     rw [HBK.out]
     go_wp2
     go_roundg g
     case measure => omega
     case rel => exact ⟨i + 1, by omega, by omega, HIA.out, Qh, HN.out.succ Hx.out Nb.out⟩
    ·have hlt : (0 : Int) ≤ Lib.indexByte T.data.toList x := by rw [HT.out]; exact of_decide_eq_true (aax.out.symm.trans hin)
     have Nb := hid hin
     clear hin
     go_wp2_with fail
     refine (Qn.out _ _ hx0 (by omega)).mono ?_
     rintro e w3 ⟨rfl, hw3⟩
     subst hw3
     rw [HBK.out]
     go_wp2
     go_ret
     exact ⟨by rw [Lib.indexAny_hit HN.out Hx.out Nb.out]; rfl, Qh.out⟩
   ·obtain ⟨acs, hpos⟩ := decode_high s i hi (by rw [hx]; omega)
    have HWD := wide s i hi (by rw [hx]; omega)
    rw [← hr] at acs
    rw [← hd] at hpos HWD
    have HNX : Hid (Lib.NoAny s.data.toList [59, 61] (i + d)) := fun j b hj hb => by
     by_cases hji : j < i
     ·exact HN.out j b hji hb
     ·obtain ⟨hjs, e⟩ := List.getElem?_eq_some_iff.1 hb
      have acv : j < s.size := by rw [HL.out] at hjs; exact hjs
      have := HWD.2 j acv (by omega) hj
      have hb' : s[j]'acv = b := e
      rw [hb'] at this
      exact far_no b this
    have hid1 := HWD.1
    have HFAR : Hid (128 ≤ (r : Int)) := by show _ ≤ _; omega
    clear hr hd HWD hx hxl acs
    go_wp2_with fail
    refine (aaF.out _ _ HFAR.out).mono ?_
    rintro e w3 ⟨rfl, hb3⟩
    have HI3 : Hid (w3.heap[w2.heap.size]? = some (.stringIter s (i + d))) := (hb3.block _ HKA.out).trans HIA.out
    have HB3 : Hid (Below w2.heap.size w2 w3) := bel Qh.out hb3
    clear hb3
    go_wp2
    go_roundg g
    case measure => omega
    case rel => exact ⟨i + d, by omega, by omega, HI3.out, HB3, HNX⟩
  ·obtain rfl : i = s.size := by omega
   have hnx := fun ty => IU (P := Tryz.prog) wr w2.heap.size s s.size ty hit hi
   go_wp2
   go_ret
   exact ⟨by rw [Lib.indexAny_none (by rw [HL.out]; exact HN.out)]; rfl, HB.out⟩
end Go.Proofs.YtcfgioklgmlclaaGreatDoor.IdxM
namespace Go.Proofs.YtcfgioklgmlclaaGreatDoor.GZ
open Go.RowKit Base aP qL
theorem ext_take (s : ByteArray) (k : Nat) : (s.extract 0 k).data.toList = s.data.toList.take k := by
 rw [ByteArray.data_extract]
 simp [Array.toList_extract, List.extract_eq_take_drop]
theorem ext_drop (s : ByteArray) (k : Nat) : (s.extract k s.size).data.toList = s.data.toList.drop k := by
 have hl : s.data.toList.length = s.size := Array.length_toList
 rw [ByteArray.data_extract]
 simp only [Array.toList_extract, List.extract_eq_take_drop]
 rw [List.take_of_length_le (by rw [List.length_drop]; omega)]
theorem qF (s stops : ByteArray) (st : List UInt8) (w : World) (hs : s.size ≤ 1073741824) (hI : Calls Tryz.prog 174 #[.string s, .string stops] w fun e w' => e = .returned (.int .i64 (Lib.indexAny s.data.toList st)) ∧ Below w.heap.size w w') :
  Calls Tryz.prog 125 #[.string s, .string stops] w fun e w' => e = .returned (.tuple #[.string (strOf (tw st s.data.toList)), .string (strOf (dw st s.data.toList))]) ∧ Below w.heap.size w w' := by
 have hl : s.data.toList.length = s.size := Array.length_toList
 have hlen := nJ st s.data.toList
 obtain ⟨n, hn⟩ : ∃ n, n = (tw st s.data.toList).length := ⟨_, rfl⟩
 rw [Za, ← hn] at hI
 by_cases hd : dw st s.data.toList = []
 ·rw [if_pos hd] at hI
  have ht : tw st s.data.toList = s.data.toList := by
   have := FN st s.data.toList
   rwa [hd, List.append_nil] at this
  have HI := hid hI
  have HE : Hid (strOf (tw st s.data.toList) = s ∧ strOf (dw st s.data.toList) = ⟨#[]⟩) := by
   refine ⟨?_, ?_⟩
   ·rw [ht, ay]
   ·rw [hd]; rfl
  clear hI ht hd hn hl hlen
  go_enter Tryz.func125, Tryz.ntmps125
  go_wp2_with fail
  refine (HI.out).mono ?_
  rintro e w2 ⟨rfl, hb2⟩
  have HB2 := hid hb2
  clear hb2
  go_wp2
  go_ret2
  exact ⟨by rw [HE.out.1, HE.out.2]; rfl, HB2.out⟩
 ·rw [if_neg hd] at hI
  have HI := hid hI
  have hns : n ≤ s.size := by omega
  have HE : Hid (strOf (tw st s.data.toList) = s.extract 0 n ∧ strOf (dw st s.data.toList) = s.extract n s.size) := by
   refine ⟨?_, ?_⟩
   ·rw [wU, ← hn, ← ext_take, ay]
   ·rw [qc, ← hn, ← ext_drop, ay]
  have h0 : ¬ (n : Int) < 0 := by omega
  have h1 : (n : Int) ≤ (s.size : Int) := by omega
  clear hI hd hn hl hlen
  go_enter Tryz.func125, Tryz.ntmps125
  go_wp2_with fail
  refine (HI.out).mono ?_
  rintro e w2 ⟨rfl, hb2⟩
  have HB2 := hid hb2
  clear hb2
  go_wp2_with fail
  go_quiet (fail)
  go_wp2
  go_ret2
  exact ⟨by rw [HE.out.1, HE.out.2]; rfl, Base.below_drewN HB2.out _⟩
theorem split47 (s : ByteArray) (w : World) (hs : s.size ≤ 1073741824) : Calls Tryz.prog 125 #[.string s, .string ⟨#[47]⟩] w fun e w' => e = .returned (.tuple #[.string (strOf (tw [47] s.data.toList)), .string (strOf (dw [47] s.data.toList))]) ∧ Below w.heap.size w w' :=
 qF s ⟨#[47]⟩ [47] w hs ((Tryz.strings_IndexAny_one s ⟨#[47]⟩ w rfl (by intro j b h; match j, h with | 0, h => (simp at h; subst h; decide))).mono fun e w' ⟨h1, h2⟩ => ⟨h1, h2 ▸ Below.refl _ _⟩)
theorem O7 (s : ByteArray) (w : World) (hs : s.size ≤ 1073741824) : Calls Tryz.prog 125 #[.string s, .string ⟨#[59]⟩] w fun e w' => e = .returned (.tuple #[.string (strOf (tw [59] s.data.toList)), .string (strOf (dw [59] s.data.toList))]) ∧ Below w.heap.size w w' :=
 qF s ⟨#[59]⟩ [59] w hs ((Tryz.strings_IndexAny_one s ⟨#[59]⟩ w rfl (by intro j b h; match j, h with | 0, h => (simp at h; subst h; decide))).mono fun e w' ⟨h1, h2⟩ => ⟨h1, h2 ▸ Below.refl _ _⟩)
theorem split2 (s : ByteArray) (w : World) (hs : s.size ≤ 1073741824) : Calls Tryz.prog 125 #[.string s, .string ⟨#[59, 61]⟩] w fun e w' => e = .returned (.tuple #[.string (strOf (tw [59, 61] s.data.toList)), .string (strOf (dw [59, 61] s.data.toList))]) ∧ Below w.heap.size w w' := by
 refine qF s ⟨#[59, 61]⟩ [59, 61] w hs ?_
 by_cases h8 : 8 < s.size
 ·exact Tryz.strings_IndexAny_long s ⟨#[59, 61]⟩ w (Nat.le_refl _) h8 (by omega) (by decide) (by intro j b h; match j, h with | 0, h => (simp at h; subst h; decide) | 1, h => (simp at h; subst h; decide))
 ·exact IdxM.short_any s w (by omega)
end Go.Proofs.YtcfgioklgmlclaaGreatDoor.GZ
namespace Go.Proofs.YtcfgioklgmlclaaGreatDoor.G5
open Go.RowKit Base aP fE nV qL GZ
theorem Sl (L : List UInt8) : (iJ L).2 ≤ L.length := by
 cases L with
 | nil => simp [iJ]
 | cons c t =>
  have := (OV t).2
  by_cases h : c = 34
  ·rw [iJ, if_pos h]
   simpa using this
  ·rw [iJ, if_neg h]
   simp
theorem qY {s : ByteArray} (h : s.data.toList = []) : s.toList = [] := by rw [Lib.toList_data]; exact h
theorem BR (s : List UInt8) : (vl s).1.length ≤ s.length := by
 unfold vl
 split
 ·cases s with
  | nil => simp [iJ]
  | cons c t =>
   have := (OV t).1
   show (iJ (c :: t)).1.length ≤ _
   by_cases h : c = 34
   ·rw [iJ, if_pos h]; simp; omega
   ·rw [iJ, if_neg h]; simp
 ·have h1 := E8 (tw [59] s)
  have h2 := nJ [59] s
  show (tr (tw [59] s)).length ≤ _
  omega
def VlV (s : List UInt8) : Value := .tuple #[.string (strOf (vl s).1), .bool (vl s).2.1, .string (strOf (vl s).2.2)]
theorem Z8 (s : ByteArray) (w : World) (hs : s.size ≤ 1073741824) : Calls Tryz.prog 200 #[.string s] w fun e w' => e = .returned (VlV s.data.toList) ∧ Below w.heap.size w w' := by
 have hl : s.data.toList.length = s.size := Array.length_toList
 have hq := Nw.VN s
 obtain ⟨n, hn⟩ : ∃ n, n = (iJ s.data.toList).2 := ⟨_, rfl⟩
 have hnl := Sl s.data.toList
 obtain ⟨H, hH⟩ : ∃ H, H = VlV s.data.toList := ⟨_, rfl⟩
 rw [← hH]
 obtain ⟨V, hV⟩ : ∃ V : ByteArray, V = strOf (iJ s.data.toList).1 := ⟨_, rfl⟩
 have HQ : Hid (∀ w, Calls Tryz.prog 214 #[.string s] w fun e w' => e = .returned (.tuple #[.string V, .int .i64 (n : Int)]) ∧ Below w.heap.size w w') := by
  show ∀ w, _
  rw [hV, hn]
  exact fun w => hq w hs
 clear hq
 by_cases h0 : 0 < n
 ·obtain ⟨X, hX⟩ : ∃ X, X = s.extract n s.size := ⟨_, rfl⟩
  have Gh : X.data.toList = s.data.toList.drop n := by rw [hX, ext_drop]
  have Qd : X.size ≤ 1073741824 := by rw [hX, ByteArray.size_extract]; omega
  have HS := hid (fun w => O7 X w Qd)
  obtain ⟨T1, hT1⟩ : ∃ T1, T1 = strOf (tw [59] X.data.toList) := ⟨_, rfl⟩
  obtain ⟨T2, hT2⟩ : ∃ T2, T2 = strOf (dw [59] X.data.toList) := ⟨_, rfl⟩
  rw [← hT1, ← hT2] at HS
  have HE : Hid (H = .tuple #[.string V, .bool true, .string T2]) := by
   show _ = _
   rw [hH, hV, hT2, Gh]
   unfold VlV vl
   rw [if_pos (by rw [← hn]; exact h0), ← hn]
  have h0i : (0 : Int) < (n : Int) := by omega
  have h1i : (n : Int) ≤ (s.size : Int) := by omega
  have HX := hid hX
  clear hX Gh Qd hT1 hT2 hH hV hn hnl hl h0
  go_enter Tryz.func200, Tryz.ntmps200
  go_wp2_with fail
  refine (HQ.out _).mono ?_
  rintro e w2 ⟨rfl, hb2⟩
  have HB2 := hid hb2
  clear hb2
  go_wp2_with fail
  rw [← HX.out]
  refine (HS.out _).mono ?_
  rintro e w3 ⟨rfl, hb3⟩
  have HB3 := hid (bel HB2.out hb3)
  clear hb3
  go_wp2
  go_ret3
  exact ⟨by rw [HE.out]; rfl, HB3.out⟩
 ·have HS := hid (fun w => O7 s w hs)
  obtain ⟨T1, hT1⟩ : ∃ T1, T1 = strOf (tw [59] s.data.toList) := ⟨_, rfl⟩
  obtain ⟨T2, hT2⟩ : ∃ T2, T2 = strOf (dw [59] s.data.toList) := ⟨_, rfl⟩
  rw [← hT1, ← hT2] at HS
  have hT1d : T1.data.toList = tw [59] s.data.toList := by rw [hT1]; rfl
  have hT1s : T1.size ≤ 1073741824 := by rw [hT1, ah]; have := nJ [59] s.data.toList; omega
  obtain ⟨R, hR⟩ : ∃ R : ByteArray, R = strOf (tr T1.data.toList) := ⟨_, rfl⟩
  have HR : Hid (∀ w, Calls Tryz.prog 127 #[.string T1] w fun e w' => e = .returned (.string R) ∧ Below w.heap.size w w') := by
   show ∀ w, _
   rw [hR]
   exact fun w => CG.EM T1 w hT1s
  have UZ : R.data.toList = tr (tw [59] s.data.toList) := by rw [hR, ← hT1d]; rfl
  have hE : H = .tuple #[.string R, .bool (decide (R.data.toList ≠ [])), .string T2] := by
   rw [hH, hT2]
   unfold VlV vl
   rw [if_neg (by rw [← hn]; exact h0), ← UZ]
   show Value.tuple #[.string (strOf R.data.toList), _, _] = _
   rw [ay]
  have h0i : ¬ (0 : Int) < (n : Int) := by omega
  clear hT1d hT1s hR UZ hT1 hT2 hH hV hn hnl hl h0
  by_cases he : R.data.toList = []
  ·have hq1 := qY he
   have hq2 : (R.toList == []) = true := by rw [hq1]; rfl
   have HE : Hid (H = .tuple #[.string R, .bool false, .string T2]) := by show _ = _; rw [hE, decide_eq_false (by simp [he])]
   clear hq1 he hE
   go_enter Tryz.func200, Tryz.ntmps200
   go_wp2_with fail
   refine (HQ.out _).mono ?_
   rintro e w2 ⟨rfl, hb2⟩
   have HB2 := hid hb2
   clear hb2
   go_wp2_with fail
   refine (HS.out _).mono ?_
   rintro e w3 ⟨rfl, hb3⟩
   have HB3 := hid (bel HB2.out hb3)
   clear hb3
   go_wp2_with fail
   refine (HR.out _).mono ?_
   rintro e w4 ⟨rfl, hb4⟩
   have HB4 := hid (bel HB3.out hb4)
   clear hb4
   go_wp2
   go_ret3
   exact ⟨by rw [HE.out]; rfl, HB4.out⟩
  ·have hq1 : (R.toList == []) = false := by rw [Lib.toList_data, beq_eq_false_iff_ne]; exact he
   have hq2 : R.toList.isEmpty = false := by rw [Lib.toList_data]; simpa using he
   have hq3 : ¬ R.toList = [] := by rw [Lib.toList_data]; exact he
   have HE : Hid (H = .tuple #[.string R, .bool true, .string T2]) := by show _ = _; rw [hE, decide_eq_true he]
   clear he hE
   go_enter Tryz.func200, Tryz.ntmps200
   go_wp2_with fail
   refine (HQ.out _).mono ?_
   rintro e w2 ⟨rfl, hb2⟩
   have HB2 := hid hb2
   clear hb2
   go_wp2_with fail
   refine (HS.out _).mono ?_
   rintro e w3 ⟨rfl, hb3⟩
   have HB3 := hid (bel HB2.out hb3)
   clear hb3
   go_wp2_with fail
   refine (HR.out _).mono ?_
   rintro e w4 ⟨rfl, hb4⟩
   have HB4 := hid (bel HB3.out hb4)
   clear hb4
   go_wp2
   go_ret3
   exact ⟨by rw [HE.out]; rfl, HB4.out⟩
def B2 (T : TypeId) (w : World) (g : Nat) (a b : Value) : Prop := w.heap[g]? = some (.cells #[a, b] T (0, 0))
theorem B2.lt {T : TypeId} {w : World} {g : Nat} {a b : Value} (h : B2 T w g a b) : g < w.heap.size := (Array.getElem?_eq_some_iff.1 h).1
theorem B2.facts {T : TypeId} {w : World} {g : Nat} {a b : Value} (h : B2 T w g a b) : w.cell? ⟨g, 0, none⟩ = some a ∧ w.cell? ⟨g, 1, none⟩ = some b :=
 ⟨cell_of_row w g 0 _ _ _ h, cell_of_row w g 1 _ _ _ h⟩
theorem B2.thaw {T : TypeId} {w : World} {g : Nat} {a b : Value} (h : B2 T w g a b) : w.frozen? ⟨g, 0, none⟩ = false ∧ w.frozen? ⟨g, 1, none⟩ = false :=
 ⟨frozen_of_row w g 0 _ _ h, frozen_of_row w g 1 _ _ h⟩
theorem B2.below {T : TypeId} {w w' : World} {g : Nat} {a b : Value} (h : B2 T w g a b) (hb : Below w.heap.size w w') : B2 T w' g a b := (hb.block g h.lt).trans h
def VD (w : World) (g : Nat) (a b : Value) : World := (w.setCell ⟨g, 0, none⟩ a).setCell ⟨g, 1, none⟩ b
theorem B2.put {T : TypeId} {w : World} {g : Nat} {a b : Value} (h : B2 T w g a b) (x y : Value) : B2 T (VD w g x y) g x y :=
 heap_setCell_same _ g 1 _ _ y (heap_setCell_same w g 0 _ _ x h)
theorem qO {w0 w : World} {B g : Nat} (h : Below B w0 w) (hg : B ≤ g) (x y : Value) : Below B w0 (VD w g x y) := (h.setCell hg _).setCell hg _
theorem B2.load {w : World} {g : Nat} {a b : Value} (h : B2 69 w g a b) : (loadVar 69 ⟨g, 0, none⟩).run Tryz.prog w = .ok (.agg #[a, b]) w :=
 run_loadVar_row w g _ _ #[a, b] (0, 0) _ h Tryz.underlying69 rfl (by
  rw [show (Tryz.prog.info? 69).map (·.size) = some 2 by kernel_rfl]
  rfl)
theorem Jm {w : World} {g : Nat} {a b : Value} (h : B2 69 w g a b) (ok : Bool) (s : ByteArray) (tmps : Array Value) (h2 : tmps.getD 2 undef = .pointer (some ⟨g, 0, none⟩)) (h3 : tmps.getD 3 undef = .bool ok) (h4 : tmps.getD 4 undef = .string s) :
  (results Tryz.f175 tmps).run Tryz.prog w = .ok (.tuple #[.agg #[a, b], .bool ok, .string s]) w := by
 have hp' : tmps[2]?.getD undef = .pointer (some ⟨g, 0, none⟩) := by simpa using h2
 have hq' : tmps[3]?.getD undef = .bool ok := by simpa using h3
 have hr' : tmps[4]?.getD undef = .string s := by simpa using h4
 simp [results, Tryz.results175, hp', hq', hr', asAddr, h.load]
def PmR (s : List UInt8) (e : Ending) : Prop := ∃ a b : ByteArray, e = .returned (.tuple #[.agg #[.string a, .string b], .bool (pm s).1.isSome, .string (strOf (pm s).2)]) ∧ ∀ p, (pm s).1 = some p → a = strOf p.1 ∧ b = strOf p.2
theorem Kz (s : ByteArray) (w : World) (hs : s.size ≤ 1073741824) : Calls Tryz.prog 175 #[.string s] w fun e w' => PmR s.data.toList e ∧ Below w.heap.size w w' := by
 have hl : s.data.toList.length = s.size := Array.length_toList
 obtain ⟨U, hU⟩ : ∃ U : ByteArray, U = strOf (tl s.data.toList) := ⟨_, rfl⟩
 have Ku : U.data.toList = tl s.data.toList := by rw [hU]; rfl
 have hUs : U.size ≤ 1073741824 := by rw [hU, ah]; have := BO s.data.toList; omega
 have HT : Hid (∀ w, Calls Tryz.prog 100 #[.string s, .string ⟨#[9, 10, 13, 32]⟩] w fun e w' => e = .returned (.string U) ∧ Below w.heap.size w w') := by
  show ∀ w, _
  rw [hU]
  exact fun w => Tryz.strings_TrimLeft_set s ⟨#[9, 10, 13, 32]⟩ w (by decide) (ascii_of_all (by decide))
 have HS := hid (fun w => split2 U w hUs)
 obtain ⟨N, hN⟩ : ∃ N, N = strOf (tw [59, 61] U.data.toList) := ⟨_, rfl⟩
 obtain ⟨R, hR⟩ : ∃ R, R = strOf (dw [59, 61] U.data.toList) := ⟨_, rfl⟩
 rw [← hN, ← hR] at HS
 have hNd : N.data.toList = tw [59, 61] (tl s.data.toList) := by rw [hN, ← Ku]; rfl
 have UZ : R.data.toList = dw [59, 61] (tl s.data.toList) := by rw [hR, ← Ku]; rfl
 have hNs : N.size ≤ 1073741824 := by
  rw [hN, ah, Ku]
  have := nJ [59, 61] (tl s.data.toList)
  have := BO s.data.toList
  omega
 have hRs : R.size ≤ 1073741824 := by
  rw [hR, ah, Ku]
  have := vX [59, 61] (tl s.data.toList)
  have := BO s.data.toList
  omega
 have hrl : R.data.toList.length = R.size := Array.length_toList
 cases hr : R.data.toList with
 | nil =>
  have hpm : pm s.data.toList = (none, []) := by unfold pm; rw [← UZ, hr]
  have hq1 := qY hr
  have hq2 : (R.toList == []) = true := by rw [hq1]; rfl
  have hRe : R = strOf [] := by rw [← ay R, hr]
  have HF : Hid (∀ e, e = .returned (.tuple #[.agg #[.string ⟨#[]⟩, .string ⟨#[]⟩], .bool false, .string R]) → PmR s.data.toList e) := by
   show ∀ e, _
   intro e he
   refine ⟨⟨#[]⟩, ⟨#[]⟩, ?_, ?_⟩
   ·rw [hpm, he, hRe]; rfl
   ·rw [hpm]; intro p hp; cases hp
  clear hN hR hNd UZ hNs hRs hrl hr hpm hq1 hRe hU Ku hUs hl
  go_enter Tryz.func175, Tryz.ntmps175
  go_upto_region 1 with (fail)
  generalize hw1 : w.alloc _ = w1
  have HB1 : Hid (Below w.heap.size w w1) := by show Below _ _ _; rw [← hw1]; exact (Below.refl _ _).alloc (Nat.le_refl _) _
  have jr : Hid (B2 69 w1 w.heap.size (.string ⟨#[]⟩) (.string ⟨#[]⟩)) := by show B2 _ _ _ _ _; rw [← hw1]; exact heap_alloc_new _ _
  clear hw1
  go_wp2_with fail
  refine (HT.out _).mono ?_
  rintro e w2 ⟨rfl, hb2⟩
  have iG := hid (jr.out.below hb2)
  have HB2 := hid (bel HB1.out hb2)
  clear hb2
  go_wp2_with fail
  refine (HS.out _).mono ?_
  rintro e w3 ⟨rfl, hb3⟩
  have jd := hid (iG.out.below hb3)
  have HB3 := hid (bel HB2.out hb3)
  clear hb3
  obtain ⟨f0, f1⟩ := jd.out.thaw
  obtain ⟨k0, k1⟩ := jd.out.facts
  go_wp2
  refine bodyPost_ret (w := VD _ w.heap.size _ _) (Jm (jd.out.put _ _) false R _ rfl rfl rfl) rfl ⟨HF.out _ rfl, qO HB3.out (Nat.le_refl _) _ _⟩
 | cons c r =>
  have hq1 : (R.toList == []) = false := by rw [Lib.toList_data, hr]; rfl
  have hq2 : R.toList.isEmpty = false := by rw [Lib.toList_data, hr]; rfl
  have hq3 : ¬ R.toList = [] := by rw [Lib.toList_data, hr]; simp
  have hR1 : 1 ≤ R.size := by rw [← hrl, hr]; simp
  have h0i : (0 : Int) < (R.size : Int) := by omega
  have h1i : (1 : Int) ≤ (R.size : Int) := by omega
  have hR0 : R[0] = c := by
   have : R.data.toList[0]'(by omega) = R[0] := rfl
   rw [← this]
   simp only [hr, List.getElem_cons_zero]
  by_cases hc : c = 59
  ·have hpm : pm s.data.toList = (none, R.data.toList) := by unfold pm; rw [← UZ, hr]; simp only []; rw [if_pos hc]
   have hcc : ((c.toNat : Int) == 59) = true := by rw [hc]; rfl
   have HF : Hid (∀ e, e = .returned (.tuple #[.agg #[.string ⟨#[]⟩, .string ⟨#[]⟩], .bool false, .string R]) → PmR s.data.toList e) := by
    show ∀ e, _
    intro e he
    refine ⟨⟨#[]⟩, ⟨#[]⟩, ?_, ?_⟩
    ·rw [hpm, he]
     show _ = Ending.returned (.tuple #[_, _, .string (strOf R.data.toList)])
     rw [ay]
     rfl
    ·rw [hpm]; intro p hp; cases hp
   clear hN hR hNd UZ hNs hRs hrl hr hpm hU Ku hUs hl hc
   go_enter Tryz.func175, Tryz.ntmps175
   go_upto_region 1 with (fail)
   generalize hw1 : w.alloc _ = w1
   have HB1 : Hid (Below w.heap.size w w1) := by show Below _ _ _; rw [← hw1]; exact (Below.refl _ _).alloc (Nat.le_refl _) _
   have jr : Hid (B2 69 w1 w.heap.size (.string ⟨#[]⟩) (.string ⟨#[]⟩)) := by show B2 _ _ _ _ _; rw [← hw1]; exact heap_alloc_new _ _
   clear hw1
   go_wp2_with fail
   refine (HT.out _).mono ?_
   rintro e w2 ⟨rfl, hb2⟩
   have iG := hid (jr.out.below hb2)
   have HB2 := hid (bel HB1.out hb2)
   clear hb2
   go_wp2_with fail
   refine (HS.out _).mono ?_
   rintro e w3 ⟨rfl, hb3⟩
   have jd := hid (iG.out.below hb3)
   have HB3 := hid (bel HB2.out hb3)
   clear hb3
   obtain ⟨f0, f1⟩ := jd.out.thaw
   obtain ⟨k0, k1⟩ := jd.out.facts
   go_wp2
   refine bodyPost_ret (w := VD _ w.heap.size _ _) (Jm (jd.out.put _ _) false R _ rfl rfl rfl) rfl ⟨HF.out _ rfl, qO HB3.out (Nat.le_refl _) _ _⟩
  ·have hcc : ((c.toNat : Int) == 59) = false := by
    rw [beq_eq_false_iff_ne]
    intro e
    exact hc (UInt8.toNat_inj.1 (by show _ = 59; omega))
   obtain ⟨Y, hY⟩ : ∃ Y, Y = R.extract 1 R.size := ⟨_, rfl⟩
   have hYd : Y.data.toList = r := by rw [hY, ext_drop, hr]; rfl
   have hYs : Y.size ≤ 1073741824 := by rw [hY, ByteArray.size_extract]; omega
   obtain ⟨V, hV⟩ : ∃ V : ByteArray, V = strOf (vl r).1 := ⟨_, rfl⟩
   obtain ⟨Z, hZ⟩ : ∃ Z : ByteArray, Z = strOf (vl r).2.2 := ⟨_, rfl⟩
   have hVd : V.data.toList = (vl r).1 := by rw [hV]; rfl
   have hVs : V.size ≤ 1073741824 := by
    rw [hV, ah]
    have := BR r
    have : r.length + 1 = R.size := by rw [← hrl, hr]; rfl
    omega
   have hvl := fun w => Z8 Y w hYs
   rw [hYd, show VlV r = .tuple #[.string V, .bool (vl r).2.1, .string Z] by rw [hV, hZ]; rfl] at hvl
   obtain ⟨L, hL⟩ : ∃ L : ByteArray, L = strOf (lower N.data.toList) := ⟨_, rfl⟩
   have TJ : Hid (∀ w, Calls Tryz.prog 75 #[.string N] w fun e w' => e = .returned (.string L) ∧ Below w.heap.size w w') := by
    show ∀ w, _
    rw [hL]
    exact fun w => fE.gq N w (by unfold maxLen; omega)
   have hpm : pm s.data.toList = (if ((vl r).2.1 && cZ N.data.toList && vO.quotable V.data.toList) = true then some (lower N.data.toList, (vl r).1) else none, (vl r).2.2) := by
    unfold pm
    rw [← UZ, hr]
    simp only []
    rw [if_neg hc, ← hNd, hVd]
    rfl
   have HF0 : Hid (∀ (b : Bool) e, b = ((vl r).2.1 && cZ N.data.toList && vO.quotable V.data.toList) → e = .returned (.tuple #[.agg #[.string L, .string V], .bool b, .string Z]) → PmR s.data.toList e) := by
    show ∀ b e, _
    intro b e hb he
    refine ⟨L, V, ?_, ?_⟩
    ·rw [hpm, he, hZ, hb]
     cases ((vl r).2.1 && cZ N.data.toList && vO.quotable V.data.toList) <;> rfl
    ·rw [hpm]
     intro p hp
     split at hp
     ·injection hp with hp
      rw [← hp, hL, hV]
      exact ⟨rfl, rfl⟩
     ·cases hp
   have HIS0 := fun w => vN.IC N w hNs
   have HQU0 := fun w => vO.DX V w hVs
   have HY := hid hY
   clear hN hR hNd UZ hNs hRs hrl hr hpm hU Ku hUs hl hc hY hYd hYs hVd hVs hV hZ hL
   generalize (vl r).2.1 = bg at hvl HF0
   generalize cZ N.data.toList = bi at HIS0 HF0
   generalize vO.quotable V.data.toList = bq at HQU0 HF0
   have HVL := hid hvl
   have HIS := hid HIS0
   have WA := hid HQU0
   clear hvl HIS0 HQU0
   cases bg with
   | false =>
    have HF : Hid (∀ e, e = .returned (.tuple #[.agg #[.string L, .string V], .bool false, .string Z]) → PmR s.data.toList e) := fun e => HF0.out false e (by simp)
    go_enter Tryz.func175, Tryz.ntmps175
    go_upto_region 1 with (fail)
    generalize hw1 : w.alloc _ = w1
    have HB1 : Hid (Below w.heap.size w w1) := by show Below _ _ _; rw [← hw1]; exact (Below.refl _ _).alloc (Nat.le_refl _) _
    have jr : Hid (B2 69 w1 w.heap.size (.string ⟨#[]⟩) (.string ⟨#[]⟩)) := by show B2 _ _ _ _ _; rw [← hw1]; exact heap_alloc_new _ _
    clear hw1
    go_wp2_with fail
    refine (HT.out _).mono ?_
    rintro e w2 ⟨rfl, hb2⟩
    have iG := hid (jr.out.below hb2)
    have HB2 := hid (bel HB1.out hb2)
    clear hb2
    go_wp2_with fail
    refine (HS.out _).mono ?_
    rintro e w3 ⟨rfl, hb3⟩
    have jd := hid (iG.out.below hb3)
    have HB3 := hid (bel HB2.out hb3)
    clear hb3
    go_wp2_with fail
    rw [← HY.out]
    refine (HVL.out _).mono ?_
    rintro e w4 ⟨rfl, hb4⟩
    have mQ := hid (jd.out.below hb4)
    have HB4 := hid (bel HB3.out hb4)
    clear hb4
    go_wp2_with fail
    refine (TJ.out _).mono ?_
    rintro e w7 ⟨rfl, hb7⟩
    have xR := hid (mQ.out.below hb7)
    have rD := hid (bel HB4.out hb7)
    clear hb7
    obtain ⟨f0, f1⟩ := xR.out.thaw
    obtain ⟨k0, k1⟩ := xR.out.facts
    go_wp2
    refine bodyPost_ret (w := VD _ w.heap.size _ _) (Jm (xR.out.put _ _) false Z _ rfl rfl rfl) rfl ⟨HF.out _ rfl, qO rD.out (Nat.le_refl _) _ _⟩
   | true =>
    cases bi with
    | false =>
     have HF : Hid (∀ e, e = .returned (.tuple #[.agg #[.string L, .string V], .bool false, .string Z]) → PmR s.data.toList e) := fun e => HF0.out false e (by simp)
     go_enter Tryz.func175, Tryz.ntmps175
     go_upto_region 1 with (fail)
     generalize hw1 : w.alloc _ = w1
     have HB1 : Hid (Below w.heap.size w w1) := by show Below _ _ _; rw [← hw1]; exact (Below.refl _ _).alloc (Nat.le_refl _) _
     have jr : Hid (B2 69 w1 w.heap.size (.string ⟨#[]⟩) (.string ⟨#[]⟩)) := by show B2 _ _ _ _ _; rw [← hw1]; exact heap_alloc_new _ _
     clear hw1
     go_wp2_with fail
     refine (HT.out _).mono ?_
     rintro e w2 ⟨rfl, hb2⟩
     have iG := hid (jr.out.below hb2)
     have HB2 := hid (bel HB1.out hb2)
     clear hb2
     go_wp2_with fail
     refine (HS.out _).mono ?_
     rintro e w3 ⟨rfl, hb3⟩
     have jd := hid (iG.out.below hb3)
     have HB3 := hid (bel HB2.out hb3)
     clear hb3
     go_wp2_with fail
     rw [← HY.out]
     refine (HVL.out _).mono ?_
     rintro e w4 ⟨rfl, hb4⟩
     have mQ := hid (jd.out.below hb4)
     have HB4 := hid (bel HB3.out hb4)
     clear hb4
     go_wp2_with fail
     refine (HIS.out _).mono ?_
     rintro e w5 ⟨rfl, hw5⟩
     subst hw5
     go_wp2_with fail
     refine (TJ.out _).mono ?_
     rintro e w7 ⟨rfl, hb7⟩
     have xR := hid (mQ.out.below hb7)
     have rD := hid (bel HB4.out hb7)
     clear hb7
     obtain ⟨f0, f1⟩ := xR.out.thaw
     obtain ⟨k0, k1⟩ := xR.out.facts
     go_wp2
     refine bodyPost_ret (w := VD _ w.heap.size _ _) (Jm (xR.out.put _ _) false Z _ rfl rfl rfl) rfl ⟨HF.out _ rfl, qO rD.out (Nat.le_refl _) _ _⟩
    | true =>
     have HF : Hid (∀ e, e = .returned (.tuple #[.agg #[.string L, .string V], .bool bq, .string Z]) → PmR s.data.toList e) := fun e => HF0.out bq e (by simp)
     go_enter Tryz.func175, Tryz.ntmps175
     go_upto_region 1 with (fail)
     generalize hw1 : w.alloc _ = w1
     have HB1 : Hid (Below w.heap.size w w1) := by show Below _ _ _; rw [← hw1]; exact (Below.refl _ _).alloc (Nat.le_refl _) _
     have jr : Hid (B2 69 w1 w.heap.size (.string ⟨#[]⟩) (.string ⟨#[]⟩)) := by show B2 _ _ _ _ _; rw [← hw1]; exact heap_alloc_new _ _
     clear hw1
     go_wp2_with fail
     refine (HT.out _).mono ?_
     rintro e w2 ⟨rfl, hb2⟩
     have iG := hid (jr.out.below hb2)
     have HB2 := hid (bel HB1.out hb2)
     clear hb2
     go_wp2_with fail
     refine (HS.out _).mono ?_
     rintro e w3 ⟨rfl, hb3⟩
     have jd := hid (iG.out.below hb3)
     have HB3 := hid (bel HB2.out hb3)
     clear hb3
     go_wp2_with fail
     rw [← HY.out]
     refine (HVL.out _).mono ?_
     rintro e w4 ⟨rfl, hb4⟩
     have mQ := hid (jd.out.below hb4)
     have HB4 := hid (bel HB3.out hb4)
     clear hb4
     go_wp2_with fail
     refine (HIS.out _).mono ?_
     rintro e w5 ⟨rfl, hw5⟩
     subst hw5
     go_wp2_with fail
     refine (WA.out _).mono ?_
     rintro e w6 ⟨rfl, hb6⟩
     have Nh := hid (mQ.out.below hb6)
     have sW := hid (bel HB4.out hb6)
     clear hb6
     go_wp2_with fail
     refine (TJ.out _).mono ?_
     rintro e w7 ⟨rfl, hb7⟩
     have xR := hid (Nh.out.below hb7)
     have rD := hid (bel sW.out hb7)
     clear hb7
     obtain ⟨f0, f1⟩ := xR.out.thaw
     obtain ⟨k0, k1⟩ := xR.out.facts
     go_wp2
     refine bodyPost_ret (w := VD _ w.heap.size _ _) (Jm (xR.out.put _ _) bq Z _ rfl rfl rfl) rfl ⟨HF.out _ rfl, qO rD.out (Nat.le_refl _) _ _⟩
end Go.Proofs.YtcfgioklgmlclaaGreatDoor.G5
namespace Go.Proofs.YtcfgioklgmlclaaGreatDoor.J7
open Go Go.RowKit Go.Maps Base aP aan fE nV qL GZ G5
def Says (w : World) (b n : Nat) (names : List (List UInt8)) : Prop := ∃ D : DataW Unit, w.ownsMap Tryz.prog 9 (plainElem Tryz.prog 3) b n D ∧ IsMap D ∧ ∀ name : List UInt8, D.atKey (.string name) (.lit (.int .i64 0)) = .lit (.int .i64 (if name ∈ names then 1 else 0))
theorem law : Keyed Tryz.prog 9 := string_keyed Tryz.underlying9
theorem zeroE (w : World) : (zeroValue 3).run Tryz.prog w = .ok (.int .i64 0) w := by kernel_rfl
theorem Says.made (w : World) : Says (w.alloc (.map #[] 0)) w.heap.size 0 [] := ⟨.map [], World.ownsMap_made _ _ _ _, ⟨[], rfl⟩, fun _ => rfl⟩
theorem Says.lt {w : World} {b n : Nat} {l : List (List UInt8)} (h : Says w b n l) : b < w.heap.size := by obtain ⟨D, h, _⟩ := h; exact h.lt
theorem Says.kept {w w' : World} {b n : Nat} {l : List (List UInt8)} {row : Option Nat} (h : Says w b n l) (hg : w.grownBy w' row) (hne : some b ≠ row) : Says w' b n l := by
 obtain ⟨D, h1, h2, h3⟩ := h
 exact ⟨D, h1.kept hg hne, h2, h3⟩
theorem Says.below {w w' : World} {b n : Nat} {l : List (List UInt8)} (h : Says w b n l) (hb : Below w.heap.size w w') : Says w' b n l := by
 have hlt := h.lt
 obtain ⟨D, h1, h2, h3⟩ := h
 obtain ⟨es, clock, hb1, F, hs, hD⟩ := h1
 exact ⟨D, ⟨es, clock, (hb.block b hlt).trans hb1, F, hs, hD⟩, h2, h3⟩
theorem Says.set {w : World} {b n g i : Nat} {l : List (List UInt8)} {u : Value} (h : Says w b n l) (hne : b ≠ g) : Says (w.setCell ⟨g, i, none⟩ u) b n l := by
 obtain ⟨D, h1, h2, h3⟩ := h
 obtain ⟨es, clock, hb1, F, hs, hD⟩ := h1
 exact ⟨D, ⟨es, clock, (heap_setCell_other w ⟨g, i, none⟩ b u hne).trans hb1, F, hs, hD⟩, h2, h3⟩
theorem Says.look {w : World} {b n : Nat} {l : List (List UInt8)} (h : Says w b n l) (s : ByteArray) (hs : s.size ≤ maxLen) : (Instr.lookup 123 (.map (some b)) (.string s) false).run Tryz.prog w = .ok (.int .i64 (if s.data.toList ∈ l then 1 else 0)) w := by
 obtain ⟨D, h1, h2, h3⟩ := h
 obtain ⟨c, hrun, hat, _⟩ := h1.lookup_int law Tryz.underlying123 Tryz.underlying3 (zeroE w) (WideMaps.keyOf_string_mk Tryz.underlying9 hs)
 rw [h3] at hat
 injection hat with hat
 injection hat with _ hat
 rw [hrun, hat]
theorem Says.put {w : World} {b n : Nat} {l : List (List UInt8)} (h : Says w b n l) (s : ByteArray) (hs : s.size ≤ maxLen) (hn : n < maxLen) :
  ∃ w', (Instr.mapUpdate 123 (.map (some b)) (.string s) (.int .i64 1)).run Tryz.prog w = .ok () w' ∧ Says w' b (n + 1) (s.data.toList :: l) ∧ w.grownBy w' (some b) := by
 obtain ⟨D, h1, h2, h3⟩ := h
 obtain ⟨w', hrun, hown, hg⟩ := h1.update law Tryz.underlying123 hn (WideMaps.keyOf_string_mk Tryz.underlying9 hs) (plainElem_int Tryz.underlying3 (show (Lit.int .i64 1).wf = true by decide))
 refine ⟨w', hrun, ⟨_, hown, IsMap.put h2 _ _, fun name => ?_⟩, hg⟩
 by_cases he : name = s.data.toList
 ·rw [he, atKey_put_same h2 (by trivial), if_pos (by simp)]
 ·rw [atKey_put_other (fun e => he (by injection e)), h3]
  congr 2
  by_cases hm : name ∈ l
  ·rw [if_pos hm, if_pos (by simp [hm])]
  ·rw [if_neg hm, if_neg (by simp [hm, he])]
def cu (l : List (List UInt8 × List UInt8)) : List Value := l.flatMap fun p => [.string (strOf p.1), .string (strOf p.2)]
theorem yN (l : List (List UInt8 × List UInt8)) (p : List UInt8 × List UInt8) : cu (l ++ [p]) = cu l ++ [.string (strOf p.1), .string (strOf p.2)] := by simp [cu]
theorem Px (a b : ByteArray) : ∀ u ∈ [Value.string a, Value.string b], u.oneCell' = true := by
 intro u hu
 simp at hu
 rcases hu with rfl | rfl <;> rfl
theorem Iz : (Tryz.prog.info? 69).map (fun i => (i.zero, i.size, i.bytes)) = some (some (.agg #[.string ByteArray.empty, .string ByteArray.empty]), 2, 32) := by kernel_rfl
theorem Iq (n : List UInt8) (acc : List (List UInt8 × List UInt8)) (names : List (List UInt8)) (h : ∀ x, x ∈ names ↔ x ∈ acc.map (·.1)) : zU n acc = decide (n ∈ names) := by
 unfold zU
 rw [Bool.eq_iff_iff, List.any_eq_true, decide_eq_true_iff, h, List.mem_map]
 constructor
 ·rintro ⟨p, hp, he⟩
  exact ⟨p, hp, by simpa using he⟩
 ·rintro ⟨p, hp, he⟩
  exact ⟨p, hp, by simpa using he⟩
def ssize : Value → Nat
 | .string s => s.size
 | _ => 0
theorem IX {w : World} {B b n m : Nat} {v : Value} {xs : List Value} {l : List (List UInt8)} {e : TypeId} {size : Nat} (ho : w.ownsRow B e size v n xs) (h : Says w b m l) : v.ownBlock ≠ some b := by
 obtain ⟨D, ⟨es, clock, hb, _⟩, _⟩ := h
 rcases ho.2 with ⟨rfl, _⟩ | ⟨g', cap, cur, rfl, _, hh, _⟩
 ·simp [Value.ownBlock]
 ·intro he
  have : g' = b := by simpa [Value.ownBlock] using he
  subst this
  rw [hh] at hb
  cases hb
theorem FH {t : List UInt8} {p : List UInt8 × List UInt8} (h : (pm t).1 = some p) : p.1.length ≤ t.length := by
 unfold pm at h
 split at h
 ·cases h
 ·split at h
  ·cases h
  ·have h' : (if ((vl _).2.1 && cZ (tw [59, 61] (tl t)) && pm.Me (vl _).1) = true then some (lower (tw [59, 61] (tl t)), (vl _).1) else none) = some p := h
   split at h'
   ·injection h' with h'
    subst h'
    have h1 := nJ [59, 61] (tl t)
    have h2 := BO t
    simp [lower]
    omega
   ·cases h'
theorem sK {w : World} {B g i n size : Nat} {e : TypeId} {v x : Value} {xs : List Value} (ho : w.ownsRow B e size v n xs) (hne : v.ownBlock ≠ some g) : (w.setCell ⟨g, i, none⟩ x).ownsRow B e size v n xs := by
 refine ⟨ho.1, ?_⟩
 rcases ho.2 with hn | ⟨g', cap, cur, rfl, hb, hh, rest⟩
 ·exact .inl hn
 ·refine .inr ⟨g', cap, cur, rfl, hb, ?_, rest⟩
  exact (heap_setCell_other w ⟨g, i, none⟩ g' x (fun e => hne (by rw [e]; rfl))).trans hh
def OwnP (w : World) (l : List (List UInt8 × List UInt8)) (e : Ending) (w' : World) : Prop := ∃ v, e = .returned v ∧ w'.ownsRow w.heap.size 69 2 v l.length (cu l) ∧ Below w.heap.size w w'
theorem IY (s : ByteArray) (w : World) (hs : s.size ≤ 1048576) : Calls Tryz.prog 129 #[.string s] w (OwnP w (jF s.data.toList [])) := by
 obtain ⟨i0, hi, hz0, hz1, hz2⟩ := info_parts Iz
 have hmm := @run_makeMap Tryz.prog
 have HS := hid hs
 clear hs
 go_enter Tryz.func129, Tryz.ntmps129
 go_wp2_with fail
 clear hmm
 go_loopw [0, 3, 5, 6] (fun v0 v3 _ _ wr => ∃ (R : ByteArray) (acc : List (List UInt8 × List UInt8)) (names : List (List UInt8)) (k : Nat), v0 = .string R ∧ Hid (wr.ownsRow w.heap.size 69 2 v3 acc.length (cu acc)) ∧ Hid (Says wr w.heap.size k names) ∧ Hid (∀ x, x ∈ names ↔ x ∈ acc.map (·.1)) ∧ Hid (Below w.heap.size w wr) ∧ Hid (jF R.data.toList acc = jF s.data.toList []) ∧ acc.length + R.size ≤ s.size ∧ k + R.size ≤ s.size) (fun v0 _ _ _ _ => ssize v0)
 case atStart => exact ⟨s, [], [], 0, rfl, World.ownsRow_nil _ _ _ _, Says.made _, by show ∀ x, _; simp, (Below.refl _ _).alloc (Nat.le_refl _) _, rfl, by simp, by omega⟩
 case round =>
  obtain ⟨R, acc, names, k, rfl, HO, HM, HN, HB, HW, hal, hkl⟩ := hrel
  have hrl : R.data.toList.length = R.size := Array.length_toList
  cases hr : R.data.toList with
  | nil =>
   have hq1 := qY hr
   have hq2 : (R.toList == []) = true := by rw [hq1]; rfl
   have HE : Hid (acc = jF s.data.toList []) := by show _ = _; rw [← HW.out, hr, Jd]
   clear hr hq1 hrl
   go_wp2
   go_ret
   exact ⟨_, rfl, by rw [← HE.out]; exact HO.out, HB.out⟩
  | cons c t =>
   have hq1 : (R.toList == []) = false := by rw [Lib.toList_data, hr]; rfl
   have hq2 : R.toList.isEmpty = false := by rw [Lib.toList_data, hr]; rfl
   have hq3 : ¬ R.toList = [] := by rw [Lib.toList_data, hr]; simp
   have hR1 : R.size = t.length + 1 := by rw [← hrl, hr]; rfl
   have h1i : (1 : Int) ≤ (R.size : Int) := by omega
   obtain ⟨Y, hY⟩ : ∃ Y, Y = R.extract 1 R.size := ⟨_, rfl⟩
   have hYd : Y.data.toList = t := by rw [hY, ext_drop, hr]; rfl
   have hss : s.size ≤ 1048576 := HS.out
   have hYs : Y.size ≤ 1073741824 := by rw [hY, ByteArray.size_extract]; omega
   have hpl := OJ t
   have hWn : jF (pm t).2 (xA acc (pm t).1) = jF s.data.toList [] := by rw [← HW.out, hr, zH]
   have hpa := fun w => Kz Y w hYs
   rw [hYd] at hpa
   have rH := hid hpa
   obtain ⟨Z, hZ⟩ : ∃ Z : ByteArray, Z = strOf (pm t).2 := ⟨_, rfl⟩
   have hZd : Z.data.toList = (pm t).2 := by rw [hZ]; rfl
   have hZs : Z.size = (pm t).2.length := by rw [hZ, ah]
   have hZR : Z.size < R.size := by omega
   have HZ := hid hZ
   rw [← hZd] at hWn
   have HY := hid hY
   have Nc := hid hWn
   have Nb : Hid (∀ p, (pm t).1 = some p → p.1.length ≤ t.length) := by
    show ∀ p, _
    intro p hp
    exact FH hp
   have HR1 := hid hR1
   clear hr hrl hR1 hY hYd hYs hpl hWn hpa hZ hZd hZs HW
   cases hp : (pm t).1 with
   | none =>
    have WC : Hid ((pm t).1.isSome = false) := by show _ = _; rw [hp]; rfl
    have aaI : Hid (jF Z.data.toList acc = jF s.data.toList []) := by show _ = _; rw [← Nc.out, hp]; rfl
    clear hp
    go_wp2_with fail
    rw [← HY.out]
    generalize gI : wr.alloc _ = wa
    have iq : Hid (B2 69 wa wr.heap.size (.string ⟨#[]⟩) (.string ⟨#[]⟩)) := by show B2 _ _ _ _ _; rw [← gI]; exact heap_alloc_new _ _
    have gZ : Hid (Below w.heap.size w wa) := by show Below _ _ _; rw [← gI]; exact HB.out.alloc HB.out.size _
    have HOa : Hid (wa.ownsRow w.heap.size 69 2 u3 acc.length (cu acc)) := by show World.ownsRow _ _ _ _ _ _ _; rw [← gI]; exact HO.out.alloc _
    have HMa : Hid (Says wa w.heap.size k names) := by show Says _ _ _ _; rw [← gI]; exact HM.out.kept (World.grownBy_alloc _ _ none) (by simp)
    have HOL : Hid (u3.ownBlock ≠ some wr.heap.size) := by
     show _ ≠ _
     intro e
     have := (HO.out.lt _ e).2
     omega
    have qI : Hid (w.heap.size ≠ wr.heap.size) := by show _ ≠ _; have := HM.out.lt; omega
    have hgw : w.heap.size ≤ wr.heap.size := HB.out.size
    have HGW := hid hgw
    clear gI HB HO HM hgw
    refine (rH.out _).mono ?_
    rintro e w2 ⟨⟨a, b, rfl, hab⟩, hb2⟩
    rw [← HZ.out, WC.out]
    have HAB := hid hab
    have iG := hid (iq.out.below hb2)
    have HB2 := hid (bel gZ.out hb2)
    have jI := hid (aI HOa.out hb2)
    have TW := hid (HMa.out.below hb2)
    clear hb2 hab iq gZ HOa HMa
    obtain ⟨f0, f1⟩ := iG.out.thaw
    obtain ⟨k0, k1⟩ := iG.out.facts
    go_upto_region 7 with (fail)
    clear f0 f1 k0 k1
    generalize hw3 : (w2.setCell _ _).setCell _ _ = w3
    have jd : Hid (B2 69 w3 wr.heap.size (.string a) (.string b)) := by show B2 _ _ _ _ _; rw [← hw3]; exact iG.out.put _ _
    have HB3 : Hid (Below w.heap.size w w3) := by show Below _ _ _; rw [← hw3]; exact (HB2.out.setCell HGW.out _).setCell HGW.out _
    have ig : Hid (w3.ownsRow w.heap.size 69 2 u3 acc.length (cu acc)) := by show World.ownsRow _ _ _ _ _ _ _; rw [← hw3]; exact sK (sK jI.out HOL.out) HOL.out
    have Wx : Hid (Says w3 w.heap.size k names) := by show Says _ _ _ _; rw [← hw3]; exact (TW.out.set qI.out).set qI.out
    clear hw3 iG HB2 jI TW
    go_wp2
    go_roundw
    case rel => exact ⟨Z, acc, names, k, rfl, ig.out, Wx.out, HN.out, HB3.out, aaI.out, by omega, by omega⟩
    case measure => simp [ssize]; omega
   | some p =>
    have WC : Hid ((pm t).1.isSome = true) := by show _ = _; rw [hp]; rfl
    have hpl := Nb.out p hp
    have hr1 : t.length < R.size := by have := HR1.out; omega
    have HP := hid hp
    by_cases hm : p.1 ∈ names
    focus
     have aaI : Hid (jF Z.data.toList acc = jF s.data.toList []) := by
      show _ = _
      rw [← Nc.out, hp]
      unfold xA
      simp only []
      rw [Iq _ _ _ HN.out, if_pos (by rw [decide_eq_true_iff]; exact hm)]
    rotate_left
    focus
     have aaI : Hid (jF Z.data.toList (acc ++ [p]) = jF s.data.toList []) := by
      show _ = _
      rw [← Nc.out, hp]
      unfold xA
      simp only []
      rw [Iq _ _ _ HN.out, if_neg (by rw [decide_eq_true_iff]; exact hm)]
    rotate_left
    all_goals
     have HMM := hid hm
     clear hp hm
     go_wp2_with fail
     rw [← HY.out]
     generalize gI : wr.alloc _ = wa
     have iq : Hid (B2 69 wa wr.heap.size (.string ⟨#[]⟩) (.string ⟨#[]⟩)) := by show B2 _ _ _ _ _; rw [← gI]; exact heap_alloc_new _ _
     have gZ : Hid (Below w.heap.size w wa) := by show Below _ _ _; rw [← gI]; exact HB.out.alloc HB.out.size _
     have HOa : Hid (wa.ownsRow w.heap.size 69 2 u3 acc.length (cu acc)) := by show World.ownsRow _ _ _ _ _ _ _; rw [← gI]; exact HO.out.alloc _
     have HMa : Hid (Says wa w.heap.size k names) := by show Says _ _ _ _; rw [← gI]; exact HM.out.kept (World.grownBy_alloc _ _ none) (by simp)
     have HOL : Hid (u3.ownBlock ≠ some wr.heap.size) := by
      show _ ≠ _
      intro e
      have := (HO.out.lt _ e).2
      omega
     have qI : Hid (w.heap.size ≠ wr.heap.size) := by show _ ≠ _; have := HM.out.lt; omega
     have hgw : w.heap.size ≤ wr.heap.size := HB.out.size
     have HGW := hid hgw
     clear gI HB HO HM hgw
     refine (rH.out _).mono ?_
     rintro e w2 ⟨⟨a, b, rfl, hab⟩, hb2⟩
     rw [← HZ.out, WC.out]
     have HAB := hid hab
     have iG := hid (iq.out.below hb2)
     have HB2 := hid (bel gZ.out hb2)
     have jI := hid (aI HOa.out hb2)
     have TW := hid (HMa.out.below hb2)
     clear hb2 hab iq gZ HOa HMa
     obtain ⟨f0, f1⟩ := iG.out.thaw
     obtain ⟨k0, k1⟩ := iG.out.facts
     go_upto_region 7 with (fail)
     clear f0 f1 k0 k1
     generalize hw3 : (w2.setCell _ _).setCell _ _ = w3
     have jd : Hid (B2 69 w3 wr.heap.size (.string a) (.string b)) := by show B2 _ _ _ _ _; rw [← hw3]; exact iG.out.put _ _
     have HB3 : Hid (Below w.heap.size w w3) := by show Below _ _ _; rw [← hw3]; exact (HB2.out.setCell HGW.out _).setCell HGW.out _
     have ig : Hid (w3.ownsRow w.heap.size 69 2 u3 acc.length (cu acc)) := by show World.ownsRow _ _ _ _ _ _ _; rw [← hw3]; exact sK (sK jI.out HOL.out) HOL.out
     have Wx : Hid (Says w3 w.heap.size k names) := by show Says _ _ _ _; rw [← hw3]; exact (TW.out.set qI.out).set qI.out
     clear hw3 iG HB2 jI TW
     obtain ⟨ha, hb⟩ := HAB.out p HP.out
    ·have hlk := Wx.out.look a (by rw [ha, ah]; unfold maxLen; omega)
     rw [show a.data.toList = p.1 by rw [ha]; rfl, if_pos HMM.out] at hlk
     clear ha hb
     obtain ⟨k0, k1⟩ := jd.out.facts
     go_wp2
     go_roundw
     case rel => exact ⟨Z, acc, names, k, rfl, ig.out, Wx.out, HN.out, HB3.out, aaI.out, by omega, by omega⟩
     case measure => simp [ssize]; omega
    ·have aci : a.size ≤ maxLen := by rw [ha, ah]; unfold maxLen; omega
     have hlk := Wx.out.look a aci
     rw [show a.data.toList = p.1 by rw [ha]; rfl, if_neg HMM.out] at hlk
     obtain ⟨w4, hput, hS4, hg4⟩ := Wx.out.put a aci (by unfold maxLen; omega)
     rw [show a.data.toList = p.1 by rw [ha]; rfl] at hS4
     have HS4 := hid hS4
     have mQ : Hid (B2 69 w4 wr.heap.size (.string a) (.string b)) := (hg4.block _ jd.out.lt (by intro e; injection e with e; exact qI.out e.symm)).trans jd.out
     have HB4 : Hid (Below w.heap.size w w4) := HB3.out.grown hg4 HB3.out.size (fun g hg => by injection hg with hg; omega)
     have GN : Hid (w4.ownsRow w.heap.size 69 2 u3 acc.length (cu acc)) := ig.out.kept hg4 (.inr (IX ig.out Wx.out))
     have HAE : Hid (a = strOf p.1 ∧ b = strOf p.2) := ⟨ha, hb⟩
     clear ha hb hS4 hg4 aci
     obtain ⟨k0, k1⟩ := jd.out.facts
     obtain ⟨l0, l1⟩ := mQ.out.facts
     go_wp2_with (at_builtin; refine zk 2 rfl _ _ 27 rfl w.heap.size 69 i0 _ 32 Tryz.underlying27 hi hz0 hz1 hz2 rfl (by decide) u3 acc.length (cu acc) rfl GN.out HB4.out HB4.out.size [.string a, .string b] 1 rfl rfl (Px a b) (by unfold maxLen; omega) (by omega) ?_)
     intro v' w5 hown5 qU hgr5
     have HM5 : Hid (Says w5 w.heap.size (k + 1) (p.1 :: names)) := (HS4.out.kept (World.grownBy_alloc _ _ none) (by simp)).kept hgr5 (fun e => IX GN.out HS4.out e.symm)
     go_wp2
     go_roundw
     case rel => exact ⟨Z, acc ++ [p], p.1 :: names, k + 1, rfl, by
       show World.ownsRow _ _ _ _ _ _ _
       rw [yN, List.length_append, ← HAE.out.1, ← HAE.out.2]
       exact hown5, HM5.out, by
       show ∀ x, _
       intro x
       have := HN.out x
       simp only [List.mem_cons, List.map_append, List.mem_append, this]
       simp
       exact Or.comm, qU, aaI.out, by simp; omega, by omega⟩
     case measure => simp [ssize]; omega
end Go.Proofs.YtcfgioklgmlclaaGreatDoor.J7
namespace Go.Proofs.YtcfgioklgmlclaaGreatDoor.uq
open Go.ChangeShapes Go.WideShapes Go.ChangeAt Go.RowKit Go.Deep Base
def kV (w : World) (A : Option Addr) (n : Nat) (l : List (ByteArray × ByteArray)) : Prop :=
 l.length = n ∧ ∀ j (h : j < l.length), ∃ b off, A = some ⟨b, off, none⟩ ∧ b < w.heap.size ∧ w.cell? ⟨b, off + j * 2, none⟩ = some (.string l[j].1) ∧ w.cell? ⟨b, off + j * 2 + 1, none⟩ = some (.string l[j].2)
theorem kV.below {w w' : World} {A : Option Addr} {n : Nat} {l : List (ByteArray × ByteArray)} (h : kV w A n l) (hb : Below w.heap.size w w') : kV w' A n l :=
 ⟨h.1, fun j hj => by
  obtain ⟨b, off, rfl, hlt, h1, h2⟩ := h.2 j hj
  exact ⟨b, off, rfl, Nat.lt_of_lt_of_le hlt hb.size, (hb.cell (p := ⟨b, off + j * 2, none⟩) hlt).trans h1, (hb.cell (p := ⟨b, off + j * 2 + 1, none⟩) hlt).trans h2⟩⟩
theorem kV.under {B : Nat} {w w' : World} {A : Option Addr} {n : Nat} {l : List (ByteArray × ByteArray)} (h : kV w A n l) (hb : Below B w w') (hB : w.heap.size ≤ B) : kV w' A n l := h.below (hb.mono hB)
section
variable {H : Type} {enc : TypeId × Value → H} {P : Program} {w : World} {base : Nat} {spare : Nat → Bool} {held : Bool}
end
variable {P : Program} {w : World} {H : Type} {enc : TypeId × Value → H} {base : Nat} {held : Bool} {spare : Nat → Bool}
end Go.Proofs.YtcfgioklgmlclaaGreatDoor.uq
namespace Go.Proofs.YtcfgioklgmlclaaGreatDoor.lJ
open Go.RowKit Base aP fE nV qL GZ G5 J7 uq
def mF (l : List (List UInt8 × List UInt8)) : List (ByteArray × ByteArray) := l.map fun p => (strOf p.1, strOf p.2)
theorem OQ (l : List (List UInt8 × List UInt8)) : (mF l).length = l.length := by simp [mF]
theorem Zt (l : List (List UInt8 × List UInt8)) : ∀ (j : Nat) (h : j < l.length), (cu l)[j * 2]? = some (.string (strOf l[j].1)) ∧ (cu l)[j * 2 + 1]? = some (.string (strOf l[j].2)) := by
 induction l with
 | nil => intro j h; simp at h
 | cons p l ih =>
  intro j h
  have e : cu (p :: l) = .string (strOf p.1) :: .string (strOf p.2) :: cu l := rfl
  rw [e]
  cases j with
  | zero => exact ⟨rfl, rfl⟩
  | succ j =>
   have := ih j (by simpa using h)
   rw [show (j + 1) * 2 = j * 2 + 1 + 1 by omega]
   simpa using this
theorem zC {w : World} {B : Nat} {v : Value} {l : List (List UInt8 × List UInt8)} (h : w.ownsRow B 69 2 v l.length (cu l)) : ∃ A c, v = .slice A l.length c ∧ l.length ≤ c ∧ c ≤ maxLen ∧ kV w A l.length (mF l) := by
 rcases h.2 with ⟨rfl, h0⟩ | ⟨g, cap, cur, rfl, _, hh, hnc, hcm, _, htake⟩
 ·have : l = [] := List.eq_nil_of_length_eq_zero h0
  subst this
  exact ⟨none, 0, rfl, Nat.le_refl _, Nat.zero_le _, rfl, fun j hj => by simp [mF] at hj⟩
 ·refine ⟨some ⟨g, 0, none⟩, cap, rfl, hnc, hcm, by rw [OQ], fun j hj => ?_⟩
  rw [OQ] at hj
  obtain ⟨h0, h1⟩ := Zt l j hj
  refine ⟨g, 0, rfl, (Array.getElem?_eq_some_iff.1 hh).1, ?_, ?_⟩
  ·rw [h.cellAt _ (by omega), Nat.zero_add]
   simpa [mF] using h0
  ·rw [h.cellAt _ (by omega), Nat.zero_add]
   simpa [mF] using h1
def B3 (T : TypeId) (w : World) (g : Nat) (a b c : Value) : Prop := w.heap[g]? = some (.cells #[a, b, c] T (0, 0))
section
variable {T : TypeId} {w w' : World} {g : Nat} {a b c : Value}
theorem B3.lt (h : B3 T w g a b c) : g < w.heap.size := (Array.getElem?_eq_some_iff.1 h).1
theorem B3.facts (h : B3 T w g a b c) : w.cell? ⟨g, 0, none⟩ = some a ∧ w.cell? ⟨g, 1, none⟩ = some b ∧ w.cell? ⟨g, 2, none⟩ = some c :=
 ⟨cell_of_row w g 0 _ _ _ h, cell_of_row w g 1 _ _ _ h, cell_of_row w g 2 _ _ _ h⟩
theorem B3.thaw (h : B3 T w g a b c) : w.frozen? ⟨g, 0, none⟩ = false ∧ w.frozen? ⟨g, 1, none⟩ = false ∧ w.frozen? ⟨g, 2, none⟩ = false :=
 ⟨frozen_of_row w g 0 _ _ h, frozen_of_row w g 1 _ _ h, frozen_of_row w g 2 _ _ h⟩
theorem B3.below (h : B3 T w g a b c) (hb : Below w.heap.size w w') : B3 T w' g a b c := (hb.block g h.lt).trans h
def zW (w : World) (g : Nat) (a b c : Value) : World := ((w.setCell ⟨g, 0, none⟩ a).setCell ⟨g, 1, none⟩ b).setCell ⟨g, 2, none⟩ c
theorem B3.put (h : B3 T w g a b c) (x y z : Value) : B3 T (zW w g x y z) g x y z :=
 heap_setCell_same _ g 2 _ _ z (heap_setCell_same _ g 1 _ _ y (heap_setCell_same w g 0 _ _ x h))
theorem iZ {w0 : World} {B : Nat} (h : Below B w0 w) (hg : B ≤ g) (x y z : Value) : Below B w0 (zW w g x y z) := ((h.setCell hg _).setCell hg _).setCell hg _
end
theorem B3.load {w : World} {g : Nat} {a b c : Value} (h : B3 29 w g a b c) : (loadVar 29 ⟨g, 0, none⟩).run Tryz.prog w = .ok (.agg #[a, b, c]) w :=
 run_loadVar_row w g _ _ #[a, b, c] (0, 0) _ h Tryz.underlying29 rfl (by
  rw [show (Tryz.prog.info? 29).map (·.size) = some 3 by kernel_rfl]
  rfl)
theorem Gs {w : World} {g n : Nat} {A : Option Addr} {l : List (ByteArray × ByteArray)} (h : kV w A n l) (hA : ∀ b off, A = some ⟨b, off, none⟩ → b ≠ g) (x y z : Value) : kV (zW w g x y z) A n l :=
 ⟨h.1, fun j hj => by
  obtain ⟨b, off, rfl, hlt, h1, h2⟩ := h.2 j hj
  have hne := hA b off rfl
  have hk : ∀ o, (zW w g x y z).cell? ⟨b, o, none⟩ = w.cell? ⟨b, o, none⟩ := fun o => by
   unfold zW
   rw [World.cell?_setCell_other _ _ _ _ (by intro e; injection e with e; exact hne e.symm), World.cell?_setCell_other _ _ _ _ (by intro e; injection e with e; exact hne e.symm), World.cell?_setCell_other _ _ _ _ (by intro e; injection e with e; exact hne e.symm)]
  exact ⟨b, off, rfl, by simpa [zW] using hlt, by rw [hk]; exact h1, by rw [hk]; exact h2⟩⟩
theorem O1 {w : World} {g : Nat} {a b c : Value} (h : B3 29 w g a b c) (ok : Bool) (tmps : Array Value) (h2 : tmps.getD 2 undef = .pointer (some ⟨g, 0, none⟩)) (h3 : tmps.getD 3 undef = .bool ok) :
  (results Tryz.f82 tmps).run Tryz.prog w = .ok (.tuple #[.agg #[a, b, c], .bool ok]) w := by
 have hp' : tmps[2]?.getD undef = .pointer (some ⟨g, 0, none⟩) := by simpa using h2
 have hq' : tmps[3]?.getD undef = .bool ok := by simpa using h3
 simp [results, Tryz.results82, hp', hq', asAddr, h.load]
def xH : MT := ⟨[], [], []⟩
def Yl (o : Option MT) (e : Ending) (w' : World) : Prop := ∃ A c, e = .returned (.tuple #[.agg #[.string (strOf (o.getD xH).ty), .string (strOf (o.getD xH).sub), .slice A (o.getD xH).ps.length c], .bool o.isSome]) ∧ (o.getD xH).ps.length ≤ c ∧ c ≤ maxLen ∧ kV w' A (o.getD xH).ps.length (mF (o.getD xH).ps)
theorem parse_any (s : ByteArray) (w : World) (hs : s.size ≤ 1048576) : Calls Tryz.prog 82 #[.string s] w fun e w' => Yl (mime s.data.toList) e w' ∧ Below w.heap.size w w' := by
 have hl : s.data.toList.length = s.size := Array.length_toList
 obtain ⟨o, ho⟩ : ∃ o, o = mime s.data.toList := ⟨_, rfl⟩
 rw [← ho]
 obtain ⟨T, hT⟩ : ∃ T : ByteArray, T = strOf (nI s.data.toList) := ⟨_, rfl⟩
 have hTd : T.data.toList = nI s.data.toList := by rw [hT]; rfl
 have hTs : T.size ≤ 1048576 := by rw [hT, ah]; have := Pn s.data.toList; omega
 have htl : T.data.toList.length = T.size := Array.length_toList
 have KH : Hid (∀ w, Calls Tryz.prog 126 #[.string s] w fun e w' => e = .returned (.string T) ∧ Below w.heap.size w w') := by
  show ∀ w, _
  rw [hT]
  exact fun w => CG.ad3 s w (by omega)
 have FT := hid (fun w => split47 T w (by omega))
 obtain ⟨K, hK⟩ : ∃ K, K = strOf (tw [47] T.data.toList) := ⟨_, rfl⟩
 obtain ⟨B, hB⟩ : ∃ B, B = strOf (dw [47] T.data.toList) := ⟨_, rfl⟩
 rw [← hK, ← hB] at FT
 have hKd : K.data.toList = tw [47] (nI s.data.toList) := by rw [hK, ← hTd]; rfl
 have hBd : B.data.toList = dw [47] (nI s.data.toList) := by rw [hB, ← hTd]; rfl
 have hKs : K.size ≤ 1048576 := by rw [hK, ah]; have := nJ [47] T.data.toList; omega
 have hBs : B.size ≤ 1048576 := by rw [hB, ah]; have := vX [47] T.data.toList; omega
 have hbl : B.data.toList.length = B.size := Array.length_toList
 have hnone : ∀ {w2 w3 : World} (e : Ending), Below w.heap.size w w3 → o = none → e = .returned (.tuple #[.agg #[.string ⟨#[]⟩, .string ⟨#[]⟩, .slice none 0 0], .bool false]) → Yl o e w3 := by
  intro w2 w3 e _ h1 h2
  rw [h1, h2]
  exact ⟨none, 0, rfl, Nat.le_refl _, Nat.zero_le _, rfl, fun j hj => by simp [mF, xH] at hj⟩
 have GL := hid (fun (e : Ending) (w3 : World) (h1 : o = none) (h2 : e = .returned (.tuple #[.agg #[.string ⟨#[]⟩, .string ⟨#[]⟩, .slice none 0 0], .bool false])) => (show Yl o e w3 by
  rw [h1, h2]
  exact ⟨none, 0, rfl, Nat.le_refl _, Nat.zero_le _, rfl, fun j hj => by simp [mF, xH] at hj⟩))
 clear hnone
 cases hb : B.data.toList with
 | nil =>
  have HO : Hid (o = none) := by show _ = _; rw [ho]; unfold mime; rw [← hBd, hb]
  have hq1 := qY hb
  have hq2 : (B.toList == []) = true := by rw [hq1]; rfl
  clear ho hT hTd hTs htl hK hB hKd hBd hKs hBs hbl hb hq1 hl
  go_enter Tryz.func82, Tryz.ntmps82
  go_upto_region 1 with (fail)
  generalize hw1 : w.alloc _ = w1
  have HB1 : Hid (Below w.heap.size w w1) := by show Below _ _ _; rw [← hw1]; exact (Below.refl _ _).alloc (Nat.le_refl _) _
  have jr : Hid (B3 29 w1 w.heap.size (.string ⟨#[]⟩) (.string ⟨#[]⟩) (.slice none 0 0)) := by show B3 _ _ _ _ _ _; rw [← hw1]; exact heap_alloc_new _ _
  clear hw1
  go_wp2_with fail
  refine (KH.out _).mono ?_
  rintro e w2 ⟨rfl, hb2⟩
  have iG := hid (jr.out.below hb2)
  have HB2 := hid (bel HB1.out hb2)
  clear hb2
  go_wp2_with fail
  refine (FT.out _).mono ?_
  rintro e w3 ⟨rfl, hb3⟩
  have jd := hid (iG.out.below hb3)
  have HB3 := hid (bel HB2.out hb3)
  clear hb3
  obtain ⟨f0, f1, f2⟩ := jd.out.thaw
  obtain ⟨k0, k1, k2⟩ := jd.out.facts
  go_wp2
  refine bodyPost_ret (w := zW _ w.heap.size _ _ _) (O1 (jd.out.put _ _ _) false _ rfl rfl) rfl ⟨GL.out _ _ HO.out rfl, iZ HB3.out (Nat.le_refl _) _ _ _⟩
 | cons c r =>
  have hq1 : (B.toList == []) = false := by rw [Lib.toList_data, hb]; rfl
  have hq2 : B.toList.isEmpty = false := by rw [Lib.toList_data, hb]; rfl
  have hq3 : ¬ B.toList = [] := by rw [Lib.toList_data, hb]; simp
  have hB1 : 1 ≤ B.size := by rw [← hbl, hb]; simp
  have h1i : (1 : Int) ≤ (B.size : Int) := by omega
  obtain ⟨Y, hY⟩ : ∃ Y, Y = B.extract 1 B.size := ⟨_, rfl⟩
  have hYd : Y.data.toList = r := by rw [hY, ext_drop, hb]; rfl
  have hYs : Y.size ≤ 1048576 := by rw [hY, ByteArray.size_extract]; omega
  have hyl : Y.data.toList.length = Y.size := Array.length_toList
  have HS2 := hid (fun w => O7 Y w (by omega))
  obtain ⟨S, hS⟩ : ∃ S, S = strOf (tw [59] Y.data.toList) := ⟨_, rfl⟩
  obtain ⟨R, hR⟩ : ∃ R, R = strOf (dw [59] Y.data.toList) := ⟨_, rfl⟩
  rw [← hS, ← hR] at HS2
  have hSs : S.size ≤ 1048576 := by rw [hS, ah]; have := nJ [59] Y.data.toList; omega
  have hRs : R.size ≤ 1048576 := by rw [hR, ah]; have := vX [59] Y.data.toList; omega
  have hSd : S.data.toList = tw [59] r := by rw [hS, hYd]; rfl
  have UZ : R.data.toList = dw [59] r := by rw [hR, hYd]; rfl
  obtain ⟨U, hU⟩ : ∃ U : ByteArray, U = strOf (tr S.data.toList) := ⟨_, rfl⟩
  have Ku : U.data.toList = tr (tw [59] r) := by rw [hU, ← hSd]; rfl
  have hsl : S.data.toList.length = S.size := Array.length_toList
  have hUs : U.size ≤ 1048576 := by rw [hU, ah]; have := E8 S.data.toList; omega
  have Ce : Hid (∀ w, Calls Tryz.prog 127 #[.string S] w fun e w' => e = .returned (.string U) ∧ Below w.heap.size w w') := by
   show ∀ w, _
   rw [hU]
   exact fun w => CG.EM S w (by omega)
  have hk := fun w => vN.IC K w (by omega)
  have hu := fun w => vN.IC U w (by omega)
  have hom : o = if (cZ K.data.toList && cZ U.data.toList) = true then some ⟨lower K.data.toList, lower U.data.toList, jF R.data.toList []⟩ else none := by
   rw [ho, hKd, Ku, UZ]
   unfold mime
   rw [← hBd, hb]
  have HY := hid hY
  obtain ⟨LK, hLK⟩ : ∃ L : ByteArray, L = strOf (lower K.data.toList) := ⟨_, rfl⟩
  obtain ⟨LU, hLU⟩ : ∃ L : ByteArray, L = strOf (lower U.data.toList) := ⟨_, rfl⟩
  have HLK : Hid (∀ w, Calls Tryz.prog 75 #[.string K] w fun e w' => e = .returned (.string LK) ∧ Below w.heap.size w w') := by
   show ∀ w, _
   rw [hLK]
   exact fun w => fE.gq K w (by unfold maxLen; omega)
  have HLU : Hid (∀ w, Calls Tryz.prog 75 #[.string U] w fun e w' => e = .returned (.string LU) ∧ Below w.heap.size w w') := by
   show ∀ w, _
   rw [hLU]
   exact fun w => fE.gq U w (by unfold maxLen; omega)
  have Yg : Hid (LK = strOf (lower K.data.toList) ∧ LU = strOf (lower U.data.toList)) := ⟨hLK, hLU⟩
  have Uc := hid (fun w => IY R w hRs)
  clear ho hT hTd hTs htl hK hB hKd hBd hKs hBs hbl hb hl hY hYd hYs hyl hS hR hSs hRs hSd UZ hU Ku hsl hUs hLK hLU
  cases hki : cZ K.data.toList with
  | false =>
   have HO : Hid (o = none) := by show _ = _; rw [hom, hki]; rfl
   rw [hki] at hk
   have HK := hid hk
   clear hk hu hom hki
   go_enter Tryz.func82, Tryz.ntmps82
   go_upto_region 1 with (fail)
   generalize hw1 : w.alloc _ = w1
   have HB1 : Hid (Below w.heap.size w w1) := by show Below _ _ _; rw [← hw1]; exact (Below.refl _ _).alloc (Nat.le_refl _) _
   have jr : Hid (B3 29 w1 w.heap.size (.string ⟨#[]⟩) (.string ⟨#[]⟩) (.slice none 0 0)) := by show B3 _ _ _ _ _ _; rw [← hw1]; exact heap_alloc_new _ _
   clear hw1
   go_wp2_with fail
   refine (KH.out _).mono ?_
   rintro e w2 ⟨rfl, hb2⟩
   have iG := hid (jr.out.below hb2)
   have HB2 := hid (bel HB1.out hb2)
   clear hb2
   go_wp2_with fail
   refine (FT.out _).mono ?_
   rintro e w3 ⟨rfl, hb3⟩
   have jd := hid (iG.out.below hb3)
   have HB3 := hid (bel HB2.out hb3)
   clear hb3
   go_wp2_with fail
   rw [← HY.out]
   refine (HS2.out _).mono ?_
   rintro e w4 ⟨rfl, hb4⟩
   have mQ := hid (jd.out.below hb4)
   have HB4 := hid (bel HB3.out hb4)
   clear hb4
   go_wp2_with fail
   refine (Ce.out _).mono ?_
   rintro e w5 ⟨rfl, hb5⟩
   have F5 := hid (mQ.out.below hb5)
   have mO := hid (bel HB4.out hb5)
   clear hb5
   go_wp2_with fail
   refine (HK.out _).mono ?_
   rintro e w6 ⟨rfl, hw6⟩
   subst hw6
   obtain ⟨f0, f1, f2⟩ := F5.out.thaw
   obtain ⟨k0, k1, k2⟩ := F5.out.facts
   go_wp2
   refine bodyPost_ret (w := zW _ w.heap.size _ _ _) (O1 (F5.out.put _ _ _) false _ rfl rfl) rfl ⟨GL.out _ _ HO.out rfl, iZ mO.out (Nat.le_refl _) _ _ _⟩
  | true =>
   rw [hki] at hk
   have HK := hid hk
   cases Y8 : cZ U.data.toList with
   | false =>
    have HO : Hid (o = none) := by show _ = _; rw [hom, hki, Y8]; rfl
    rw [Y8] at hu
    have HU := hid hu
    clear hk hu hom hki Y8
    go_enter Tryz.func82, Tryz.ntmps82
    go_upto_region 1 with (fail)
    generalize hw1 : w.alloc _ = w1
    have HB1 : Hid (Below w.heap.size w w1) := by show Below _ _ _; rw [← hw1]; exact (Below.refl _ _).alloc (Nat.le_refl _) _
    have jr : Hid (B3 29 w1 w.heap.size (.string ⟨#[]⟩) (.string ⟨#[]⟩) (.slice none 0 0)) := by show B3 _ _ _ _ _ _; rw [← hw1]; exact heap_alloc_new _ _
    clear hw1
    go_wp2_with fail
    refine (KH.out _).mono ?_
    rintro e w2 ⟨rfl, hb2⟩
    have iG := hid (jr.out.below hb2)
    have HB2 := hid (bel HB1.out hb2)
    clear hb2
    go_wp2_with fail
    refine (FT.out _).mono ?_
    rintro e w3 ⟨rfl, hb3⟩
    have jd := hid (iG.out.below hb3)
    have HB3 := hid (bel HB2.out hb3)
    clear hb3
    go_wp2_with fail
    rw [← HY.out]
    refine (HS2.out _).mono ?_
    rintro e w4 ⟨rfl, hb4⟩
    have mQ := hid (jd.out.below hb4)
    have HB4 := hid (bel HB3.out hb4)
    clear hb4
    go_wp2_with fail
    refine (Ce.out _).mono ?_
    rintro e w5 ⟨rfl, hb5⟩
    have F5 := hid (mQ.out.below hb5)
    have mO := hid (bel HB4.out hb5)
    clear hb5
    go_wp2_with fail
    refine (HK.out _).mono ?_
    rintro e w6 ⟨rfl, hw6⟩
    subst hw6
    go_wp2_with fail
    refine (HU.out _).mono ?_
    rintro e w6 ⟨rfl, hw6⟩
    subst hw6
    obtain ⟨f0, f1, f2⟩ := F5.out.thaw
    obtain ⟨k0, k1, k2⟩ := F5.out.facts
    go_wp2
    refine bodyPost_ret (w := zW _ w.heap.size _ _ _) (O1 (F5.out.put _ _ _) false _ rfl rfl) rfl ⟨GL.out _ _ HO.out rfl, iZ mO.out (Nat.le_refl _) _ _ _⟩
   | true =>
    have HO : Hid (o = some ⟨lower K.data.toList, lower U.data.toList, jF R.data.toList []⟩) := by show _ = _; rw [hom, hki, Y8]; rfl
    rw [Y8] at hu
    have HU := hid hu
    clear hk hu hom hki Y8
    go_enter Tryz.func82, Tryz.ntmps82
    go_upto_region 1 with (fail)
    generalize hw1 : w.alloc _ = w1
    have HB1 : Hid (Below w.heap.size w w1) := by show Below _ _ _; rw [← hw1]; exact (Below.refl _ _).alloc (Nat.le_refl _) _
    have jr : Hid (B3 29 w1 w.heap.size (.string ⟨#[]⟩) (.string ⟨#[]⟩) (.slice none 0 0)) := by show B3 _ _ _ _ _ _; rw [← hw1]; exact heap_alloc_new _ _
    clear hw1
    go_wp2_with fail
    refine (KH.out _).mono ?_
    rintro e w2 ⟨rfl, hb2⟩
    have iG := hid (jr.out.below hb2)
    have HB2 := hid (bel HB1.out hb2)
    clear hb2
    go_wp2_with fail
    refine (FT.out _).mono ?_
    rintro e w3 ⟨rfl, hb3⟩
    have jd := hid (iG.out.below hb3)
    have HB3 := hid (bel HB2.out hb3)
    clear hb3
    go_wp2_with fail
    rw [← HY.out]
    refine (HS2.out _).mono ?_
    rintro e w4 ⟨rfl, hb4⟩
    have mQ := hid (jd.out.below hb4)
    have HB4 := hid (bel HB3.out hb4)
    clear hb4
    go_wp2_with fail
    refine (Ce.out _).mono ?_
    rintro e w5 ⟨rfl, hb5⟩
    have F5 := hid (mQ.out.below hb5)
    have mO := hid (bel HB4.out hb5)
    clear hb5
    go_wp2_with fail
    refine (HK.out _).mono ?_
    rintro e w6 ⟨rfl, hw6⟩
    subst hw6
    go_wp2_with fail
    refine (HU.out _).mono ?_
    rintro e w6 ⟨rfl, hw6⟩
    subst hw6
    go_wp2_with fail
    refine (HLK.out _).mono ?_
    rintro e w7 ⟨rfl, hb7⟩
    have xR := hid (F5.out.below hb7)
    have rD := hid (bel mO.out hb7)
    clear hb7
    go_wp2_with fail
    refine (HLU.out _).mono ?_
    rintro e w8 ⟨rfl, hb8⟩
    have PW := hid (xR.out.below hb8)
    have PO := hid (bel rD.out hb8)
    clear hb8
    go_wp2_with fail
    refine (Uc.out _).mono ?_
    rintro e w9 ⟨v, rfl, hown, nP⟩
    have HNB : Hid (v.ownBlock ≠ some w.heap.size) := by
     show _ ≠ _
     intro e
     have := (hown.lt _ e).1
     have := PW.out.lt
     omega
    obtain ⟨A, cp, rfl, hc1, hc2, yJ⟩ := zC hown
    have HX9 := hid (PW.out.below nP)
    have HB9 := hid (bel PO.out nP)
    have Ud := hid yJ
    clear nP hown yJ
    obtain ⟨f0, f1, f2⟩ := HX9.out.thaw
    obtain ⟨k0, k1, k2⟩ := HX9.out.facts
    go_wp2
    refine bodyPost_ret (w := zW _ w.heap.size _ _ _) (O1 (HX9.out.put _ _ _) true _ rfl rfl) rfl ⟨?_, iZ HB9.out (Nat.le_refl _) _ _ _⟩
    rw [HO.out]
    refine ⟨A, cp, ?_, hc1, hc2, Gs Ud.out ?_ _ _ _⟩
    ·rw [Yg.out.1, Yg.out.2]; rfl
    ·rintro b off rfl
     intro e
     exact HNB.out (by rw [← e]; rfl)
end Go.Proofs.YtcfgioklgmlclaaGreatDoor.lJ
namespace Go.Proofs.YtcfgioklgmlclaaGreatDoor.xu
open Go.RowKit Base fE nV qL
abbrev PL := List (List UInt8 × List UInt8)
theorem eH {p : UInt8 → Prop} [∀ c, Decidable (p c)] (h : ∀ n : Fin 256, p (UInt8.ofNat n.val)) (c : UInt8) : p c := by
 have := h ⟨c.toNat, c.toNat_lt⟩
 simpa using this
theorem lI (c : UInt8) (h : xJ c = true) : c ∉ blanks ∧ c ≠ 34 ∧ c ≠ 47 ∧ c ≠ 59 ∧ c ≠ 61 :=
 eH (p := fun c => xJ c = true → c ∉ blanks ∧ c ≠ 34 ∧ c ≠ 47 ∧ c ≠ 59 ∧ c ≠ 61) (by decide +kernel) c h
theorem Pg (c : UInt8) : xJ (low c) = xJ c := eH (p := fun c => xJ (low c) = xJ c) (by decide +kernel) c
theorem OC (c : UInt8) : low (low c) = low c := eH (p := fun c => low (low c) = low c) (by decide +kernel) c
theorem sH (L : List UInt8) : lower (lower L) = lower L := by
 unfold lower
 rw [List.map_map]
 exact List.map_congr_left fun c _ => OC c
theorem sD (L : List UInt8) : cZ (lower L) = cZ L := by
 unfold cZ lower
 rw [List.all_map]
 congr 1
 ·congr 1
  funext c
  exact Pg c
 ·cases L <;> rfl
theorem kR {L : List UInt8} (h : cZ L = true) {c : UInt8} (hc : c ∈ L) : xJ c = true := by
 unfold cZ at h
 rw [Bool.and_eq_true] at h
 exact List.all_eq_true.1 h.1 c hc
theorem zh {L : List UInt8} (h : cZ L = true) : L ≠ [] := by
 rintro rfl
 simp [cZ] at h
def MF (L : List UInt8) : Bool := cZ L && decide (lower L = L)
theorem ER {L : List UInt8} (h : cZ L = true) : MF (lower L) = true := by unfold MF; rw [sD, h, sH]; simp
theorem lH {L : List UInt8} (h : MF L = true) : cZ L = true ∧ lower L = L := by unfold MF at h; simpa using h
def xI (ps : PL) (k : Nat) : Bool := match ps[k]? with
 | none => true
 | some p => MF p.1 && (!(zU p.1 (ps.take k)) && vO.quotable p.2)
def tN (ps : PL) (k : Nat) : Bool := (List.range k).all (xI ps)
theorem SE (ps : PL) (k : Nat) : tN ps (k + 1) = (tN ps k && xI ps k) := by unfold tN; rw [List.range_succ, List.all_append]; simp
theorem ZG (ps : PL) (k : Nat) (h : xI ps k = false) (n : Nat) (hn : k < n) : tN ps n = false := by
 cases e : tN ps n with
 | false => rfl
 | true =>
  have := List.all_eq_true.1 e k (by simpa using hn)
  rw [this] at h
  cases h
def BH (ps : PL) : Bool := tN ps ps.length
def gy (ty sub : List UInt8) (ps : PL) : Bool := MF ty && (MF sub && BH ps)
def wK (v : List UInt8) : List UInt8 := if cZ v = true then v else qq v
def Ja (p : List UInt8 × List UInt8) : List UInt8 := 59 :: (p.1 ++ 61 :: wK p.2)
def pps (ps : PL) : List UInt8 := ps.flatMap Ja
def ess (ty sub : List UInt8) : List UInt8 := ty ++ 47 :: sub
def dX (ty sub : List UInt8) (ps : PL) : List UInt8 := ess ty sub ++ pps ps
theorem Gq : pps [] = [] := rfl
theorem DV (p : List UInt8 × List UInt8) (ps : PL) : pps (p :: ps) = Ja p ++ pps ps := by simp [pps]
theorem Jc (ps : PL) (p : List UInt8 × List UInt8) : pps (ps ++ [p]) = pps ps ++ Ja p := by simp [pps]
theorem adA (v : List UInt8) : (wK v).length ≤ 2 * v.length + 2 := by
 unfold wK
 split
 ·omega
 ·exact adC v
theorem Pq {st L : List UInt8} {c : UInt8} (r : List UInt8) (h : ∀ x ∈ L, st.contains x = false) (hc : st.contains c = true) : tw st (L ++ c :: r) = L ∧ dw st (L ++ c :: r) = c :: r := by
 unfold tw dw
 induction L with
 | nil => simp only [List.nil_append, List.takeWhile_cons, List.dropWhile_cons, hc]; exact ⟨rfl, rfl⟩
 | cons x L ih =>
  have hx := h x (by simp)
  obtain ⟨i1, i2⟩ := ih fun y hy => h y (by simp [hy])
  simp only [List.cons_append, List.takeWhile_cons, List.dropWhile_cons, hx, Bool.not_false, if_true]
  exact ⟨by rw [i1], i2⟩
theorem ad7 {st L : List UInt8} (h : ∀ x ∈ L, st.contains x = false) : tw st L = L ∧ dw st L = [] := by
 unfold tw dw
 induction L with
 | nil => exact ⟨rfl, rfl⟩
 | cons x L ih =>
  have hx := h x (by simp)
  obtain ⟨i1, i2⟩ := ih fun y hy => h y (by simp [hy])
  simp only [List.takeWhile_cons, List.dropWhile_cons, hx, Bool.not_false, if_true]
  exact ⟨by rw [i1], i2⟩
def Beh (Y : List UInt8) : Prop := Y = [] ∨ ∃ r, Y = 59 :: r
theorem dw_beh {Y : List UInt8} (h : Beh Y) : dw [59] Y = Y := by
 rcases h with rfl | ⟨r, rfl⟩
 ·rfl
 ·exact (Pq (L := []) r (by simp) (by decide)).2
theorem ad8 {v Y : List UInt8} (hv : ∀ x ∈ v, x ≠ 59) (h : Beh Y) : tw [59] (v ++ Y) = v ∧ dw [59] (v ++ Y) = Y := by
 have hv' : ∀ x ∈ v, ([59] : List UInt8).contains x = false := fun x hx => by simpa using hv x hx
 rcases h with rfl | ⟨r, rfl⟩
 ·rw [List.append_nil]; exact ad7 hv'
 ·exact Pq r hv' (by decide)
theorem tr_nb (M s : List UInt8) (c : UInt8) (hc : c ∉ blanks) : tr (M ++ c :: s) = M ++ c :: tr s := by
 have hb : blanks.contains c = false := by simpa using hc
 unfold tr Lib.trimRightS
 rw [List.reverse_append, List.reverse_cons, List.append_assoc, List.dropWhile_append]
 split
 ·rename_i h
  have h' : s.reverse.dropWhile (fun x => blanks.contains x) = [] := by simpa using h
  rw [h']
  show (List.dropWhile _ (c :: M.reverse)).reverse = _
  rw [List.dropWhile_cons, hb]
  simp
 ·simp
theorem tr_end (M : List UInt8) (c : UInt8) (hc : c ∉ blanks) : tr (M ++ [c]) = M ++ [c] := tr_nb M [] c hc
theorem Ph (r : List UInt8) (c : UInt8) (hc : c ∉ blanks) : tl (c :: r) = c :: r := by
 have hb : blanks.contains c = false := by simpa using hc
 unfold tl Lib.trimLeftS
 rw [List.dropWhile_cons, hb]
 rfl
def Ends (L : List UInt8) : Prop := ∃ M c, L = M ++ [c] ∧ c ∉ blanks
theorem Ends.app {b : List UInt8} (a : List UInt8) (h : Ends b) : Ends (a ++ b) := by
 obtain ⟨M, c, rfl, hc⟩ := h
 exact ⟨a ++ M, c, by simp, hc⟩
theorem Ends.tr {L : List UInt8} (h : Ends L) : tr L = L := by
 obtain ⟨M, c, rfl, hc⟩ := h
 exact tr_end M c hc
theorem YJ {L : List UInt8} (h : L ≠ []) (hb : ∀ c ∈ L, c ∉ blanks) : Ends L :=
 ⟨L.dropLast, L.getLast h, (List.dropLast_concat_getLast h).symm, hb _ (List.getLast_mem h)⟩
theorem Dj {L : List UInt8} (h : cZ L = true) : Ends L := YJ (zh h) fun c hc => (lI c (kR h hc)).1
theorem YK (v : List UInt8) : Ends (wK v) := by
 unfold wK
 split
 ·rename_i h; exact Dj h
 ·exact ⟨34 :: qt v, 34, rfl, by decide⟩
theorem QY : ∀ (ps : PL) (X : List UInt8), Ends X → Ends (X ++ pps ps)
 | [], X, h => by rw [Gq, List.append_nil]; exact h
 | p :: ps, X, h => by
  rw [DV, ← List.append_assoc]
  refine QY ps _ ?_
  refine Ends.app X ?_
  show Ends (59 :: (p.1 ++ 61 :: wK p.2))
  exact Ends.app (59 :: p.1 ++ [61]) (YK p.2) |> fun h => by simpa using h
theorem vl_pval {v Y : List UInt8} (hY : Beh Y) : vl (wK v ++ Y) = (v, true, Y) := by
 unfold wK
 split
 ·rename_i h
  obtain ⟨c, r, rfl⟩ : ∃ c r, v = c :: r := by
   cases v with
   | nil => exact absurd rfl (zh h)
   | cons c r => exact ⟨c, r, rfl⟩
  have hq : iJ (c :: r ++ Y) = ([], 0) := by
   rw [List.cons_append, iJ, if_neg (lI c (kR h (by simp))).2.1]
  obtain ⟨h1, h2⟩ := ad8 (v := c :: r) (fun x hx => (lI x (kR h hx)).2.2.2.1) hY
  unfold vl
  rw [hq, if_neg (by decide), h1, h2, (Dj h).tr]
  simp
 ·unfold vl
  have h0 : 0 < (qq v).length := by simp [qq]
  rw [qval_qq]
  simp only []
  rw [if_pos h0, List.drop_left, dw_beh hY]
theorem adt {n Z : List UInt8} (hn : cZ n = true) : pm (n ++ 61 :: Z) = (if ((vl Z).2.1 && cZ n && vO.quotable (vl Z).1) = true then some (lower n, (vl Z).1) else none, (vl Z).2.2) := by
 obtain ⟨c, r, rfl⟩ : ∃ c r, n = c :: r := by
  cases n with
  | nil => exact absurd rfl (zh hn)
  | cons c r => exact ⟨c, r, rfl⟩
 have htl : tl (c :: r ++ 61 :: Z) = c :: r ++ 61 :: Z := Ph _ c (lI c (kR hn (by simp))).1
 obtain ⟨h1, h2⟩ := Pq (st := [59, 61]) (L := c :: r) (c := 61) Z (fun x hx => by
  have := lI x (kR hn hx)
  simp [this.2.2.2.1, this.2.2.2.2]) (by decide)
 unfold pm
 rw [htl, h1, h2]
 simp only []
 rw [if_neg (by decide)]
 rfl
theorem pm_one {p : List UInt8 × List UInt8} {Y : List UInt8} (hn : MF p.1 = true) (hq : vO.quotable p.2 = true) (hY : Beh Y) : pm (p.1 ++ 61 :: (wK p.2 ++ Y)) = (some p, Y) := by
 obtain ⟨h1, h2⟩ := lH hn
 rw [adt h1, vl_pval hY]
 simp only []
 rw [h1, hq, h2]
 rfl
theorem Xz (ps : PL) {X : List UInt8} (h : Beh X) : Beh (pps ps ++ X) := by
 cases ps with
 | nil => exact h
 | cons p ps => exact .inr ⟨_, by rw [DV]; rfl⟩
theorem RU : ∀ (r acc : PL) (X : List UInt8), Beh X → (∀ k, acc.length ≤ k → k < (acc ++ r).length → xI (acc ++ r) k = true) → jF (pps r ++ X) acc = jF X (acc ++ r)
 | [], acc, X, _, _ => by rw [Gq, List.append_nil]; rfl
 | p :: r, acc, X, hX, h => by
  have h0 := h acc.length (Nat.le_refl _) (by simp)
  unfold xI at h0
  rw [List.getElem?_append_right (Nat.le_refl _), Nat.sub_self, List.getElem?_cons_zero] at h0
  simp only [List.take_left, Bool.and_eq_true, Bool.not_eq_true'] at h0
  obtain ⟨h1, h2, h3⟩ := h0
  have e : pps (p :: r) ++ X = 59 :: (p.1 ++ 61 :: (wK p.2 ++ (pps r ++ X))) := by rw [DV]; simp [Ja]
  rw [e, zH, pm_one h1 h3 (Xz r hX)]
  unfold xA
  simp only []
  rw [h2, if_neg (by decide), RU r (acc ++ [p]) X hX (by
   intro k hk1 hk2
   have e2 : acc ++ [p] ++ r = acc ++ p :: r := by simp
   rw [e2] at hk2 ⊢
   exact h k (by simp at hk1; omega) hk2)]
  simp
theorem yT {ps : PL} (h : BH ps = true) (k : Nat) (hk : k < ps.length) : xI ps k = true := List.all_eq_true.1 h k (by simpa using hk)
theorem RH {ty sub : List UInt8} {ps : PL} {X : List UInt8} (h : gy ty sub ps = true) (hX : Beh X) (hT : nI (dX ty sub ps ++ X) = dX ty sub ps ++ X) : mime (dX ty sub ps ++ X) = some ⟨ty, sub, jF X ps⟩ := by
 unfold gy at h
 simp only [Bool.and_eq_true] at h
 obtain ⟨h1, h2, h3⟩ := h
 obtain ⟨t1, t2⟩ := lH h1
 obtain ⟨s1, s2⟩ := lH h2
 have e : dX ty sub ps ++ X = ty ++ 47 :: (sub ++ (pps ps ++ X)) := by simp [dX, ess]
 obtain ⟨w1, w2⟩ := Pq (st := [47]) (L := ty) (c := 47) (sub ++ (pps ps ++ X)) (fun x hx => by
  have := lI x (kR t1 hx)
  simp [this.2.2.1]) (by decide)
 obtain ⟨w3, w4⟩ := ad8 (v := sub) (fun x hx => (lI x (kR s1 hx)).2.2.2.1) (Xz ps hX)
 unfold mime
 rw [hT, e, w1, w2]
 simp only []
 rw [w3, w4, (Dj s1).tr, t1, s1, t2, s2, if_pos (show (true && true) = true from rfl), RU ps [] X hX (fun k _ hk => yT h3 k hk)]
 rfl
theorem ZY {ty sub : List UInt8} {ps : PL} (ht : cZ ty = true) (hs : cZ sub = true) : nI (dX ty sub ps) = dX ty sub ps := by
 have hE : Ends (dX ty sub ps) := by
  unfold dX ess
  refine QY ps _ ?_
  have := Ends.app (ty ++ [47]) (Dj hs)
  simpa using this
 rw [sU, hE.tr]
 unfold dX ess
 cases ty with
 | nil => exact absurd rfl (zh ht)
 | cons c r => exact Ph _ c (lI c (kR ht (by simp))).1
theorem Bl {ty sub : List UInt8} {ps : PL} (h : gy ty sub ps = true) : mime (dX ty sub ps) = some ⟨ty, sub, ps⟩ := by
 have h' := h
 unfold gy at h'
 simp only [Bool.and_eq_true] at h'
 have := RH (X := []) h (.inl rfl) (by rw [List.append_nil]; exact ZY (lH h'.1).1 (lH h'.2.1).1)
 rw [List.append_nil] at this
 exact this
theorem ac8 {ps : PL} {q : List UInt8 × List UInt8} {k : Nat} (hk : k < ps.length) : xI (ps ++ [q]) k = xI ps k := by
 unfold xI
 rw [List.getElem?_append_left hk, List.take_append_of_le_length (by omega)]
theorem VW {ps : PL} {q : List UInt8 × List UInt8} (h : BH ps = true) (h1 : MF q.1 = true) (h2 : zU q.1 ps = false) (h3 : vO.quotable q.2 = true) : BH (ps ++ [q]) = true := by
 refine List.all_eq_true.2 fun k hk => ?_
 have hk' : k < ps.length + 1 := by simpa using hk
 by_cases hlt : k < ps.length
 ·rw [ac8 hlt]
  exact yT h k hlt
 ·obtain rfl : k = ps.length := by omega
  unfold xI
  rw [List.getElem?_append_right (Nat.le_refl _), Nat.sub_self, List.getElem?_cons_zero]
  simp only [List.take_left, h1, h2, h3]
  rfl
theorem adu {t : List UInt8} {p : List UInt8 × List UInt8} (h : (pm t).1 = some p) : MF p.1 = true ∧ vO.quotable p.2 = true := by
 unfold pm at h
 split at h
 ·cases h
 ·split at h
  ·cases h
  ·simp only [] at h
   split at h
   ·rename_i hc
    injection h with h
    subst h
    simp only [Bool.and_eq_true] at hc
    exact ⟨ER hc.1.2, hc.2⟩
   ·cases h
theorem LY : ∀ (n : Nat) (r : List UInt8) (acc : PL), BH acc = true → BH (prF n r acc) = true
 | 0, _, _, h => h
 | _ + 1, [], _, h => h
 | n + 1, _ :: t, acc, h => by
  rw [prF]
  refine LY n _ _ ?_
  unfold xA
  split
  ·exact h
  ·rename_i p hp
   split
   ·exact h
   ·rename_i hh
    obtain ⟨h1, h2⟩ := adu hp
    exact VW h h1 (by simpa using hh) h2
theorem Vk {s : List UInt8} {m : MT} (h : mime s = some m) : gy m.ty m.sub m.ps = true := by
 unfold mime at h
 split at h
 ·cases h
 ·split at h
  ·rename_i hc
   injection h with h
   subst h
   simp only [Bool.and_eq_true] at hc
   unfold gy
   simp only [Bool.and_eq_true]
   exact ⟨ER hc.1, ER hc.2, LY _ _ _ rfl⟩
  ·cases h
end Go.Proofs.YtcfgioklgmlclaaGreatDoor.xu
