/- Texts that belong together: PthM. -/
import Derived.Test.YtmdofbccebkbiaaGreatDoorME
import Derived.Test.YtmdofbccebkbiaaGreatDoorShelf
import Derived.Laws.RangeAny
import Derived.Laws.Runes
import Derived.Deep.LoopGhost
import Derived.WalkMore
import Derived.Test.YtmdofbccebkbiaaGreatDoorMA
set_option linter.unusedSimpArgs false
set_option linter.unusedVariables false
set_option maxRecDepth 100000
set_option maxHeartbeats 64000000
namespace Go.Proofs.YtmdofbccebkbiaaGreatDoor.PthM
open Go.RowKit Base aT oW eH
theorem qU (w : World) (s : ByteArray) (p : Nat) : Below w.heap.size w (w.iter s p) := (Below.refl _ _).alloc (Nat.le_refl _) _
theorem iC (r : Int) (w : World) (h0 : 128 ≤ r) : Calls Tryz.prog 222 #[.int .i32 r] w fun e w' => e = .returned (.bool (validRune r)) ∧ w = w' := by
 have q0 : (0 : Int) ≤ r := by omega
 by_cases h1 : r < 55296
 ·have HV : Hid (validRune r = true) := decide_eq_true (.inl ⟨q0, h1⟩)
  go_enter Tryz.func222, Tryz.ntmps222
  go_wp2
  go_ret
  exact ⟨aj HV.out.symm, rfl⟩
 ·by_cases h2 : 57343 < r
  ·by_cases h3 : r ≤ 1114111
   ·have HV : Hid (validRune r = true) := decide_eq_true (.inr ⟨h2, h3⟩)
    go_enter Tryz.func222, Tryz.ntmps222
    go_wp2
    go_ret
    exact ⟨aj HV.out.symm, rfl⟩
   ·have HV : Hid (validRune r = false) := decide_eq_false (by omega)
    go_enter Tryz.func222, Tryz.ntmps222
    go_wp2
    go_ret
    exact ⟨aj HV.out.symm, rfl⟩
  ·have HV : Hid (validRune r = false) := decide_eq_false (by omega)
   go_enter Tryz.func222, Tryz.ntmps222
   go_wp2
   go_ret
   exact ⟨aj HV.out.symm, rfl⟩
def two : ByteArray := ⟨#[92, 47]⟩
theorem IY (r : Int) (w : World) (h0 : 128 ≤ r) : Calls Tryz.prog 197 #[.string two, .int .i32 r] w fun e w' => e = .returned (.int .i64 (-1)) ∧ Below w.heap.size w w' := by
 have q0 : (0 : Int) ≤ r := by omega
 have q1 : ¬ r < 128 := by omega
 obtain ⟨T, hT⟩ : ∃ T, T = two := ⟨_, rfl⟩
 have hsz : T.size = 2 := by rw [hT]; rfl
 have g0 : ∀ h, T[0]'h = 92 := by subst hT; intro h; rfl
 have g1 : ∀ h, T[1]'h = 47 := by subst hT; intro h; rfl
 rw [← hT]
 by_cases hE : r = 65533
 ·subst hE
  have hn0 : ∀ ty, (Instr.next (.pointer (some ⟨w.heap.size, 0, none⟩)) true ty).run Tryz.prog (w.iter T 0) = .ok (.tuple #[.bool true, .int .i64 0, .int .i32 92]) (w.iter T 1) := fun ty => by
   have := run_next_ascii (P := Tryz.prog) w T 0 ty (by omega) (by rw [g0]; decide)
   rw [g0] at this
   exact this
  have hn1 : ∀ ty, (Instr.next (.pointer (some ⟨w.heap.size, 0, none⟩)) true ty).run Tryz.prog (w.iter T 1) = .ok (.tuple #[.bool true, .int .i64 1, .int .i32 47]) (w.iter T 2) := fun ty => by
   have := run_next_ascii (P := Tryz.prog) w T 1 ty (by omega) (by rw [g1]; decide)
   rw [g1] at this
   exact this
  have hn2 : ∀ ty, (Instr.next (.pointer (some ⟨w.heap.size, 0, none⟩)) true ty).run Tryz.prog (w.iter T 2) = .ok (.tuple #[.bool false]) (w.iter T 2) := fun ty => run_next_end w T 2 ty (by omega)
  clear hT g0 g1 hsz
  go_enter Tryz.func197, Tryz.ntmps197
  go_wp2
  go_loopg [5, 6] 2 (fun g _ _ wx => ∃ i : Nat, i + g = 2 ∧ wx = w.iter T i)
  case atStart => exact ⟨0, rfl, rfl⟩
  case round =>
   obtain ⟨i, hig, rfl⟩ := hrel
   cases gk with
   | zero =>
    obtain rfl : i = 2 := by omega
    go_wp2
    go_ret
    exact ⟨rfl, qU _ _ _⟩
   | succ g =>
    cases g with
    | zero =>
     obtain rfl : i = 1 := by omega
     go_wp2
     go_roundg 0
     case measure => omega
     case rel => exact ⟨2, rfl, rfl⟩
    | succ g =>
     obtain rfl : g = 0 := by omega
     obtain rfl : i = 0 := by omega
     go_wp2
     go_roundg 1
     case measure => omega
     case rel => exact ⟨1, rfl, rfl⟩
 ·cases hv : validRune r with
  | false =>
   have HV := hid hv
   clear hT g0 g1 hsz hv
   go_enter Tryz.func197, Tryz.ntmps197
   go_wp2_with fail
   refine (iC r _ h0).mono ?_
   rintro e w2 ⟨rfl, rfl⟩
   rw [HV.out]
   go_wp2
   go_ret
   exact ⟨rfl, Below.refl _ _⟩
  | true =>
   have HV := hid hv
   obtain ⟨hE2, hE4, hEl⟩ := encode_facts r (by rw [validRune_eq]; exact hv) h0
   obtain ⟨E, hEE⟩ : ∃ E, E = Utf8.encode r := ⟨_, rfl⟩
   rw [← hEE] at hE2 hE4 hEl
   have hcv : ∀ w : World, (convert 21 9 (.int .i32 r)).run Tryz.prog w = .ok (.string E) w := fun w => by
    rw [hEE]
    exact run_convert_int_string w _ _ .i32 r (by rw [Tryz.underlying21]; rfl) Tryz.underlying9
   clear hT hv hEE
   by_cases h2 : E.size = 2
   ·obtain ⟨c, hc⟩ : ∃ c, c = E[1]'(by omega) := ⟨_, rfl⟩
    have hc128 : 128 ≤ c.toNat := by
     have := hEl (by omega)
     rw [hc]
     have e : E.size - 1 = 1 := by omega
     simpa [e] using this
    have g92 := g1 (by omega)
    have hne : ((47 : Int) != (c.toNat : Int)) = true := by simp; omega
    have HC := hid hc128
    have hcE : E[1]'(by omega) = c := hc.symm
    have hz : (E.size : Int) - 1 = 1 := by omega
    clear hEl hE2 hE4 hc hc128 g0
    go_enter Tryz.func197, Tryz.ntmps197
    go_wp2_with fail
    refine (iC r _ h0).mono ?_
    rintro e w2 ⟨rfl, rfl⟩
    rw [HV.out]
    go_wp2
    go_step3
    go_wp2
    go_loopg [9] 0 (fun _ s9 wx => s9 = .int .i64 1 ∧ wx = w)
    case atStart => exact ⟨int_eq (by omega), rfl⟩
    case round =>
     obtain ⟨rfl, rfl⟩ := hrel
     go_wp2
     go_step3
     go_wp2
     go_region
     go_wp2_with fail
     refine bW (by kernel_rfl) [is (.string T), is (.int .i64 1), is (.int .i64 2), is (.string ByteArray.empty), is (.string E), is (.int .i64 1), is (.int .u8 (c.toNat : Int)), is (.int .i64 (-1)), is (.int .i64 (-1))] [[], [], [1], [0, 2], [], [], [4, 5], [3, 6], [7]] (by kernel_rfl) ?_ ?_
     ·refine ⟨?_, ?_, ?_, ?_, ?_, ?_, ?_, ?_, ?_, trivial⟩
      all_goals (intro t wq hbq hh K hK; simp only [filled, upd, Have, is, any, row, pick, Act.put, List.setIfInBounds_toArray, List.set_cons_zero, List.set_cons_succ, Nat.reduceAdd, Nat.reduceEqDiff, reduceIte, List.tail_cons, List.headD_cons] at hh hK ⊢; (try simp only [hh] at hK ⊢); try clear hh)
      iterate 2 · go_simp; exact hK _ _ (Below.refl _ _) rfl
      ·go_simp; first | exact hK _ _ (Below.refl _ _) rfl | exact hK _ _ (Below.refl _ _) (gV (by omega) (by omega))
      iterate 4 · go_simp; exact hK _ _ (Below.refl _ _) rfl
      ·go_simp; refine (Tryz.strings_IndexByte ByteArray.empty _ _).mono ?_; rintro e wz ⟨rfl, hwz⟩; subst hwz; exact hK _ _ (Below.refl _ _) rfl
      ·go_simp; exact hK _ _ (Below.refl _ _) rfl
     ·intro t wq hbq hh
      have f8 := aG hh 8 (by decide)
      simp only [pick] at f8
      replace f8 : t 8 = (.int .i64 (-1)) := f8
      clear hh
      simp only [filled, upd, Have, is, any, row, pick, Act.put, List.setIfInBounds_toArray, List.set_cons_zero, List.set_cons_succ, Nat.reduceAdd, Nat.reduceEqDiff, reduceIte]
      simp only [f8]
      go_wp2
      rw [Exit.noGoto_ret]
      go_simp
      go_ret
      exact ⟨rfl, Cj (Below.refl _ _) hbq⟩
   ·have h3 : 3 ≤ E.size := by omega
    clear hEl g0 g1 h2
    have q3 : ¬ ((E.size : Int) - 1 < 2) := by omega
    go_enter Tryz.func197, Tryz.ntmps197
    go_wp2_with fail
    refine (iC r _ h0).mono ?_
    rintro e w2 ⟨rfl, rfl⟩
    rw [HV.out]
    go_wp2
    go_step3
    go_wp2
    go_loopg [9] 0 (fun _ s9 wx => s9 = .int .i64 ((E.size : Int) - 1) ∧ wx = w)
    case atStart => exact ⟨rfl, rfl⟩
    case round =>
     obtain ⟨rfl, rfl⟩ := hrel
     go_wp2
     rw [Exit.noGoto_ret]
     go_ret
     exact ⟨rfl, Below.refl _ _⟩
theorem yC (r : Int) (w : World) (h0 : 0 ≤ r) (h1 : r < 128) : Calls Tryz.prog 197 #[.string two, .int .i32 r] w fun e w' => e = .returned (.int .i64 (Lib.indexByte two.data.toList r.toNat.toUInt8)) ∧ w' = w := Any.strings_IndexRune_ascii { Tryz.l153 with } two r w h0 h1
theorem RV (s : ByteArray) (i : Nat) (h : i < s.size) : (s.get! i) = s[i]'h := by
 simp [ByteArray.get!, getElem!_pos, h]
 rfl
theorem wide (s : ByteArray) (i : Nat) (h : i < s.size) (ha : 128 ≤ (s[i]'h).toNat) : i + (Utf8.decode s i).2 ≤ s.size ∧ ∀ j (hj : j < s.size), i ≤ j → j < i + (Utf8.decode s i).2 → 128 ≤ (s[j]'hj).toNat := by
 have hn : ¬ (s[i]'h).toNat < 128 := by omega
 have one : i + 1 ≤ s.size ∧ ∀ j (hj : j < s.size), i ≤ j → j < i + 1 → 128 ≤ (s[j]'hj).toNat := ⟨by omega, fun j hj h1 h2 => by
  obtain rfl : j = i := by omega
  exact ha⟩
 simp only [Utf8.decode, get_at s i h, hn, if_false]
 have c1 : ∀ k, (decide (i + k < s.size) && (s.get! (i + k)).toNat / 64 == 2) = true → ∃ hk : i + k < s.size, 128 ≤ (s[i + k]'hk).toNat := fun k hk => by
  simp only [Bool.and_eq_true, decide_eq_true_eq, beq_iff_eq] at hk
  refine ⟨hk.1, ?_⟩
  have := hk.2
  rw [RV s _ hk.1] at this
  omega
 split
 ·rename_i h2
  simp only [Bool.and_eq_true] at h2
  obtain ⟨k1, b1⟩ := c1 1 (by simpa using h2.2)
  split
  ·refine ⟨by show i + 2 ≤ _; omega, fun j hj h1 h2 => ?_⟩
   replace h2 : j < i + 2 := h2
   have : j = i ∨ j = i + 1 := by omega
   rcases this with rfl | rfl
   ·exact ha
   ·exact b1
  ·exact one
 ·split
  ·rename_i h2
   simp only [Bool.and_eq_true] at h2
   obtain ⟨k1, b1⟩ := c1 1 (by simpa using h2.1.2)
   obtain ⟨k2, b2⟩ := c1 2 (by simpa using h2.2)
   split
   ·refine ⟨by show i + 3 ≤ _; omega, fun j hj h1 h2 => ?_⟩
    replace h2 : j < i + 3 := h2
    have : j = i ∨ j = i + 1 ∨ j = i + 2 := by omega
    rcases this with rfl | rfl | rfl
    ·exact ha
    ·exact b1
    ·exact b2
   ·exact one
  ·split
   ·rename_i h2
    simp only [Bool.and_eq_true] at h2
    obtain ⟨k1, b1⟩ := c1 1 (by simpa using h2.1.1.2)
    obtain ⟨k2, b2⟩ := c1 2 (by simpa using h2.1.2)
    obtain ⟨k3, b3⟩ := c1 3 (by simpa using h2.2)
    split
    ·refine ⟨by show i + 4 ≤ _; omega, fun j hj h1 h2 => ?_⟩
     replace h2 : j < i + 4 := h2
     have : j = i ∨ j = i + 1 ∨ j = i + 2 ∨ j = i + 3 := by omega
     rcases this with rfl | rfl | rfl | rfl
     ·exact ha
     ·exact b1
     ·exact b2
     ·exact b3
    ·exact one
   ·exact one
def Yo (w : World) (k : Nat) (s : ByteArray) (p : Nat) : World := { w with heap := w.heap.setIfInBounds k (.stringIter s p) }
theorem Ro (w : World) (k : Nat) (s : ByteArray) (p : Nat) (h : k < w.heap.size) : (Yo w k s p).heap[k]? = some (.stringIter s p) := by
 show (w.heap.setIfInBounds k _)[k]? = _
 simp [h]
theorem Eo {w0 w : World} (h : Below w0.heap.size w0 w) (s : ByteArray) (p : Nat) : Below w0.heap.size w0 (Yo w w0.heap.size s p) :=
 ⟨h.os, h.tape, h.output, by show _ ≤ (w.heap.setIfInBounds _ _).size; simpa using h.size, fun k hk => by
  show (w.heap.setIfInBounds _ _)[k]? = _
  rw [Array.getElem?_setIfInBounds_ne (by omega)]
  exact h.block k hk⟩
theorem next_any {P : Program} (w : World) (k : Nat) (s : ByteArray) (pos : Nat) (ty : TypeId) (hk : w.heap[k]? = some (.stringIter s pos)) (h : pos < s.size) :
  (Instr.next (.pointer (some ⟨k, 0, none⟩)) true ty).run P w = .ok (.tuple #[.bool true, .int .i64 pos, .int .i32 (Utf8.decode s pos).1]) (Yo w k s (pos + (Utf8.decode s pos).2)) := by
 simp only [Instr.next, getObj, setObj, Sem.run_bind, Sem.run, hk, Result.andThen, h, if_true]
 simp [goInt, Yo]
theorem Iu {P : Program} (w : World) (k : Nat) (s : ByteArray) (pos : Nat) (ty : TypeId) (hk : w.heap[k]? = some (.stringIter s pos)) (h : ¬ pos < s.size) :
  (Instr.next (.pointer (some ⟨k, 0, none⟩)) true ty).run P w = .ok (.tuple #[.bool false]) w := by
 simp [Instr.next, getObj, Sem.run, hk, h]
theorem short_any (s : ByteArray) (w : World) (h8 : s.size ≤ 8) :
  Calls Tryz.prog 139 #[.string s, .string two] w fun e w' => e = .returned (.int .i64 (Lib.indexAny s.data.toList [92, 47])) ∧ Below w.heap.size w w' := by
 have hemp : two.toList.isEmpty = false := by unfold two; rw [ByteArray.toList_mk]; rfl
 have hsz2 : ((two.size : Int) == 1) = false := rfl
 have h8z : decide ((8 : Int) < (s.size : Int)) = false := decide_eq_false (by omega)
 have hL : s.data.toList.length = s.size := Array.length_toList
 have HL := hid hL
 clear hL
 have H9 := yC
 have Ib := IY
 obtain ⟨T, hT⟩ : ∃ T, T = two := ⟨_, rfl⟩
 rw [← hT] at H9 Ib
 have Oh := hid H9
 have X3 := hid Ib
 clear H9 Ib
 rw [← hT] at hemp hsz2 ⊢
 have HT := hid hT
 clear hT
 go_enter Tryz.func139, Tryz.ntmps139
 go_wp2_with fail
 refine (Any.strings_shouldUseASCIISet { Tryz.l153 with } _ _).mono ?_
 rintro e w2 ⟨rfl, hw2⟩
 subst hw2
 rw [h8z]
 go_wp2
 go_loopg [9, 10] s.size (fun g _ _ wx => ∃ i : Nat, i ≤ s.size ∧ s.size ≤ i + g ∧ wx.heap[w2.heap.size]? = some (.stringIter s i) ∧ Hid (Below w2.heap.size w2 wx) ∧ Hid (Lib.NoAny s.data.toList [92, 47] i))
 case atStart => exact ⟨0, Nat.zero_le _, by omega, World.iter_heap _ _ _, qU _ _ _, Lib.NoAny.zero _ _⟩
 case round =>
  obtain ⟨i, hile, hig, hit, HB, HN⟩ := hrel
  have EG : w2.heap.size < wr.heap.size := (Array.getElem?_eq_some_iff.1 hit).1
  by_cases hi : i < s.size
  ·obtain ⟨g, rfl⟩ : ∃ g, gk = g + 1 := ⟨gk - 1, by omega⟩
   obtain ⟨x, hx⟩ : ∃ x : UInt8, s[i]'hi = x := ⟨_, rfl⟩
   have hxl : s.data.toList[i]? = some x := by rw [← hx]; exact Lib.data_getElem? s i hi
   have hnx := fun ty => next_any (P := Tryz.prog) wr w2.heap.size s i ty hit hi
   obtain ⟨r, hr⟩ : ∃ r : Nat, r = (Utf8.decode s i).1 := ⟨_, rfl⟩
   obtain ⟨d, hd⟩ : ∃ d : Nat, d = (Utf8.decode s i).2 := ⟨_, rfl⟩
   rw [← hr, ← hd] at hnx
   obtain ⟨wa, lG⟩ : ∃ wa, wa = Yo wr w2.heap.size s (i + d) := ⟨_, rfl⟩
   have hia : wa.heap[w2.heap.size]? = some (.stringIter s (i + d)) := by rw [lG]; exact Ro _ _ _ _ EG
   have HBA : Hid (Below w2.heap.size w2 wa) := by show Below _ _ _; rw [lG]; exact Eo HB.out _ _
   have hka : w2.heap.size < wa.heap.size := (Array.getElem?_eq_some_iff.1 hia).1
   rw [← lG] at hnx
   have HIA := hid hia
   have HKA := hid hka
   clear lG hit EG hia hka
   by_cases hx128 : x.toNat < 128
   ·obtain rfl : d = 1 := by rw [hd, decode_ascii s i hi (by rw [hx]; exact hx128)]
    obtain rfl : r = x.toNat := by rw [hr, decode_ascii s i hi (by rw [hx]; exact hx128), hx]
    have Hx := hid hxl
    have HBK : Hid (((x.toNat : Int)).toNat.toUInt8 = x) := by show _ = _; simp
    have XO := hid (Lib.contains_iff_indexByte [92, 47] x)
    have hx0 : (0 : Int) ≤ (x.toNat : Int) := by omega
    clear hxl hx hr hd
    cases hin : ([92, 47] : List UInt8).contains x
    ·have hlt : ¬ ((0 : Int) ≤ Lib.indexByte T.data.toList x) := by rw [HT.out]; exact of_decide_eq_false (XO.out.symm.trans hin)
     have HIN := hid hin
     clear hin
     go_wp2_with fail
     refine (Oh.out _ _ hx0 (by omega)).mono ?_
     rintro e w3 ⟨rfl, hw3⟩
     subst hw3
     rw [HBK.out]
     go_wp2
     go_roundg g
     case measure => omega
     case rel => exact ⟨i + 1, by omega, by omega, HIA.out, HBA, HN.out.succ Hx.out HIN.out⟩
    ·have hlt : (0 : Int) ≤ Lib.indexByte T.data.toList x := by rw [HT.out]; exact of_decide_eq_true (XO.out.symm.trans hin)
     have HIN := hid hin
     clear hin
     go_wp2_with fail
     refine (Oh.out _ _ hx0 (by omega)).mono ?_
     rintro e w3 ⟨rfl, hw3⟩
     subst hw3
     rw [HBK.out]
     go_wp2
     go_ret
     exact ⟨by rw [Lib.indexAny_hit HN.out Hx.out HIN.out]; rfl, HBA.out⟩
   ·obtain ⟨Zc, hpos⟩ := decode_high s i hi (by rw [hx]; omega)
    have HWD := wide s i hi (by rw [hx]; omega)
    rw [← hr] at Zc
    rw [← hd] at hpos HWD
    have HNX : Hid (Lib.NoAny s.data.toList [92, 47] (i + d)) := fun j b hj hb => by
     by_cases hji : j < i
     ·exact HN.out j b hji hb
     ·obtain ⟨hjs, e⟩ := List.getElem?_eq_some_iff.1 hb
      have Zd : j < s.size := by rw [HL.out] at hjs; exact hjs
      have := HWD.2 j Zd (by omega) hj
      have hb' : s[j]'Zd = b := e
      rw [hb'] at this
      have h1 : b ≠ 92 := by rintro rfl; exact absurd this (by decide)
      have h2 : b ≠ 47 := by rintro rfl; exact absurd this (by decide)
      simp [h1, h2]
    have hid1 := HWD.1
    have HFAR : Hid (128 ≤ (r : Int)) := by show _ ≤ _; omega
    clear hr hd HWD hx hxl Zc
    go_wp2_with fail
    refine (X3.out _ _ HFAR.out).mono ?_
    rintro e w3 ⟨rfl, hb3⟩
    have HI3 : Hid (w3.heap[w2.heap.size]? = some (.stringIter s (i + d))) := (hb3.block _ HKA.out).trans HIA.out
    have HB3 : Hid (Below w2.heap.size w2 w3) := bel HBA.out hb3
    clear hb3
    go_wp2
    go_roundg g
    case measure => omega
    case rel => exact ⟨i + d, by omega, by omega, HI3.out, HB3, HNX⟩
  ·obtain rfl : i = s.size := by omega
   have hnx := fun ty => Iu (P := Tryz.prog) wr w2.heap.size s s.size ty hit hi
   go_wp2
   go_ret
   exact ⟨by rw [Lib.indexAny_none (by rw [HL.out]; exact HN.out)]; rfl, HB.out⟩
theorem KO (s : List UInt8) : decide (0 ≤ Lib.indexAny s [92, 47]) = s.any fun c => decide (c = 92) || decide (c = 47) := by
 induction s with
 | nil => rfl
 | cons c t ih =>
  by_cases h : ([92, 47] : List UInt8).contains c = true
  ·have e := Lib.indexAny_hit (s := c :: t) (chars := [92, 47]) (i := 0) (x := c) (Lib.NoAny.zero _ _) rfl h
   rw [e]
   have hc : c = 92 ∨ c = 47 := by simpa using h
   rcases hc with rfl | rfl <;> rfl
  ·have hf : ([92, 47] : List UInt8).contains c = false := by simpa using h
   have h1 : c ≠ 92 := by rintro rfl; exact absurd hf (by decide)
   have h2 : c ≠ 47 := by rintro rfl; exact absurd hf (by decide)
   rw [List.any_cons, decide_eq_false h1, decide_eq_false h2, ← ih]
   have hge := Lib.indexAny_ge [92, 47] t
   rw [Lib.indexAny, hf, if_neg (by decide)]
   clear ih
   generalize Lib.indexAny t [92, 47] = z at hge ⊢
   by_cases e : z = -1
   ·subst e; rfl
   ·rw [if_neg (by simpa using e), Bool.eq_iff_iff]
    simp
    omega
theorem Nh (s : ByteArray) (w : World) (hs : s.size ≤ 1073741824) : Calls Tryz.prog 139 #[.string s, .string ⟨#[92, 47]⟩] w fun e w' => e = .returned (.int .i64 (Lib.indexAny s.data.toList [92, 47])) ∧ Below w.heap.size w w' := by
 by_cases h8 : 8 < s.size
 ·exact Tryz.strings_IndexAny_long s ⟨#[92, 47]⟩ w (Nat.le_refl _) h8 (by omega) (by decide) (by intro j b h; match j, h with | 0, h => (simp at h; subst h; decide) | 1, h => (simp at h; subst h; decide))
 ·exact short_any s w (by omega)
theorem pW (s : ByteArray) (w : World) (hs : s.size ≤ 1073741824) : Calls Tryz.prog 75 #[.string s, .string ⟨#[92, 47]⟩] w fun e w' => e = .returned (.bool (s.data.toList.any fun c => decide (c = 92) || decide (c = 47))) ∧ Below w.heap.size w w' := by
 rw [← KO]
 have HI := hid (Nh s w hs)
 generalize Lib.indexAny s.data.toList [92, 47] = z at HI
 clear hs
 go_enter Tryz.func75, Tryz.ntmps75
 go_wp2_with fail
 refine HI.out.mono ?_
 rintro e w2 ⟨rfl, hb⟩
 have HB := hid hb
 clear hb
 go_wp2
 go_ret
 exact ⟨by first | rfl | simp, HB.out⟩
end Go.Proofs.YtmdofbccebkbiaaGreatDoor.PthM
