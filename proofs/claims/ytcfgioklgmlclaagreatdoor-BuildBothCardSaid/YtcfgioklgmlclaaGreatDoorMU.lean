/- Texts that belong together: nV, Nw, vN, RefS, RefN, RefM, RefC, RefD, RefV. -/
import Derived.Test.YtcfgioklgmlclaaGreatDoorMA
import Derived.Lib.IndexLaws
import Derived.Lib.SlTrimSet
import Derived.Test.YtcfgioklgmlclaaGreatDoorShelf
import Derived.Test.YtcfgioklgmlclaaGreatDoorME
import Derived.IntWalk
import Derived.Deep.QuietTactic
import Derived.BigQuiet
set_option linter.unusedSimpArgs false
set_option linter.unusedVariables false
set_option maxRecDepth 100000
set_option maxHeartbeats 64000000
namespace Go.Proofs.YtcfgioklgmlclaaGreatDoor.nV
open Go.RowKit Base eX
def marks : List UInt8 := [33, 35, 36, 37, 38, 39, 42, 43, 45, 46, 94, 95, 96, 124, 126]
def xJ (c : UInt8) : Bool := letter c.toNat || digit c.toNat || marks.contains c
def cZ (L : List UInt8) : Bool := L.all xJ && !L.isEmpty
theorem LC (l : List UInt8) (c : UInt8) : decide (Lib.indexByte l c < 0) = !l.contains c := by
 have hge := Lib.indexByte_ge l c
 cases h : l.contains c
 ·have : ¬ ∃ o : Nat, Lib.indexByte l c = o := by
   rintro ⟨o, e⟩
   have := (Lib.indexByte_some e).1
   have hm := List.mem_of_getElem? this
   rw [List.contains_iff_mem.2 hm] at h
   cases h
  have hn : Lib.indexByte l c < 0 := by
   by_cases h0 : Lib.indexByte l c < 0
   ·exact h0
   ·exact absurd ⟨(Lib.indexByte l c).toNat, by omega⟩ this
  simp [hn]
 ·have hm := List.contains_iff_mem.1 h
  obtain ⟨k, hk⟩ := List.mem_iff_getElem?.1 hm
  have : Lib.indexByte l c ≠ -1 := fun e => Lib.indexByte_none e k hk
  simp
  omega
def qd : List UInt8 → List UInt8 × Nat
 | [] => ([], 0)
 | [c] => if c = 34 then ([], 1) else ([c], 1)
 | c :: d :: t => if c = 34 then ([], 1) else if c = 92 then (d :: (qd t).1, (qd t).2 + 2) else (c :: (qd (d :: t)).1, (qd (d :: t)).2 + 1)
theorem VI (t : List UInt8) : qd (34 :: t) = ([], 1) := by cases t <;> simp [qd]
theorem VJ (d : UInt8) (t : List UInt8) : qd (92 :: d :: t) = (d :: (qd t).1, (qd t).2 + 2) := by simp [qd]
theorem XE : qd [92] = ([92], 1) := by simp [qd]
theorem Jg (c : UInt8) (t : List UInt8) (h1 : c ≠ 34) (h2 : c ≠ 92) : qd (c :: t) = (c :: (qd t).1, (qd t).2 + 1) := by
 cases t <;> simp [qd, h1, h2]
def iJ : List UInt8 → List UInt8 × Nat
 | [] => ([], 0)
 | c :: t => if c = 34 then ((qd t).1, (qd t).2 + 1) else ([], 0)
theorem OV : ∀ L : List UInt8, (qd L).1.length ≤ L.length ∧ (qd L).2 ≤ L.length
 | [] => by simp [qd]
 | [c] => by unfold qd; split <;> simp
 | c :: d :: t => by
  have h1 := OV t
  have h2 := OV (d :: t)
  unfold qd
  split
  ·simp
  ·split
   ·simp
    omega
   ·simp at h2 ⊢
    omega
def qe (c : UInt8) : List UInt8 := if c = 34 ∨ c = 92 then [92, c] else [c]
def qt (L : List UInt8) : List UInt8 := L.flatMap qe
theorem XF (L : List UInt8) (c : UInt8) : qt (L ++ [c]) = qt L ++ qe c := by simp [qt]
theorem qt_len (L : List UInt8) : (qt L).length ≤ 2 * L.length := by
 induction L with
 | nil => simp [qt]
 | cons c l ih =>
  have : (qe c).length ≤ 2 := by unfold qe; split <;> simp
  simp only [qt, List.flatMap_cons, List.length_append, List.length_cons] at ih ⊢
  omega
theorem qd_qt (T : List UInt8) : ∀ L : List UInt8, qd (qt L ++ 34 :: T) = (L, (qt L).length + 1)
 | [] => by simp [qt, VI]
 | c :: l => by
  have ih := qd_qt T l
  have e : qt (c :: l) = qe c ++ qt l := by simp [qt]
  rw [e]
  unfold qe
  split
  ·rename_i h
   show qd (92 :: c :: (qt l ++ 34 :: T)) = _
   rw [VJ, ih]
   refine Prod.ext rfl ?_
   simp
  ·rename_i h
   show qd (c :: (qt l ++ 34 :: T)) = _
   rw [Jg c _ (fun h' => h (.inl h')) (fun h' => h (.inr h')), ih]
   refine Prod.ext rfl ?_
   simp
def qq (L : List UInt8) : List UInt8 := 34 :: (qt L ++ [34])
theorem qval_qq (L T : List UInt8) : iJ (qq L ++ T) = (L, (qq L).length) := by
 have e : qq L ++ T = 34 :: (qt L ++ 34 :: T) := by simp [qq]
 rw [e, iJ, if_pos rfl, qd_qt]
 refine Prod.ext rfl ?_
 simp [qq]
theorem adC (L : List UInt8) : (qq L).length ≤ 2 * L.length + 2 := by
 have := qt_len L
 simp [qq]
 omega
def blanks : List UInt8 := [9, 10, 13, 32]
def tl (L : List UInt8) : List UInt8 := Lib.trimLeftS L blanks
def tr (L : List UInt8) : List UInt8 := Lib.trimRightS L blanks
def nI (L : List UInt8) : List UInt8 := Lib.trimS L blanks
theorem oJ (p : UInt8 → Bool) (a b : List UInt8) (h : ∀ x ∈ a, p x = true) : (a ++ b).dropWhile p = b.dropWhile p := by
 induction a with
 | nil => rfl
 | cons x a ih =>
  rw [List.cons_append, List.dropWhile_cons, if_pos (h x (by simp))]
  exact ih fun y hy => h y (by simp [hy])
theorem abC (p : UInt8 → Bool) : ∀ L : List UInt8, L.dropWhile p = [] → ∀ y ∈ L, p y = true
 | [], _, y, hy => by cases hy
 | x :: l, h, y, hy => by
  rw [List.dropWhile_cons] at h
  split at h
  ·rename_i hx
   rcases List.mem_cons.1 hy with rfl | hy
   ·exact hx
   ·exact abC p l h y hy
  ·cases h
theorem abD (p : UInt8 → Bool) (L : List UInt8) : (L.dropWhile p).reverse.dropWhile p = ((L.reverse.dropWhile p).reverse.dropWhile p).reverse := by
 induction L with
 | nil => rfl
 | cons x l ih =>
  by_cases hx : p x = true
  ·rw [List.dropWhile_cons, if_pos hx, ih, List.reverse_cons]
   by_cases ha : ∀ y ∈ l, p y = true
   ·have e1 : l.reverse.dropWhile p = [] := by
     have := oJ p l.reverse [] (fun y hy => ha y (by simpa using hy))
     simpa using this
    have e2 : (l.reverse ++ [x]).dropWhile p = [] := by
     rw [oJ p l.reverse [x] (fun y hy => ha y (by simpa using hy)), List.dropWhile_cons, if_pos hx]
     rfl
    rw [e1, e2]
   ·have e3 : (l.reverse ++ [x]).dropWhile p = l.reverse.dropWhile p ++ [x] := by
     rw [List.dropWhile_append, if_neg]
     intro h
     refine ha fun y hy => ?_
     have h' : l.reverse.dropWhile p = [] := by simpa using h
     exact abC p _ h' y (by simpa using hy)
    rw [e3, List.reverse_append, List.reverse_singleton, List.singleton_append, List.dropWhile_cons, if_pos hx]
  ·rw [List.dropWhile_cons, if_neg hx, List.reverse_cons]
   have e3 : (l.reverse ++ [x]).dropWhile p = l.reverse.dropWhile p ++ [x] := by
    rw [List.dropWhile_append]
    split
    ·rename_i h
     have h' : l.reverse.dropWhile p = [] := by simpa using h
     rw [h', List.dropWhile_cons, if_neg hx]
     rfl
    ·rfl
   rw [e3, List.reverse_append, List.reverse_singleton, List.singleton_append, List.dropWhile_cons, if_neg hx, List.reverse_cons, List.reverse_reverse]
theorem XQ (L : List UInt8) : tr (tl L) = tl (tr L) := by
 unfold tr tl Lib.trimRightS Lib.trimLeftS
 rw [abD, List.reverse_reverse]
theorem sU (L : List UInt8) : nI L = tl (tr L) := rfl
theorem BO (L : List UInt8) : (tl L).length ≤ L.length := by
 unfold tl Lib.trimLeftS
 exact (List.dropWhile_sublist _).length_le
theorem E8 (L : List UInt8) : (tr L).length ≤ L.length := by
 unfold tr Lib.trimRightS
 rw [List.length_reverse]
 have := (List.dropWhile_sublist (fun x => blanks.contains x) (l := L.reverse)).length_le
 simpa using this
theorem Pn (L : List UInt8) : (nI L).length ≤ L.length := Nat.le_trans (BO _) (E8 _)
end Go.Proofs.YtcfgioklgmlclaaGreatDoor.nV
namespace Go.Proofs.YtcfgioklgmlclaaGreatDoor.Nw
open Go.RowKit Base aP nV
theorem drop_at (s : ByteArray) (k : Nat) (h : k < s.size) : s.data.toList.drop k = s[k] :: s.data.toList.drop (k + 1) := by
 have h' : k < s.data.toList.length := by rw [Array.length_toList]; exact h
 rw [List.drop_eq_getElem_cons h']
 rfl
theorem empty_of (s : ByteArray) (h : s.size = 0) : s = strOf [] := by
 have : s.data.toList = [] := List.eq_nil_of_length_eq_zero (by rw [Array.length_toList]; exact h)
 rw [← ay s, this]
theorem toList_eq (s : ByteArray) (h : s.size = 0) : s.toList = [] := by
 rw [empty_of s h, strOf, ByteArray.toList_mk]
theorem kQ (s : ByteArray) (h : 0 < s.size) : s.toList.isEmpty = false := by
 rw [Lib.toList_data]
 cases e : s.data.toList with
 | nil => have : s.data.toList.length = s.size := Array.length_toList; rw [e] at this; simp at this; omega
 | cons _ _ => rfl
theorem kH (s : ByteArray) (h : 0 < s.size) : (s.toList == []) = false := by
 have := kQ s h
 cases e : s.toList with
 | nil => rw [e] at this; cases this
 | cons _ _ => rfl
theorem ne34 (c : UInt8) (h : ¬ (c.toNat : Int) = 34) : c ≠ 34 := fun e => h (by rw [e]; rfl)
theorem ne92 (c : UInt8) (h : ¬ (c.toNat : Int) = 92) : c ≠ 92 := fun e => h (by rw [e]; rfl)
theorem yD (c d : UInt8) (h : (c.toNat : Int) = (d.toNat : Int)) : c = d := UInt8.toNat_inj.1 (by omega)
theorem VN (s : ByteArray) (w : World) (hs : s.size ≤ 1073741824) :
  Calls Tryz.prog 214 #[.string s] w fun e w' => e = .returned (.tuple #[.string (strOf (iJ s.data.toList).1), .int .i64 (((iJ s.data.toList).2 : Nat) : Int)]) ∧ Below w.heap.size w w' := by
 have hl : s.data.toList.length = s.size := Array.length_toList
 have HL := hid hl
 clear hl
 obtain ⟨i0, hi, hz0, hz1, hz2⟩ := info_parts jU
 rcases Nat.eq_zero_or_pos s.size with h0 | h0
 ·have HE : Hid (iJ s.data.toList = ([], 0)) := by rw [empty_of s h0]; exact rfl
  have e0 := toList_eq s h0
  clear HL h0 hs
  go_enter Tryz.func214, Tryz.ntmps214
  go_wp2
  go_ret2
  rw [HE.out]
  exact ⟨rfl, Below.refl _ _⟩
 ·have e0 := kQ s h0
  have e0' := kH s h0
  obtain ⟨c, hc⟩ : ∃ c, s[0] = c := ⟨_, rfl⟩
  have HD0 : Hid (s.data.toList = c :: s.data.toList.drop 1) := by
   have := drop_at s 0 h0
   rw [hc] at this
   exact this
  by_cases Aa : (c.toNat : Int) = 34
  ·have e1 : ((c.toNat : Int) != 34) = false := by simp [Aa]
   have HQ : Hid (iJ s.data.toList = ((qd (s.data.toList.drop 1)).1, (qd (s.data.toList.drop 1)).2 + 1)) := by
    show _ = _
    rw [HD0.out, iJ, if_pos (yD c 34 Aa)]
    rfl
   clear HD0 Aa
   go_enter Tryz.func214, Tryz.ntmps214
   go_wp2
   go_loopw [4, 5] (fun v vk wr => ∃ (j : Nat) (X : List UInt8), 1 ≤ j ∧ j ≤ s.size ∧ X.length ≤ j ∧ vk = .int .i64 j ∧ wr.ownsRow w.heap.size 5 1 v X.length (ak X) ∧ Hid (qd (s.data.toList.drop 1) = (X ++ (qd (s.data.toList.drop j)).1, j - 1 + (qd (s.data.toList.drop j)).2)) ∧ Below w.heap.size w wr) (fun _ vk _ => s.size - (intOf vk).toNat)
   case atStart => exact ⟨1, [], Nat.le_refl _, h0, Nat.zero_le _, rfl, World.ownsRow_nil _ _ _ _, by show _ = _; simp, Below.refl _ _⟩
   case round =>
    clear e1 hc e0 e0'
    obtain ⟨j, X, hj1, hj, hX, rfl, hown, Uf, hbel⟩ := hrel
    by_cases hlt : j < s.size
    ·obtain ⟨c, hc⟩ : ∃ c, s[j] = c := ⟨_, rfl⟩
     have HC : Hid (s.data.toList.drop j = c :: s.data.toList.drop (j + 1)) := by
      have := drop_at s j hlt
      rw [hc] at this
      exact this
     by_cases Aa : (c.toNat : Int) = 34
     ·have e1 : ((c.toNat : Int) == 34) = true := by simp [Aa]
      have HV : Hid (iJ s.data.toList = (X, j + 1)) := by
       show _ = _
       rw [HQ.out, Uf.out, HC.out, yD c 34 Aa, VI]
       refine Prod.ext (by simp) ?_
       show j - 1 + 1 + 1 = j + 1
       omega
      clear Aa
      obtain ⟨A, cp, rfl, _, _, hrd⟩ := bZ hown
      have hst := aQ 30 9 5 Tryz.underlying30 Tryz.underlying5 Tryz.underlying9 _ cp hrd
      go_wp2
      go_ret2
      rw [HV.out]
      exact ⟨rfl, hbel⟩
     ·have e1 : ((c.toNat : Int) == 34) = false := by simp [Aa]
      by_cases YW : (c.toNat : Int) = 92 ∧ j + 1 < s.size
      ·obtain ⟨YW, hlt2⟩ := YW
       have e2 : ((c.toNat : Int) == 92) = true := by simp [YW]
       have hlt2' : (j : Int) + 1 < (s.size : Int) := by omega
       obtain ⟨d, hd⟩ : ∃ d, s[j + 1] = d := ⟨_, rfl⟩
       have HC2 : Hid (s.data.toList.drop (j + 1) = d :: s.data.toList.drop (j + 2)) := by
        have := drop_at s (j + 1) hlt2
        rw [hd] at this
        exact this
       have HV : Hid (qd (s.data.toList.drop 1) = ((X ++ [d]) ++ (qd (s.data.toList.drop (j + 2))).1, j + 2 - 1 + (qd (s.data.toList.drop (j + 2))).2)) := by
        show _ = _
        rw [Uf.out, HC.out, HC2.out, yD c 92 YW, VJ]
        refine Prod.ext (by simp) ?_
        simp only
        omega
       clear Aa YW
       have ht : ((j : Int) + 1).toNat = j + 1 := by omega
       go_wp2_with (at_builtin; refine bC rfl _ _ 30 rfl w.heap.size 5 i0 (.int .u8 0) 1 Tryz.underlying30 hi hz0 hz1 hz2 rfl _ X.length _ rfl hown hbel hbel.size [.int .u8 (d.toNat : Int)] 1 rfl rfl (by intro u hu; simp at hu; subst hu; rfl) (by unfold maxLen; omega) (by omega) ?_)
       intro v' w3 hown3 dK
       clear hown hbel
       go_wp2
       go_roundw
       case rel => exact ⟨j + 2, X ++ [d], by omega, by omega, by simp; omega, by rw [show ((j + 2 : Nat) : Int) = (j : Int) + 1 + 1 by omega], by rw [aX, List.length_append]; exact hown3, HV, dK⟩
       case measure => simp [intOf]; omega
      ·have HV : Hid (qd (s.data.toList.drop 1) = ((X ++ [c]) ++ (qd (s.data.toList.drop (j + 1))).1, j + 1 - 1 + (qd (s.data.toList.drop (j + 1))).2)) := by
        show _ = _
        by_cases hq : (c.toNat : Int) = 92
        ·have hn : j + 1 = s.size := by omega
         have e : s.data.toList.drop (j + 1) = [] := by rw [hn, ← HL.out, List.drop_length]
         rw [Uf.out, HC.out, e, yD c 92 hq, XE]
         refine Prod.ext (by simp [qd]) ?_
         simp [qd]
         omega
        ·rw [Uf.out, HC.out, Jg c _ (ne34 c Aa) (ne92 c hq)]
         refine Prod.ext (by simp) ?_
         simp only
         omega
       have hcase : ((c.toNat : Int) == 92) = false ∨ (((c.toNat : Int) == 92) = true ∧ ¬ ((j : Int) + 1 < (s.size : Int))) := by
        by_cases hq : (c.toNat : Int) = 92
        ·exact .inr ⟨by simp [hq], by omega⟩
        ·exact .inl (by simp [hq])
       clear Aa YW
       rcases hcase with e2 | ⟨e2, e3⟩
       all_goals
        go_wp2_with (at_builtin; refine bC rfl _ _ 30 rfl w.heap.size 5 i0 (.int .u8 0) 1 Tryz.underlying30 hi hz0 hz1 hz2 rfl _ X.length _ rfl hown hbel hbel.size [.int .u8 (c.toNat : Int)] 1 rfl rfl (by intro u hu; simp at hu; subst hu; rfl) (by unfold maxLen; omega) (by omega) ?_)
        intro v' w3 hown3 dK
        clear hown hbel
        go_wp2
        go_roundw
        case rel => exact ⟨j + 1, X ++ [c], by omega, by omega, by simp; omega, by go_num, by rw [aX, List.length_append]; exact hown3, HV, dK⟩
        case measure => simp [intOf]; omega
    ·obtain rfl : j = s.size := by omega
     have HV : Hid (iJ s.data.toList = (X, s.size)) := by
      show _ = _
      rw [HQ.out, Uf.out, show s.data.toList.drop s.size = [] by rw [← HL.out, List.drop_length]]
      refine Prod.ext (by simp [qd]) ?_
      simp [qd]
      omega
     obtain ⟨A, cp, rfl, _, _, hrd⟩ := bZ hown
     have hst := aQ 30 9 5 Tryz.underlying30 Tryz.underlying5 Tryz.underlying9 _ cp hrd
     go_wp2
     go_ret2
     rw [HV.out]
     exact ⟨rfl, hbel⟩
  ·have e1 : ((c.toNat : Int) != 34) = true := by simp [Aa]
   have HQ : Hid (iJ s.data.toList = ([], 0)) := by
    show _ = _
    rw [HD0.out, iJ, if_neg (ne34 c Aa)]
   clear HD0 Aa
   go_enter Tryz.func214, Tryz.ntmps214
   go_wp2
   go_ret2
   rw [HQ.out]
   exact ⟨rfl, Below.refl _ _⟩
end Go.Proofs.YtcfgioklgmlclaaGreatDoor.Nw
namespace Go.Proofs.YtcfgioklgmlclaaGreatDoor.vN
open Go.RowKit Base aP eX nV Nw
def has (L : List UInt8) (c : UInt8) : Bool := L.contains c
theorem lC (s : ByteArray) (c : UInt8) (w : World) (hs : s.size ≤ 1073741824) :
  Calls Tryz.prog 54 #[.string s, .int .u8 (c.toNat : Int)] w fun e w' => e = .returned (.bool (has s.data.toList c)) ∧ w = w' := by
 have hl : s.data.toList.length = s.size := Array.length_toList
 have HL := hid hl
 clear hl
 go_enter Tryz.func54, Tryz.ntmps54
 go_wp2
 go_loop [8] (fun vk => ∃ j : Nat, j ≤ s.size ∧ vk = .int .i64 j ∧ Hid (has s.data.toList c = has (s.data.toList.drop j) c)) (fun vk => s.size - (intOf vk).toNat)
 case atStart => exact ⟨0, Nat.zero_le _, rfl, rfl⟩
 case round =>
  obtain ⟨j, hj, rfl, HT⟩ := hrel
  by_cases hlt : j < s.size
  ·obtain ⟨d, hd⟩ : ∃ d, s[j] = d := ⟨_, rfl⟩
   have HC : Hid (s.data.toList.drop j = d :: s.data.toList.drop (j + 1)) := by
    have := drop_at s j hlt
    rw [hd] at this
    exact this
   by_cases h : (d.toNat : Int) = (c.toNat : Int)
   ·have e1 : ((d.toNat : Int) == (c.toNat : Int)) = true := by simp [h]
    have HV : Hid (has s.data.toList c = true) := by
     show _ = _
     rw [HT.out, HC.out, yD d c h]
     simp [has]
    clear h
    go_wp2
    go_ret
    rw [HV.out]
    exact ⟨rfl, rfl⟩
   ·have e1 : ((d.toNat : Int) == (c.toNat : Int)) = false := by simp; omega
    have HV : Hid (has s.data.toList c = has (s.data.toList.drop (j + 1)) c) := by
     show _ = _
     rw [HT.out, HC.out, has, List.contains_cons, show (c == d) = false by simp; intro e; exact h (by rw [e]), Bool.false_or]
     rfl
    clear h
    go_wp2
    go_round
    case rel => exact ⟨j + 1, by omega, by go_num, HV⟩
    case measure => simp [intOf]; omega
  ·obtain rfl : j = s.size := by omega
   have HV : Hid (has s.data.toList c = false) := by
    show _ = _
    rw [HT.out, ← HL.out, List.drop_length]
    rfl
   go_wp2
   go_ret
   rw [HV.out]
   exact ⟨rfl, rfl⟩
theorem tch_no (c : UInt8) (h1 : letter c.toNat = false) (h2 : digit c.toNat = false) (h3 : decide (Lib.indexByte marks c < 0) = true) : xJ c = false := by
 rw [LC] at h3
 unfold xJ
 rw [h1, h2]
 simpa using h3
theorem tch_yes (c : UInt8) (h : letter c.toNat = true ∨ digit c.toNat = true ∨ decide (Lib.indexByte marks c < 0) = false) : xJ c = true := by
 unfold xJ
 rcases h with h | h | h
 ·simp [h]
 ·simp [h]
 ·rw [LC] at h
  simp at h
  simp [h]
theorem IC (s : ByteArray) (w : World) (hs : s.size ≤ 1073741824) :
  Calls Tryz.prog 128 #[.string s] w fun e w' => e = .returned (.bool (cZ s.data.toList)) ∧ w = w' := by
 have hl : s.data.toList.length = s.size := Array.length_toList
 have HL := hid hl
 clear hl
 go_enter Tryz.func128, Tryz.ntmps128
 go_wp2
 go_loop [3] (fun vk => ∃ j : Nat, j ≤ s.size ∧ vk = .int .i64 j ∧ Hid (s.data.toList.all xJ = (s.data.toList.drop j).all xJ)) (fun vk => s.size - (intOf vk).toNat)
 case atStart => exact ⟨0, Nat.zero_le _, rfl, rfl⟩
 case round =>
  obtain ⟨j, hj, rfl, HT⟩ := hrel
  by_cases hlt : j < s.size
  ·obtain ⟨c, hd⟩ : ∃ d, s[j] = d := ⟨_, rfl⟩
   have HC : Hid (s.data.toList.drop j = c :: s.data.toList.drop (j + 1)) := by
    have := drop_at s j hlt
    rw [hd] at this
    exact this
   have hix := fun w => Tryz.strings_IndexByte ⟨#[33, 35, 36, 37, 38, 39, 42, 43, 45, 46, 94, 95, 96, 124, 126]⟩ (c.toNat : Int) w
   rw [show ((c.toNat : Int).toNat.toUInt8) = c by simp] at hix
   have HIX := hid hix
   clear hix
   obtain ⟨z, hz⟩ : ∃ z, z = Lib.indexByte marks c := ⟨_, rfl⟩
   have HZ := hid hz
   have hzr : -1 ≤ z := by rw [hz]; exact Lib.indexByte_ge _ _
   clear hz
   have hcase : (letter c.toNat = true ∨ letter c.toNat = false ∧ digit c.toNat = true ∨ letter c.toNat = false ∧ digit c.toNat = false ∧ 0 ≤ z) ∨ (letter c.toNat = false ∧ digit c.toNat = false ∧ z < 0) := by
    cases letter c.toNat <;> cases digit c.toNat <;> simp <;> omega
   rcases hcase with h | ⟨h1, h2, h3⟩
   ·have HV : Hid (s.data.toList.all xJ = (s.data.toList.drop (j + 1)).all xJ) := by
     show _ = _
     rw [HT.out, HC.out, List.all_cons, tch_yes c (by rcases h with h | ⟨_, h⟩ | ⟨_, _, h⟩; exact .inl h; exact .inr (.inl h); exact .inr (.inr (by rw [← HZ.out]; simp; omega))), Bool.true_and]
    rcases h with h | ⟨h1, h2⟩ | ⟨h1, h2, h3⟩
    ·have H1 := hid h
     clear h
     go_wp2_with fail
     refine (fB _ _).mono ?_
     rintro e w2 ⟨rfl, rfl⟩
     rw [H1.out]
     go_wp2_with fail
     go_round
     case rel => exact ⟨j + 1, by omega, by go_num, HV⟩
     case measure => simp [intOf]; omega
    ·have H1 := hid h1
     have H2 := hid h2
     clear h1 h2
     go_wp2_with fail
     refine (fB _ _).mono ?_
     rintro e w2 ⟨rfl, rfl⟩
     rw [H1.out]
     go_wp2_with fail
     refine (ji _ _).mono ?_
     rintro e w2 ⟨rfl, rfl⟩
     rw [H2.out]
     go_wp2_with fail
     go_round
     case rel => exact ⟨j + 1, by omega, by go_num, HV⟩
     case measure => simp [intOf]; omega
    ·have H1 := hid h1
     have H2 := hid h2
     clear h1 h2
     go_wp2_with fail
     refine (fB _ _).mono ?_
     rintro e w2 ⟨rfl, rfl⟩
     rw [H1.out]
     go_wp2_with fail
     refine (ji _ _).mono ?_
     rintro e w2 ⟨rfl, rfl⟩
     rw [H2.out]
     go_wp2_with fail
     refine (HIX.out _).mono ?_
     rintro e w2 ⟨rfl, rfl⟩
     rw [show Lib.indexByte (⟨#[33, 35, 36, 37, 38, 39, 42, 43, 45, 46, 94, 95, 96, 124, 126]⟩ : ByteArray).data.toList c = z from HZ.out.symm]
     go_wp2_with fail
     go_round
     case rel => exact ⟨j + 1, by omega, by go_num, HV⟩
     case measure => simp [intOf]; omega
   ·have HV : Hid (cZ s.data.toList = false) := by
     show _ = _
     rw [cZ, HT.out, HC.out, List.all_cons, tch_no c h1 h2 (by rw [← HZ.out]; simpa using h3), Bool.false_and, Bool.false_and]
    have H1 := hid h1
    have H2 := hid h2
    clear h1 h2
    go_wp2_with fail
    refine (fB _ _).mono ?_
    rintro e w2 ⟨rfl, rfl⟩
    rw [H1.out]
    go_wp2_with fail
    refine (ji _ _).mono ?_
    rintro e w2 ⟨rfl, rfl⟩
    rw [H2.out]
    go_wp2_with fail
    refine (HIX.out _).mono ?_
    rintro e w2 ⟨rfl, rfl⟩
    rw [show Lib.indexByte (⟨#[33, 35, 36, 37, 38, 39, 42, 43, 45, 46, 94, 95, 96, 124, 126]⟩ : ByteArray).data.toList c = z from HZ.out.symm]
    go_wp2_with fail
    go_ret
    rw [HV.out]
    exact ⟨rfl, rfl⟩
  ·obtain rfl : j = s.size := by omega
   have HV : Hid (cZ s.data.toList = !s.toList.isEmpty) := by
    show _ = _
    rw [cZ, HT.out, ← HL.out, List.drop_length, Lib.toList_data]
    rfl
   rcases Nat.eq_zero_or_pos s.size with h0 | h0
   ·have e0 := toList_eq s h0
    have Ci : Hid (cZ s.data.toList = false) := by rw [HV.out, e0]; exact rfl
    go_wp2
    go_ret
    rw [Ci.out]
    exact ⟨rfl, rfl⟩
   ·have e0 := kQ s h0
    have e0' := kH s h0
    have Ci : Hid (cZ s.data.toList = true) := by rw [HV.out, e0]; exact rfl
    go_wp2
    go_ret
    rw [Ci.out]
    exact ⟨rfl, rfl⟩
theorem Jl (s : ByteArray) (w : World) (hs : s.size ≤ 1073741824) :
  Calls Tryz.prog 85 #[.string s] w fun e w' => e = .returned (.bool (cZ s.data.toList)) ∧ w = w' := by
 have hl : s.data.toList.length = s.size := Array.length_toList
 have HL := hid hl
 clear hl
 go_enter Tryz.func85, Tryz.ntmps85
 go_wp2
 go_loop [6] (fun vk => ∃ j : Nat, j ≤ s.size ∧ vk = .int .i64 j ∧ Hid (s.data.toList.all xJ = (s.data.toList.drop j).all xJ)) (fun vk => s.size - (intOf vk).toNat)
 case atStart => exact ⟨0, Nat.zero_le _, rfl, rfl⟩
 case round =>
  obtain ⟨j, hj, rfl, HT⟩ := hrel
  by_cases hlt : j < s.size
  ·obtain ⟨c, hd⟩ : ∃ d, s[j] = d := ⟨_, rfl⟩
   have HC : Hid (s.data.toList.drop j = c :: s.data.toList.drop (j + 1)) := by
    have := drop_at s j hlt
    rw [hd] at this
    exact this
   have hcase : (letter c.toNat = true ∨ letter c.toNat = false ∧ digit c.toNat = true ∨ letter c.toNat = false ∧ digit c.toNat = false ∧ has marks c = true) ∨ (letter c.toNat = false ∧ digit c.toNat = false ∧ has marks c = false) := by
    cases letter c.toNat <;> cases digit c.toNat <;> cases has marks c <;> simp
   rcases hcase with h | ⟨h1, h2, h3⟩
   ·have HV : Hid (s.data.toList.all xJ = (s.data.toList.drop (j + 1)).all xJ) := by
     show _ = _
     rw [HT.out, HC.out, List.all_cons, show xJ c = true by unfold xJ; rcases h with h | ⟨_, h⟩ | ⟨_, _, h⟩; simp [h]; simp [h]; unfold has at h; rw [h]; simp, Bool.true_and]
    rcases h with h | ⟨h1, h2⟩ | ⟨h1, h2, h3⟩
    ·have H1 := hid h
     clear h
     go_wp2_with fail
     refine (AP.fB _ _).mono ?_
     rintro e w2 ⟨rfl, rfl⟩
     rw [H1.out]
     go_wp2_with fail
     go_round
     case rel => exact ⟨j + 1, by omega, by go_num, HV⟩
     case measure => simp [intOf]; omega
    ·have H1 := hid h1
     have H2 := hid h2
     clear h1 h2
     go_wp2_with fail
     refine (AP.fB _ _).mono ?_
     rintro e w2 ⟨rfl, rfl⟩
     rw [H1.out]
     go_wp2_with fail
     refine (AP.ji _ _).mono ?_
     rintro e w2 ⟨rfl, rfl⟩
     rw [H2.out]
     go_wp2_with fail
     go_round
     case rel => exact ⟨j + 1, by omega, by go_num, HV⟩
     case measure => simp [intOf]; omega
    ·have H1 := hid h1
     have H2 := hid h2
     have H3 := hid h3
     clear h1 h2 h3
     go_wp2_with fail
     refine (AP.fB _ _).mono ?_
     rintro e w2 ⟨rfl, rfl⟩
     rw [H1.out]
     go_wp2_with fail
     refine (AP.ji _ _).mono ?_
     rintro e w2 ⟨rfl, rfl⟩
     rw [H2.out]
     go_wp2_with fail
     refine (lC (strOf marks) c _ (by decide)).mono ?_
     rintro e w2 ⟨rfl, rfl⟩
     rw [show has (strOf marks).data.toList c = true from H3.out]
     go_wp2_with fail
     go_round
     case rel => exact ⟨j + 1, by omega, by go_num, HV⟩
     case measure => simp [intOf]; omega
   ·have HV : Hid (cZ s.data.toList = false) := by
     show _ = _
     rw [cZ, HT.out, HC.out, List.all_cons, show xJ c = false by unfold xJ; unfold has at h3; rw [h1, h2, h3]; rfl, Bool.false_and, Bool.false_and]
    have H1 := hid h1
    have H2 := hid h2
    have H3 := hid h3
    clear h1 h2 h3
    go_wp2_with fail
    refine (AP.fB _ _).mono ?_
    rintro e w2 ⟨rfl, rfl⟩
    rw [H1.out]
    go_wp2_with fail
    refine (AP.ji _ _).mono ?_
    rintro e w2 ⟨rfl, rfl⟩
    rw [H2.out]
    go_wp2_with fail
    refine (lC (strOf marks) c _ (by decide)).mono ?_
    rintro e w2 ⟨rfl, rfl⟩
    rw [show has (strOf marks).data.toList c = false from H3.out]
    go_wp2_with fail
    go_ret
    rw [HV.out]
    exact ⟨rfl, rfl⟩
  ·obtain rfl : j = s.size := by omega
   have HV : Hid (cZ s.data.toList = !s.toList.isEmpty) := by
    show _ = _
    rw [cZ, HT.out, ← HL.out, List.drop_length, Lib.toList_data]
    rfl
   rcases Nat.eq_zero_or_pos s.size with h0 | h0
   ·have e0 := toList_eq s h0
    have Ci : Hid (cZ s.data.toList = false) := by rw [HV.out, e0]; exact rfl
    go_wp2
    go_ret
    rw [Ci.out]
    exact ⟨rfl, rfl⟩
   ·have e0 := kQ s h0
    have e0' := kH s h0
    have Ci : Hid (cZ s.data.toList = true) := by rw [HV.out, e0]; exact rfl
    go_wp2
    go_ret
    rw [Ci.out]
    exact ⟨rfl, rfl⟩
end Go.Proofs.YtcfgioklgmlclaaGreatDoor.vN
namespace Go.Proofs.YtcfgioklgmlclaaGreatDoor.RefS
open Go.RowKit Base aP uy
def Ef (t : List UInt8) : Prop := ∀ c ∈ t, 128 ≤ (c.toNat : Int) ∧ (c.toNat : Int) ≤ 191
instance (t : List UInt8) : Decidable (Ef t) := by unfold Ef; exact inferInstance
def zQ (x y : Int) : Prop := x = 224 ∧ y < 160 ∨ x = 237 ∧ 159 < y ∨ x = 240 ∧ y < 144 ∨ x = 244 ∧ 143 < y
instance (x y : Int) : Decidable (zQ x y) := by unfold zQ; exact inferInstance
def bad (x : Int) : List UInt8 → Prop
 | [] => False
 | y :: _ => zQ x y.toNat
instance (x : Int) (t : List UInt8) : Decidable (bad x t) := by cases t <;> unfold bad <;> exact inferInstance
def st : List UInt8 → Bool × Bool
 | [] => (false, false)
 | x :: t => if size x.toNat < (t.length : Int) + 1 ∨ ¬ Ef t ∨ bad x.toNat t then (false, false) else (true, decide ((t.length : Int) + 1 = size x.toNat))
def Ns (L : List UInt8) (k : Nat) : Prop := ∀ j (h : j < L.length), 1 ≤ j → j < k → 128 ≤ (L[j].toNat : Int) ∧ (L[j].toNat : Int) ≤ 191
theorem DK (x : UInt8) (t : List UInt8) (h : Ns (x :: t) (t.length + 1)) : Ef t := by
 intro c hc
 obtain ⟨i, hi, rfl⟩ := List.mem_iff_getElem.1 hc
 have := h (i + 1) (by simp; omega) (by omega) (by omega)
 simpa using this
theorem DN (x : UInt8) (t : List UInt8) (k : Nat) (hk : k < t.length + 1) (h1 : 1 ≤ k) (hb : ((x :: t)[k].toNat : Int) < 128 ∨ 191 < ((x :: t)[k].toNat : Int)) : ¬ Ef t := by
 intro h
 obtain ⟨i, rfl⟩ : ∃ i, k = i + 1 := ⟨k - 1, by omega⟩
 have := h t[i] (List.getElem_mem _)
 simp at hb
 omega
theorem IV {a b c : Prop} (h1 : ¬ a) (h2 : b) (h3 : ¬ c) : ¬ (a ∨ ¬ b ∨ c) := by
 rintro (h | h | h)
 ·exact h1 h
 ·exact h h2
 ·exact h3 h
theorem sS (x : UInt8) (t : List UInt8) (h : size x.toNat < (t.length : Int) + 1 ∨ ¬ Ef t ∨ bad x.toNat t) : st (x :: t) = (false, false) := by rw [st, if_pos h]
theorem qX (x : UInt8) (t : List UInt8) (h : ¬ (size x.toNat < (t.length : Int) + 1 ∨ ¬ Ef t ∨ bad x.toNat t)) : st (x :: t) = (true, decide ((t.length : Int) + 1 = size x.toNat)) := by rw [st, if_neg h]
theorem adO (b off cap : Nat) (x : UInt8) (t : List UInt8) (n : Nat) (w : World) (hn : t.length + 1 = n) (hm : n ≤ 16) (hz : size x.toNat = 1)
  (hL : ∀ j (h : j < (x :: t).length), w.cell? ⟨b, off + j, none⟩ = some (.int .u8 ((x :: t)[j].toNat : Int)))
  (k1 : (x.toNat : Int) < 128)
  (R : Bool × Bool) (hR : R = st (x :: t)) :
  Calls Tryz.prog 176 #[.slice (some ⟨b, off, none⟩) n cap] w fun e w' => e = .returned (.tuple #[.bool R.1, .bool R.2]) ∧ w = w' := by
 have hc0 : w.cell? ⟨b, off, none⟩ = some (.int .u8 (x.toNat : Int)) := by
  have := hL 0 (by simp)
  rw [Nat.add_zero] at this
  exact this
 have HL := hid hL
 have HN := hid hn
 have HZ := hid hz
 have HR := hid hR
 have hp : (0 : Int) < (n : Int) := by omega
 clear hL hn hz hR
 by_cases acz : (1 : Int) < (n : Int)
 ·have HE : Hid (R = (false, false)) := by
   have e := HR.out
   rw [sS x t (.inl (by rw [HZ.out]; have := HN.out; omega))] at e
   exact e
  go_enter Tryz.func176, Tryz.ntmps176
  go_wp2
  go_ret2
  rw [HE.out]
  exact ⟨rfl, rfl⟩
 ·go_enter Tryz.func176, Tryz.ntmps176
  go_wp2
  go_loop [5] (fun vk => ∃ k : Nat, 1 ≤ k ∧ k ≤ n ∧ vk = .int .i64 k ∧ Hid (Ns (x :: t) k)) (fun vk => n - (intOf vk).toNat)
  case atStart => exact ⟨1, by omega, by omega, rfl, fun j _ h1 h2 => absurd h2 (by omega)⟩
  case round =>
   obtain ⟨k, hk1, hk2, rfl, HO⟩ := hrel
   by_cases hlt : k < n
   ·have hlx : k < (x :: t).length := by have := HN.out; simp; omega
    obtain ⟨c, hc⟩ : ∃ c, c = (x :: t)[k] := ⟨_, rfl⟩
    have hcell : w.cell? ⟨b, off + k, none⟩ = some (.int .u8 (c.toNat : Int)) := by rw [hc]; exact HL.out k hlx
    have HC := hid hc
    clear hc
    by_cases hb : (c.toNat : Int) < 128 ∨ 191 < (c.toNat : Int)
    ·have HE : Hid (R = (false, false)) := by
      have e := HR.out
      rw [sS x t (.inr (.inl (DN x t k (by have := HN.out; omega) hk1 (by rw [← HC.out]; exact hb))))] at e
      exact e
     rcases hb with hb | hb
     ·go_wp2
      go_ret2
      rw [HE.out]
      exact ⟨rfl, rfl⟩
     ·have hb' : ¬ (c.toNat : Int) < 128 := by omega
      go_wp2
      go_ret2
      rw [HE.out]
      exact ⟨rfl, rfl⟩
    ·have hb1 : ¬ (c.toNat : Int) < 128 := by omega
     have hb2 : ¬ 191 < (c.toNat : Int) := by omega
     have jI : Hid (Ns (x :: t) (k + 1)) := fun j hj h1 h2 => by
      by_cases e : j = k
      ·subst e
       rw [← HC.out]
       omega
      ·exact HO.out j hj h1 (by omega)
     clear hb HO
     go_wp2
     go_round
     case rel => exact ⟨k + 1, by omega, by omega, by go_num, jI⟩
     case measure => simp [intOf]; omega
   ·skip
    obtain rfl : k = n := by omega
    have HA : Hid (Ef t) := DK x t (by have e := HN.out; rw [e]; exact HO.out)
    clear HO hlt
    cases t with
    | nil =>
     have hn1 := HN.out
     simp at hn1
     have HE : Hid (R = (true, decide ((k : Int) = 1))) := by
      have e := HR.out
      rw [qX x [] (IV (by rw [HZ.out]; simp) HA.out (fun h => h)), HZ.out] at e
      rw [e, ← hn1]
      exact rfl
     have hn2 : ¬ (1 : Int) < (k : Int) := by omega
     clear hn1
     go_wp2
     go_ret2
     rw [HE.out]
     exact ⟨nR rfl (fF (by rw [Bool.eq_iff_iff]; simp)), rfl⟩
    | cons y t' =>
     have hc1 : w.cell? ⟨b, off + 1, none⟩ = some (.int .u8 (y.toNat : Int)) := HL.out 1 (by simp)
     have hn1 := HN.out
     simp only [List.length_cons] at hn1
     have hn2 : (1 : Int) < (k : Int) := by omega
     have hy0 : 0 ≤ (y.toNat : Int) ∧ (y.toNat : Int) < 256 := by have := y.toNat_lt; omega
     have HK : Hid ((((y :: t').length : Nat) : Int) + 1 = k) := by show _ = _; simp only [List.length_cons]; omega
     clear hn1
     by_cases hbd : zQ x.toNat y.toNat
     ·have HE : Hid (R = (false, false)) := by
       have e := HR.out
       rw [sS x (y :: t') (.inr (.inr hbd))] at e
       exact e
      unfold zQ at hbd
      exact absurd hbd (by omega)
     ·have HE : Hid (R = (true, decide ((k : Int) = 1))) := by
       have e := HR.out
       rw [qX x (y :: t') (IV (by rw [HZ.out]; have := HK.out; omega) HA.out hbd), HZ.out, HK.out] at e
       exact e
      unfold zQ at hbd
      clear hbd
      go_wp2
      all_goals
       go_ret2
       rw [HE.out]
       exact ⟨nR rfl (fF (by rw [Bool.eq_iff_iff]; simp)), rfl⟩
theorem adP (b off cap : Nat) (x : UInt8) (t : List UInt8) (n : Nat) (w : World) (hn : t.length + 1 = n) (hm : n ≤ 16) (hz : size x.toNat = 2)
  (hL : ∀ j (h : j < (x :: t).length), w.cell? ⟨b, off + j, none⟩ = some (.int .u8 ((x :: t)[j].toNat : Int)))
  (k1 : 194 ≤ (x.toNat : Int)) (k2 : (x.toNat : Int) ≤ 223)
  (R : Bool × Bool) (hR : R = st (x :: t)) :
  Calls Tryz.prog 176 #[.slice (some ⟨b, off, none⟩) n cap] w fun e w' => e = .returned (.tuple #[.bool R.1, .bool R.2]) ∧ w = w' := by
 have hc0 : w.cell? ⟨b, off, none⟩ = some (.int .u8 (x.toNat : Int)) := by
  have := hL 0 (by simp)
  rw [Nat.add_zero] at this
  exact this
 have HL := hid hL
 have HN := hid hn
 have HZ := hid hz
 have HR := hid hR
 have hp : (0 : Int) < (n : Int) := by omega
 clear hL hn hz hR
 by_cases acz : (2 : Int) < (n : Int)
 ·have HE : Hid (R = (false, false)) := by
   have e := HR.out
   rw [sS x t (.inl (by rw [HZ.out]; have := HN.out; omega))] at e
   exact e
  go_enter Tryz.func176, Tryz.ntmps176
  go_wp2
  go_ret2
  rw [HE.out]
  exact ⟨rfl, rfl⟩
 ·go_enter Tryz.func176, Tryz.ntmps176
  go_wp2
  go_loop [5] (fun vk => ∃ k : Nat, 1 ≤ k ∧ k ≤ n ∧ vk = .int .i64 k ∧ Hid (Ns (x :: t) k)) (fun vk => n - (intOf vk).toNat)
  case atStart => exact ⟨1, by omega, by omega, rfl, fun j _ h1 h2 => absurd h2 (by omega)⟩
  case round =>
   obtain ⟨k, hk1, hk2, rfl, HO⟩ := hrel
   by_cases hlt : k < n
   ·have hlx : k < (x :: t).length := by have := HN.out; simp; omega
    obtain ⟨c, hc⟩ : ∃ c, c = (x :: t)[k] := ⟨_, rfl⟩
    have hcell : w.cell? ⟨b, off + k, none⟩ = some (.int .u8 (c.toNat : Int)) := by rw [hc]; exact HL.out k hlx
    have HC := hid hc
    clear hc
    by_cases hb : (c.toNat : Int) < 128 ∨ 191 < (c.toNat : Int)
    ·have HE : Hid (R = (false, false)) := by
      have e := HR.out
      rw [sS x t (.inr (.inl (DN x t k (by have := HN.out; omega) hk1 (by rw [← HC.out]; exact hb))))] at e
      exact e
     rcases hb with hb | hb
     ·go_wp2
      go_ret2
      rw [HE.out]
      exact ⟨rfl, rfl⟩
     ·have hb' : ¬ (c.toNat : Int) < 128 := by omega
      go_wp2
      go_ret2
      rw [HE.out]
      exact ⟨rfl, rfl⟩
    ·have hb1 : ¬ (c.toNat : Int) < 128 := by omega
     have hb2 : ¬ 191 < (c.toNat : Int) := by omega
     have jI : Hid (Ns (x :: t) (k + 1)) := fun j hj h1 h2 => by
      by_cases e : j = k
      ·subst e
       rw [← HC.out]
       omega
      ·exact HO.out j hj h1 (by omega)
     clear hb HO
     go_wp2
     go_round
     case rel => exact ⟨k + 1, by omega, by omega, by go_num, jI⟩
     case measure => simp [intOf]; omega
   ·skip
    obtain rfl : k = n := by omega
    have HA : Hid (Ef t) := DK x t (by have e := HN.out; rw [e]; exact HO.out)
    clear HO hlt
    cases t with
    | nil =>
     have hn1 := HN.out
     simp at hn1
     have HE : Hid (R = (true, decide ((k : Int) = 2))) := by
      have e := HR.out
      rw [qX x [] (IV (by rw [HZ.out]; simp) HA.out (fun h => h)), HZ.out] at e
      rw [e, ← hn1]
      exact rfl
     have hn2 : ¬ (1 : Int) < (k : Int) := by omega
     clear hn1
     go_wp2
     go_ret2
     rw [HE.out]
     exact ⟨nR rfl (fF (by rw [Bool.eq_iff_iff]; simp)), rfl⟩
    | cons y t' =>
     have hc1 : w.cell? ⟨b, off + 1, none⟩ = some (.int .u8 (y.toNat : Int)) := HL.out 1 (by simp)
     have hn1 := HN.out
     simp only [List.length_cons] at hn1
     have hn2 : (1 : Int) < (k : Int) := by omega
     have hy0 : 0 ≤ (y.toNat : Int) ∧ (y.toNat : Int) < 256 := by have := y.toNat_lt; omega
     have HK : Hid ((((y :: t').length : Nat) : Int) + 1 = k) := by show _ = _; simp only [List.length_cons]; omega
     clear hn1
     by_cases hbd : zQ x.toNat y.toNat
     ·have HE : Hid (R = (false, false)) := by
       have e := HR.out
       rw [sS x (y :: t') (.inr (.inr hbd))] at e
       exact e
      unfold zQ at hbd
      exact absurd hbd (by omega)
     ·have HE : Hid (R = (true, decide ((k : Int) = 2))) := by
       have e := HR.out
       rw [qX x (y :: t') (IV (by rw [HZ.out]; have := HK.out; omega) HA.out hbd), HZ.out, HK.out] at e
       exact e
      unfold zQ at hbd
      clear hbd
      go_wp2
      all_goals
       go_ret2
       rw [HE.out]
       exact ⟨nR rfl (fF (by rw [Bool.eq_iff_iff]; simp)), rfl⟩
theorem adQ (b off cap : Nat) (x : UInt8) (t : List UInt8) (n : Nat) (w : World) (hn : t.length + 1 = n) (hm : n ≤ 16) (hz : size x.toNat = 3)
  (hL : ∀ j (h : j < (x :: t).length), w.cell? ⟨b, off + j, none⟩ = some (.int .u8 ((x :: t)[j].toNat : Int)))
  (k1 : 224 ≤ (x.toNat : Int)) (k2 : (x.toNat : Int) ≤ 239)
  (R : Bool × Bool) (hR : R = st (x :: t)) :
  Calls Tryz.prog 176 #[.slice (some ⟨b, off, none⟩) n cap] w fun e w' => e = .returned (.tuple #[.bool R.1, .bool R.2]) ∧ w = w' := by
 have hc0 : w.cell? ⟨b, off, none⟩ = some (.int .u8 (x.toNat : Int)) := by
  have := hL 0 (by simp)
  rw [Nat.add_zero] at this
  exact this
 have HL := hid hL
 have HN := hid hn
 have HZ := hid hz
 have HR := hid hR
 have hp : (0 : Int) < (n : Int) := by omega
 clear hL hn hz hR
 by_cases acz : (3 : Int) < (n : Int)
 ·have HE : Hid (R = (false, false)) := by
   have e := HR.out
   rw [sS x t (.inl (by rw [HZ.out]; have := HN.out; omega))] at e
   exact e
  go_enter Tryz.func176, Tryz.ntmps176
  go_wp2
  go_ret2
  rw [HE.out]
  exact ⟨rfl, rfl⟩
 ·go_enter Tryz.func176, Tryz.ntmps176
  go_wp2
  go_loop [5] (fun vk => ∃ k : Nat, 1 ≤ k ∧ k ≤ n ∧ vk = .int .i64 k ∧ Hid (Ns (x :: t) k)) (fun vk => n - (intOf vk).toNat)
  case atStart => exact ⟨1, by omega, by omega, rfl, fun j _ h1 h2 => absurd h2 (by omega)⟩
  case round =>
   obtain ⟨k, hk1, hk2, rfl, HO⟩ := hrel
   by_cases hlt : k < n
   ·have hlx : k < (x :: t).length := by have := HN.out; simp; omega
    obtain ⟨c, hc⟩ : ∃ c, c = (x :: t)[k] := ⟨_, rfl⟩
    have hcell : w.cell? ⟨b, off + k, none⟩ = some (.int .u8 (c.toNat : Int)) := by rw [hc]; exact HL.out k hlx
    have HC := hid hc
    clear hc
    by_cases hb : (c.toNat : Int) < 128 ∨ 191 < (c.toNat : Int)
    ·have HE : Hid (R = (false, false)) := by
      have e := HR.out
      rw [sS x t (.inr (.inl (DN x t k (by have := HN.out; omega) hk1 (by rw [← HC.out]; exact hb))))] at e
      exact e
     rcases hb with hb | hb
     ·go_wp2
      go_ret2
      rw [HE.out]
      exact ⟨rfl, rfl⟩
     ·have hb' : ¬ (c.toNat : Int) < 128 := by omega
      go_wp2
      go_ret2
      rw [HE.out]
      exact ⟨rfl, rfl⟩
    ·have hb1 : ¬ (c.toNat : Int) < 128 := by omega
     have hb2 : ¬ 191 < (c.toNat : Int) := by omega
     have jI : Hid (Ns (x :: t) (k + 1)) := fun j hj h1 h2 => by
      by_cases e : j = k
      ·subst e
       rw [← HC.out]
       omega
      ·exact HO.out j hj h1 (by omega)
     clear hb HO
     go_wp2
     go_round
     case rel => exact ⟨k + 1, by omega, by omega, by go_num, jI⟩
     case measure => simp [intOf]; omega
   ·skip
    obtain rfl : k = n := by omega
    have HA : Hid (Ef t) := DK x t (by have e := HN.out; rw [e]; exact HO.out)
    clear HO hlt
    cases t with
    | nil =>
     have hn1 := HN.out
     simp at hn1
     have HE : Hid (R = (true, decide ((k : Int) = 3))) := by
      have e := HR.out
      rw [qX x [] (IV (by rw [HZ.out]; simp) HA.out (fun h => h)), HZ.out] at e
      rw [e, ← hn1]
      exact rfl
     have hn2 : ¬ (1 : Int) < (k : Int) := by omega
     clear hn1
     go_wp2
     go_ret2
     rw [HE.out]
     exact ⟨nR rfl (fF (by rw [Bool.eq_iff_iff]; simp)), rfl⟩
    | cons y t' =>
     have hc1 : w.cell? ⟨b, off + 1, none⟩ = some (.int .u8 (y.toNat : Int)) := HL.out 1 (by simp)
     have hn1 := HN.out
     simp only [List.length_cons] at hn1
     have hn2 : (1 : Int) < (k : Int) := by omega
     have hy0 : 0 ≤ (y.toNat : Int) ∧ (y.toNat : Int) < 256 := by have := y.toNat_lt; omega
     have HK : Hid ((((y :: t').length : Nat) : Int) + 1 = k) := by show _ = _; simp only [List.length_cons]; omega
     clear hn1
     by_cases hbd : zQ x.toNat y.toNat
     ·have HE : Hid (R = (false, false)) := by
       have e := HR.out
       rw [sS x (y :: t') (.inr (.inr hbd))] at e
       exact e
      unfold zQ at hbd
      rcases hbd with hbd | hbd | hbd | hbd
      ·obtain ⟨q1, q2⟩ := hbd
       have q3 : ((x.toNat : Int) == 224) = true := by rw [beq_iff_eq]; exact q1
       have VF : ((x.toNat : Int) == 237) = false := by rw [beq_eq_false_iff_ne]; omega
       have VG : ((x.toNat : Int) == 240) = false := by rw [beq_eq_false_iff_ne]; omega
       have VH : ((x.toNat : Int) == 244) = false := by rw [beq_eq_false_iff_ne]; omega
       clear q1
       go_wp2
       go_ret2
       rw [HE.out]
       exact ⟨rfl, rfl⟩
      ·obtain ⟨q1, q2⟩ := hbd
       have q3 : ((x.toNat : Int) == 237) = true := by rw [beq_iff_eq]; exact q1
       have VE : ((x.toNat : Int) == 224) = false := by rw [beq_eq_false_iff_ne]; omega
       have VG : ((x.toNat : Int) == 240) = false := by rw [beq_eq_false_iff_ne]; omega
       have VH : ((x.toNat : Int) == 244) = false := by rw [beq_eq_false_iff_ne]; omega
       clear q1
       go_wp2
       go_ret2
       rw [HE.out]
       exact ⟨rfl, rfl⟩
      ·exact absurd hbd.1 (by omega)
      ·exact absurd hbd.1 (by omega)
     ·have HE : Hid (R = (true, decide ((k : Int) = 3))) := by
       have e := HR.out
       rw [qX x (y :: t') (IV (by rw [HZ.out]; have := HK.out; omega) HA.out hbd), HZ.out, HK.out] at e
       exact e
      unfold zQ at hbd
      by_cases e1 : (x.toNat : Int) = 224
      ·have q1 : ((x.toNat : Int) == 224) = true := by rw [beq_iff_eq]; exact e1
       have q2 : ¬ (y.toNat : Int) < 160 := by omega
       have VF : ((x.toNat : Int) == 237) = false := by rw [beq_eq_false_iff_ne]; omega
       have VG : ((x.toNat : Int) == 240) = false := by rw [beq_eq_false_iff_ne]; omega
       have VH : ((x.toNat : Int) == 244) = false := by rw [beq_eq_false_iff_ne]; omega
       clear e1 hbd
       go_wp2
       all_goals
        go_ret2
        rw [HE.out]
        exact ⟨nR rfl (fF (by rw [Bool.eq_iff_iff]; simp)), rfl⟩
      ·by_cases e2 : (x.toNat : Int) = 237
       ·have q1 : ((x.toNat : Int) == 237) = true := by rw [beq_iff_eq]; exact e2
        have q2 : ¬ 159 < (y.toNat : Int) := by omega
        have VE : ((x.toNat : Int) == 224) = false := by rw [beq_eq_false_iff_ne]; omega
        have VG : ((x.toNat : Int) == 240) = false := by rw [beq_eq_false_iff_ne]; omega
        have VH : ((x.toNat : Int) == 244) = false := by rw [beq_eq_false_iff_ne]; omega
        clear e1 e2 hbd
        go_wp2
        all_goals
         go_ret2
         rw [HE.out]
         exact ⟨nR rfl (fF (by rw [Bool.eq_iff_iff]; simp)), rfl⟩
       ·skip
        have VE : ((x.toNat : Int) == 224) = false := by rw [beq_eq_false_iff_ne]; omega
        have VF : ((x.toNat : Int) == 237) = false := by rw [beq_eq_false_iff_ne]; omega
        have VG : ((x.toNat : Int) == 240) = false := by rw [beq_eq_false_iff_ne]; omega
        have VH : ((x.toNat : Int) == 244) = false := by rw [beq_eq_false_iff_ne]; omega
        clear e1 e2 hbd
        go_wp2
        all_goals
         go_ret2
         rw [HE.out]
         exact ⟨nR rfl (fF (by rw [Bool.eq_iff_iff]; simp)), rfl⟩
theorem adR (b off cap : Nat) (x : UInt8) (t : List UInt8) (n : Nat) (w : World) (hn : t.length + 1 = n) (hm : n ≤ 16) (hz : size x.toNat = 4)
  (hL : ∀ j (h : j < (x :: t).length), w.cell? ⟨b, off + j, none⟩ = some (.int .u8 ((x :: t)[j].toNat : Int)))
  (k1 : 240 ≤ (x.toNat : Int)) (k2 : (x.toNat : Int) ≤ 244)
  (R : Bool × Bool) (hR : R = st (x :: t)) :
  Calls Tryz.prog 176 #[.slice (some ⟨b, off, none⟩) n cap] w fun e w' => e = .returned (.tuple #[.bool R.1, .bool R.2]) ∧ w = w' := by
 have hc0 : w.cell? ⟨b, off, none⟩ = some (.int .u8 (x.toNat : Int)) := by
  have := hL 0 (by simp)
  rw [Nat.add_zero] at this
  exact this
 have HL := hid hL
 have HN := hid hn
 have HZ := hid hz
 have HR := hid hR
 have hp : (0 : Int) < (n : Int) := by omega
 clear hL hn hz hR
 by_cases acz : (4 : Int) < (n : Int)
 ·have HE : Hid (R = (false, false)) := by
   have e := HR.out
   rw [sS x t (.inl (by rw [HZ.out]; have := HN.out; omega))] at e
   exact e
  go_enter Tryz.func176, Tryz.ntmps176
  go_wp2
  go_ret2
  rw [HE.out]
  exact ⟨rfl, rfl⟩
 ·go_enter Tryz.func176, Tryz.ntmps176
  go_wp2
  go_loop [5] (fun vk => ∃ k : Nat, 1 ≤ k ∧ k ≤ n ∧ vk = .int .i64 k ∧ Hid (Ns (x :: t) k)) (fun vk => n - (intOf vk).toNat)
  case atStart => exact ⟨1, by omega, by omega, rfl, fun j _ h1 h2 => absurd h2 (by omega)⟩
  case round =>
   obtain ⟨k, hk1, hk2, rfl, HO⟩ := hrel
   by_cases hlt : k < n
   ·have hlx : k < (x :: t).length := by have := HN.out; simp; omega
    obtain ⟨c, hc⟩ : ∃ c, c = (x :: t)[k] := ⟨_, rfl⟩
    have hcell : w.cell? ⟨b, off + k, none⟩ = some (.int .u8 (c.toNat : Int)) := by rw [hc]; exact HL.out k hlx
    have HC := hid hc
    clear hc
    by_cases hb : (c.toNat : Int) < 128 ∨ 191 < (c.toNat : Int)
    ·have HE : Hid (R = (false, false)) := by
      have e := HR.out
      rw [sS x t (.inr (.inl (DN x t k (by have := HN.out; omega) hk1 (by rw [← HC.out]; exact hb))))] at e
      exact e
     rcases hb with hb | hb
     ·go_wp2
      go_ret2
      rw [HE.out]
      exact ⟨rfl, rfl⟩
     ·have hb' : ¬ (c.toNat : Int) < 128 := by omega
      go_wp2
      go_ret2
      rw [HE.out]
      exact ⟨rfl, rfl⟩
    ·have hb1 : ¬ (c.toNat : Int) < 128 := by omega
     have hb2 : ¬ 191 < (c.toNat : Int) := by omega
     have jI : Hid (Ns (x :: t) (k + 1)) := fun j hj h1 h2 => by
      by_cases e : j = k
      ·subst e
       rw [← HC.out]
       omega
      ·exact HO.out j hj h1 (by omega)
     clear hb HO
     go_wp2
     go_round
     case rel => exact ⟨k + 1, by omega, by omega, by go_num, jI⟩
     case measure => simp [intOf]; omega
   ·skip
    obtain rfl : k = n := by omega
    have HA : Hid (Ef t) := DK x t (by have e := HN.out; rw [e]; exact HO.out)
    clear HO hlt
    cases t with
    | nil =>
     have hn1 := HN.out
     simp at hn1
     have HE : Hid (R = (true, decide ((k : Int) = 4))) := by
      have e := HR.out
      rw [qX x [] (IV (by rw [HZ.out]; simp) HA.out (fun h => h)), HZ.out] at e
      rw [e, ← hn1]
      exact rfl
     have hn2 : ¬ (1 : Int) < (k : Int) := by omega
     clear hn1
     go_wp2
     go_ret2
     rw [HE.out]
     exact ⟨nR rfl (fF (by rw [Bool.eq_iff_iff]; simp)), rfl⟩
    | cons y t' =>
     have hc1 : w.cell? ⟨b, off + 1, none⟩ = some (.int .u8 (y.toNat : Int)) := HL.out 1 (by simp)
     have hn1 := HN.out
     simp only [List.length_cons] at hn1
     have hn2 : (1 : Int) < (k : Int) := by omega
     have hy0 : 0 ≤ (y.toNat : Int) ∧ (y.toNat : Int) < 256 := by have := y.toNat_lt; omega
     have HK : Hid ((((y :: t').length : Nat) : Int) + 1 = k) := by show _ = _; simp only [List.length_cons]; omega
     clear hn1
     by_cases hbd : zQ x.toNat y.toNat
     ·have HE : Hid (R = (false, false)) := by
       have e := HR.out
       rw [sS x (y :: t') (.inr (.inr hbd))] at e
       exact e
      unfold zQ at hbd
      rcases hbd with hbd | hbd | hbd | hbd
      ·exact absurd hbd.1 (by omega)
      ·exact absurd hbd.1 (by omega)
      ·obtain ⟨q1, q2⟩ := hbd
       have q3 : ((x.toNat : Int) == 240) = true := by rw [beq_iff_eq]; exact q1
       have VE : ((x.toNat : Int) == 224) = false := by rw [beq_eq_false_iff_ne]; omega
       have VF : ((x.toNat : Int) == 237) = false := by rw [beq_eq_false_iff_ne]; omega
       have VH : ((x.toNat : Int) == 244) = false := by rw [beq_eq_false_iff_ne]; omega
       clear q1
       go_wp2
       go_ret2
       rw [HE.out]
       exact ⟨rfl, rfl⟩
      ·obtain ⟨q1, q2⟩ := hbd
       have q3 : ((x.toNat : Int) == 244) = true := by rw [beq_iff_eq]; exact q1
       have VE : ((x.toNat : Int) == 224) = false := by rw [beq_eq_false_iff_ne]; omega
       have VF : ((x.toNat : Int) == 237) = false := by rw [beq_eq_false_iff_ne]; omega
       have VG : ((x.toNat : Int) == 240) = false := by rw [beq_eq_false_iff_ne]; omega
       clear q1
       go_wp2
       go_ret2
       rw [HE.out]
       exact ⟨rfl, rfl⟩
     ·have HE : Hid (R = (true, decide ((k : Int) = 4))) := by
       have e := HR.out
       rw [qX x (y :: t') (IV (by rw [HZ.out]; have := HK.out; omega) HA.out hbd), HZ.out, HK.out] at e
       exact e
      unfold zQ at hbd
      by_cases e1 : (x.toNat : Int) = 240
      ·have q1 : ((x.toNat : Int) == 240) = true := by rw [beq_iff_eq]; exact e1
       have q2 : ¬ (y.toNat : Int) < 144 := by omega
       have VE : ((x.toNat : Int) == 224) = false := by rw [beq_eq_false_iff_ne]; omega
       have VF : ((x.toNat : Int) == 237) = false := by rw [beq_eq_false_iff_ne]; omega
       have VH : ((x.toNat : Int) == 244) = false := by rw [beq_eq_false_iff_ne]; omega
       clear e1 hbd
       go_wp2
       all_goals
        go_ret2
        rw [HE.out]
        exact ⟨nR rfl (fF (by rw [Bool.eq_iff_iff]; simp)), rfl⟩
      ·by_cases e2 : (x.toNat : Int) = 244
       ·have q1 : ((x.toNat : Int) == 244) = true := by rw [beq_iff_eq]; exact e2
        have q2 : ¬ 143 < (y.toNat : Int) := by omega
        have VE : ((x.toNat : Int) == 224) = false := by rw [beq_eq_false_iff_ne]; omega
        have VF : ((x.toNat : Int) == 237) = false := by rw [beq_eq_false_iff_ne]; omega
        have VG : ((x.toNat : Int) == 240) = false := by rw [beq_eq_false_iff_ne]; omega
        clear e1 e2 hbd
        go_wp2
        all_goals
         go_ret2
         rw [HE.out]
         exact ⟨nR rfl (fF (by rw [Bool.eq_iff_iff]; simp)), rfl⟩
       ·skip
        have VE : ((x.toNat : Int) == 224) = false := by rw [beq_eq_false_iff_ne]; omega
        have VF : ((x.toNat : Int) == 237) = false := by rw [beq_eq_false_iff_ne]; omega
        have VG : ((x.toNat : Int) == 240) = false := by rw [beq_eq_false_iff_ne]; omega
        have VH : ((x.toNat : Int) == 244) = false := by rw [beq_eq_false_iff_ne]; omega
        clear e1 e2 hbd
        go_wp2
        all_goals
         go_ret2
         rw [HE.out]
         exact ⟨nR rfl (fF (by rw [Bool.eq_iff_iff]; simp)), rfl⟩
theorem ZQ (b off cap : Nat) (x : UInt8) (t : List UInt8) (n : Nat) (w : World) (hn : t.length + 1 = n) (hm : n ≤ 16) (hz : size x.toNat = 0)
  (hL : ∀ j (h : j < (x :: t).length), w.cell? ⟨b, off + j, none⟩ = some (.int .u8 ((x :: t)[j].toNat : Int)))
  (k1 : 128 ≤ (x.toNat : Int)) (k2 : (x.toNat : Int) ≤ 193)
  (R : Bool × Bool) (hR : R = st (x :: t)) :
  Calls Tryz.prog 176 #[.slice (some ⟨b, off, none⟩) n cap] w fun e w' => e = .returned (.tuple #[.bool R.1, .bool R.2]) ∧ w = w' := by
 have hc0 : w.cell? ⟨b, off, none⟩ = some (.int .u8 (x.toNat : Int)) := by
  have := hL 0 (by simp)
  rw [Nat.add_zero] at this
  exact this
 have HL := hid hL
 have HN := hid hn
 have HZ := hid hz
 have HR := hid hR
 have hp : (0 : Int) < (n : Int) := by omega
 clear hL hn hz hR
 have HE : Hid (R = (false, false)) := by
  have e := HR.out
  rw [sS x t (.inl (by rw [HZ.out]; have := HN.out; omega))] at e
  exact e
 go_enter Tryz.func176, Tryz.ntmps176
 go_wp2
 go_ret2
 rw [HE.out]
 exact ⟨rfl, rfl⟩
theorem ZR (b off cap : Nat) (x : UInt8) (t : List UInt8) (n : Nat) (w : World) (hn : t.length + 1 = n) (hm : n ≤ 16) (hz : size x.toNat = 0)
  (hL : ∀ j (h : j < (x :: t).length), w.cell? ⟨b, off + j, none⟩ = some (.int .u8 ((x :: t)[j].toNat : Int)))
  (k1 : 245 ≤ (x.toNat : Int))
  (R : Bool × Bool) (hR : R = st (x :: t)) :
  Calls Tryz.prog 176 #[.slice (some ⟨b, off, none⟩) n cap] w fun e w' => e = .returned (.tuple #[.bool R.1, .bool R.2]) ∧ w = w' := by
 have hc0 : w.cell? ⟨b, off, none⟩ = some (.int .u8 (x.toNat : Int)) := by
  have := hL 0 (by simp)
  rw [Nat.add_zero] at this
  exact this
 have HL := hid hL
 have HN := hid hn
 have HZ := hid hz
 have HR := hid hR
 have hp : (0 : Int) < (n : Int) := by omega
 clear hL hn hz hR
 have HE : Hid (R = (false, false)) := by
  have e := HR.out
  rw [sS x t (.inl (by rw [HZ.out]; have := HN.out; omega))] at e
  exact e
 go_enter Tryz.func176, Tryz.ntmps176
 go_wp2
 go_ret2
 rw [HE.out]
 exact ⟨rfl, rfl⟩
end Go.Proofs.YtcfgioklgmlclaaGreatDoor.RefS
namespace Go.Proofs.YtcfgioklgmlclaaGreatDoor.RefN
open Go.RowKit Base aP uy RefS
def inR : Int → Int → List UInt8 → Prop
 | _, _, [] => True
 | l, h, c :: t => l ≤ (c.toNat : Int) ∧ (c.toNat : Int) ≤ h ∧ inR 128 191 t
def fo (r : Int) (t : List UInt8) : Int := t.foldl (fun r c => r * 64 + (c.toNat : Int) % 64) r
theorem JE : ∀ (p : List UInt8) (m k : Nat) (l h r : Int) (rest : List UInt8), inR l h p → p.length = m → tail m k l h r (p ++ rest) = (fo r p, ((k + m : Nat) : Int), true)
 | [], m, k, l, h, r, rest, _, hm => by
  simp at hm
  subst hm
  simp [tail, fo]
 | c :: p, 0, k, l, h, r, rest, _, hm => by simp at hm
 | c :: p, m + 1, k, l, h, r, rest, hi, hm => by
  obtain ⟨h1, h2, h3⟩ := hi
  rw [List.cons_append, tail, if_neg (by omega), JE p m (k + 1) 128 191 _ rest h3 (by simpa using hm)]
  refine Prod.ext rfl (Prod.ext ?_ rfl)
  simp only
  omega
theorem MJ : ∀ (p : List UInt8) (m k : Nat) (l h r : Int) (rest : List UInt8), inR l h p → p.length < m → (rest = [] ∨ ∃ c t, rest = c :: t ∧ (p = [] → ((c.toNat : Int) < l ∨ h < (c.toNat : Int))) ∧ (p ≠ [] → ((c.toNat : Int) < 128 ∨ 191 < (c.toNat : Int)))) →
  tail m k l h r (p ++ rest) = (65533, ((k + p.length : Nat) : Int), false)
 | _, 0, _, _, _, _, _, _, hm, _ => by simp at hm
 | [], m + 1, k, l, h, r, rest, _, hm, hr => by
  rcases hr with rfl | ⟨c, t, rfl, hc, _⟩
  ·simp [tail]
  ·rw [List.nil_append, tail, if_pos (hc rfl)]
   simp
 | c :: p, m + 1, k, l, h, r, rest, hi, hm, hr => by
  obtain ⟨h1, h2, h3⟩ := hi
  rw [List.cons_append, tail, if_neg (by omega), MJ p m (k + 1) 128 191 _ rest h3 (by simpa using hm) (by
   rcases hr with hr | ⟨c', t', e, _, h5⟩
   ·exact .inl hr
   ·exact .inr ⟨c', t', e, fun _ => h5 (by simp), fun _ => h5 (by simp)⟩)]
  refine Prod.ext rfl (Prod.ext ?_ rfl)
  simp only [List.length_cons]
  omega
theorem acL : ∀ t : List UInt8, inR 128 191 t ↔ Ef t
 | [] => by simp [inR, Ef]
 | c :: t => by
  have := acL t
  unfold Ef at this ⊢
  simp only [inR, List.forall_mem_cons, this, and_assoc]
theorem RI (c : UInt8) (t : List UInt8) : Ef (c :: t) ↔ (128 ≤ (c.toNat : Int) ∧ (c.toNat : Int) ≤ 191) ∧ Ef t := by
 unfold Ef
 simp only [List.forall_mem_cons]
theorem Ls (x : Int) (hs : 2 ≤ size x) (p : List UInt8) : inR (lo x) (hi x) p ↔ Ef p ∧ ¬ bad x p := by
 have hx : 194 ≤ x ∧ x ≤ 244 := by
  unfold size at hs
  (repeat' split at hs) <;> omega
 cases p with
 | nil => simp [inR, Ef, bad]
 | cons c t =>
  rw [RI, inR, acL]
  unfold bad zQ lo hi
  constructor
  ·rintro ⟨h1, h2, h3⟩
   refine ⟨⟨?_, h3⟩, ?_⟩
   ·(repeat' split at h1) <;> (repeat' split at h2) <;> omega
   ·(repeat' split at h1) <;> (repeat' split at h2) <;> omega
  ·rintro ⟨⟨h1, h3⟩, h2⟩
   refine ⟨?_, ?_, h3⟩
   ·(repeat' split) <;> omega
   ·(repeat' split) <;> omega
def first (x : Int) : Int := if x ≤ 127 then x else if x ≤ 223 then x % 32 else if x ≤ 239 then x % 16 else x % 8
theorem size_le (x : Int) : 0 ≤ size x ∧ size x ≤ 4 := by unfold size; (repeat' split) <;> omega
theorem XI (x : UInt8) (T : List UInt8) (hs : 1 ≤ size x.toNat) : rd (x :: T) = tail (size x.toNat - 1).toNat 1 (lo x.toNat) (hi x.toNat) (first x.toNat) T := by
 have hx0 : 0 ≤ (x.toNat : Int) := by omega
 by_cases a : (x.toNat : Int) ≤ 127
 ·have e : size x.toNat = 1 := by unfold size; rw [if_pos a]
  rw [rd, if_pos a, e]
  simp [tail, first, a]
 ·by_cases b : (x.toNat : Int) ≤ 193 ∨ 245 ≤ (x.toNat : Int)
  ·exfalso
   unfold size at hs
   (repeat' split at hs) <;> omega
  ·rw [rd, if_neg a, if_neg b]
   unfold first
   rw [if_neg a]
   by_cases c : (x.toNat : Int) ≤ 223
   ·have e : size x.toNat = 2 := by unfold size; rw [if_neg a, if_pos (by omega)]
    rw [if_pos c, if_pos c, e]
    rfl
   ·rw [if_neg c, if_neg c]
    by_cases d : (x.toNat : Int) ≤ 239
    ·have e : size x.toNat = 3 := by unfold size; rw [if_neg a, if_neg (by omega), if_pos (by omega)]
     rw [if_pos d, if_pos d, e]
     rfl
    ·have e : size x.toNat = 4 := by unfold size; rw [if_neg a, if_neg (by omega), if_neg (by omega), if_pos (by omega)]
     rw [if_neg d, if_neg d, e]
     rfl
theorem rd_zero (x : UInt8) (T : List UInt8) (hs : size x.toNat < 1) : rd (x :: T) = (65533, 1, false) := by
 have b : ((x.toNat : Int) ≤ 193 ∨ 245 ≤ (x.toNat : Int)) ∧ ¬ (x.toNat : Int) ≤ 127 := by
  unfold size at hs
  (repeat' split at hs) <;> omega
 rw [rd, if_neg b.2, if_pos b.1]
theorem D6 (x : UInt8) (p : List UInt8) (W : Bool) (h : st (x :: p) = (true, W)) : ¬ size x.toNat < (p.length : Int) + 1 ∧ Ef p ∧ ¬ bad x.toNat p ∧ W = decide ((p.length : Int) + 1 = size x.toNat) := by
 rw [st] at h
 split at h
 ·cases h
 ·rename_i hn
  injection h with h1 h2
  refine ⟨fun a => hn (.inl a), ?_, fun a => hn (.inr (.inr a)), h2.symm⟩
  exact Decidable.byContradiction fun a => hn (.inr (.inl a))
theorem Xm (x : Int) (p : List UInt8) (hs : 1 ≤ size x) (hp : (p.length : Int) + 1 ≤ size x) (h1 : Ef p) (h2 : ¬ bad x p) : inR (lo x) (hi x) p := by
 by_cases a : 2 ≤ size x
 ·exact (Ls x a p).2 ⟨h1, h2⟩
 ·cases p with
  | nil => trivial
  | cons c t => simp at hp; omega
theorem aef (x : UInt8) (p rest : List UInt8) (h : st (x :: p) = (true, true)) : rd (x :: (p ++ rest)) = (fo (first x.toNat) p, (p.length : Int) + 1, true) := by
 obtain ⟨h1, h2, h3, h4⟩ := D6 x p true h
 have h5 : (p.length : Int) + 1 = size x.toNat := by simpa using h4.symm
 rw [XI x _ (by omega), JE p _ 1 _ _ _ rest (Xm _ p (by omega) (by omega) h2 h3) (by omega)]
 refine Prod.ext rfl (Prod.ext ?_ rfl)
 simp only
 omega
theorem part_rd (x : UInt8) (p rest : List UInt8) (h : st (x :: p) = (true, false)) (hr : rest = [] ∨ ∃ c t, rest = c :: t ∧ (st (x :: (p ++ [c]))).1 = false) : rd (x :: (p ++ rest)) = (65533, (p.length : Int) + 1, false) := by
 obtain ⟨h1, h2, h3, h4⟩ := D6 x p false h
 have h5 : ¬ (p.length : Int) + 1 = size x.toNat := by simpa using h4.symm
 have h6 : 2 ≤ size x.toNat := by omega
 rw [XI x _ (by omega), MJ p _ 1 _ _ _ rest (Xm _ p (by omega) (by omega) h2 h3) (by omega) (by
  rcases hr with hr | ⟨c, t, rfl, hc⟩
  ·exact .inl hr
  ·refine .inr ⟨c, t, rfl, ?_, ?_⟩
   ·rintro rfl
    have hn : ¬ inR (lo x.toNat) (hi x.toNat) [c] := by
     intro hi
     obtain ⟨a1, a2⟩ := (Ls _ h6 [c]).1 hi
     have : st (x :: ([] ++ [c])) = (true, decide ((([c] : List UInt8).length : Int) + 1 = size x.toNat)) := qX x [c] (IV (by simp; omega) a1 a2)
     rw [this] at hc
     cases hc
    simp only [inR, and_true] at hn
    omega
   ·intro hp
    have hn : ¬ Ef [c] := by
     intro hok
     have a1 : Ef (p ++ [c]) := by
      intro d hd
      rcases List.mem_append.1 hd with hd | hd
      ·exact h2 d hd
      ·exact hok d hd
     have a2 : ¬ bad x.toNat (p ++ [c]) := by
      cases p with
      | nil => exact absurd rfl hp
      | cons d p => exact h3
     have : st (x :: (p ++ [c])) = (true, decide (((p ++ [c]).length : Int) + 1 = size x.toNat)) := qX x _ (IV (by simp; omega) a1 a2)
     rw [this] at hc
     cases hc
    rw [RI] at hn
    have : Ef [] := by intro d hd; cases hd
    simp only [this, and_true] at hn
    omega)]
 refine Prod.ext rfl (Prod.ext ?_ rfl)
 simp only
 omega
theorem none_rd (x : UInt8) (T : List UInt8) (h : (st [x]).1 = false) : rd (x :: T) = (65533, 1, false) := by
 refine rd_zero x T ?_
 rcases Int.lt_or_le (size x.toNat) 1 with h1 | h1
 ·exact h1
 ·have : st [x] = (true, decide ((([] : List UInt8).length : Int) + 1 = size x.toNat)) := qX x [] (IV (by simp; omega) (by intro d hd; cases hd) (fun h => h))
  rw [this] at h
  cases h
end Go.Proofs.YtcfgioklgmlclaaGreatDoor.RefN
namespace Go.Proofs.YtcfgioklgmlclaaGreatDoor.RefM
open Go.RowKit Base aP uy RefS RefN
theorem ac3 (b off cap : Nat) (x : UInt8) (t : List UInt8) (w : World) (hn : t.length = 0) (k2 : (x.toNat : Int) ≤ 127)
  (hL : ∀ j (h : j < (x :: t).length), w.cell? ⟨b, off + j, none⟩ = some (.int .u8 ((x :: t)[j].toNat : Int))) (hok : Ef t) :
  Calls Tryz.prog 177 #[.slice (some ⟨b, off, none⟩) 1 cap] w fun e w' => e = .returned (.int .i32 (fo (first x.toNat) t)) ∧ w = w' := by
 have hc0 : w.cell? ⟨b, off, none⟩ = some (.int .u8 (x.toNat : Int)) := by
  have := hL 0 (by simp)
  rw [Nat.add_zero] at this
  exact this
 have hx0 : 0 ≤ (x.toNat : Int) := by omega
 have hf : first x.toNat = (x.toNat : Int) := by unfold first; (repeat' split) <;> omega
 obtain ⟨f, hf2⟩ : ∃ f, f = first x.toNat := ⟨_, rfl⟩
 rw [← hf2] at hf ⊢
 have hb0 : 0 ≤ (x.toNat : Int) ∧ (x.toNat : Int) < 128 := by omega
 have HL := hid hL
 have HN := hid hn
 have HO := hid hok
 have HF := hid hf
 clear hL hn hok hf hf2
 go_enter Tryz.func177, Tryz.ntmps177
 go_wp2
 go_loop [3, 4] (fun vr vk => ∃ (k : Nat) (r : Int), 1 ≤ k ∧ k ≤ 1 ∧ vk = .int .i64 k ∧ vr = .int .i32 r ∧ 0 ≤ r ∧ r < 4 * room k ∧ Hid (fo r (t.drop (k - 1)) = fo f t)) (fun _ vk => 1 - (intOf vk).toNat)
 case atStart => exact ⟨1, (x.toNat : Int), by omega, by omega, rfl, rfl, by omega, by have : room 1 = 32 := rfl; omega, by rw [HF.out]; exact rfl⟩
 case round =>
  obtain ⟨k, r, hk1, hk2, rfl, rfl, hr1, hr2, HT⟩ := hrel
  by_cases hlt : k < 1
  ·exact absurd hlt (by omega)
  ·obtain rfl : k = 1 := by omega
   have HE : Hid (fo f t = r) := by
    have e := HT.out
    rw [List.drop_of_length_le (by have := HN.out; omega)] at e
    exact e.symm
   go_wp2
   go_ret
   rw [HE.out]
   exact ⟨rfl, rfl⟩
theorem ac4 (b off cap : Nat) (x : UInt8) (t : List UInt8) (w : World) (hn : t.length = 1) (k1 : 194 ≤ (x.toNat : Int)) (k2 : (x.toNat : Int) ≤ 223)
  (hL : ∀ j (h : j < (x :: t).length), w.cell? ⟨b, off + j, none⟩ = some (.int .u8 ((x :: t)[j].toNat : Int))) (hok : Ef t) :
  Calls Tryz.prog 177 #[.slice (some ⟨b, off, none⟩) 2 cap] w fun e w' => e = .returned (.int .i32 (fo (first x.toNat) t)) ∧ w = w' := by
 have hc0 : w.cell? ⟨b, off, none⟩ = some (.int .u8 (x.toNat : Int)) := by
  have := hL 0 (by simp)
  rw [Nat.add_zero] at this
  exact this
 have hx0 : 0 ≤ (x.toNat : Int) := by omega
 have hf : first x.toNat = (x.toNat : Int) - 192 := by unfold first; (repeat' split) <;> omega
 obtain ⟨f, hf2⟩ : ∃ f, f = first x.toNat := ⟨_, rfl⟩
 rw [← hf2] at hf ⊢
 have hb0 : 0 ≤ (x.toNat : Int) - 192 ∧ (x.toNat : Int) - 192 < 128 := by omega
 have HL := hid hL
 have HN := hid hn
 have HO := hid hok
 have HF := hid hf
 clear hL hn hok hf hf2
 go_enter Tryz.func177, Tryz.ntmps177
 go_wp2
 go_loop [3, 4] (fun vr vk => ∃ (k : Nat) (r : Int), 1 ≤ k ∧ k ≤ 2 ∧ vk = .int .i64 k ∧ vr = .int .i32 r ∧ 0 ≤ r ∧ r < 4 * room k ∧ Hid (fo r (t.drop (k - 1)) = fo f t)) (fun _ vk => 2 - (intOf vk).toNat)
 case atStart => exact ⟨1, (x.toNat : Int) - 192, by omega, by omega, rfl, rfl, by omega, by have : room 1 = 32 := rfl; omega, by rw [HF.out]; exact rfl⟩
 case round =>
  obtain ⟨k, r, hk1, hk2, rfl, rfl, hr1, hr2, HT⟩ := hrel
  by_cases hlt : k < 2
  ·obtain ⟨hb1, hb2⟩ := qB k hk1 (by omega)
   have HB := hid hb1
   clear hb1
   have hr3 : r < 524288 := by omega
   have hlx : k - 1 < t.length := by have := HN.out; omega
   obtain ⟨c, hc⟩ : ∃ c, c = t[k - 1] := ⟨_, rfl⟩
   have hcell : w.cell? ⟨b, off + k, none⟩ = some (.int .u8 (c.toNat : Int)) := by
    rw [HL.out k (by simp; omega), hc]
    obtain ⟨i, rfl⟩ : ∃ i, k = i + 1 := ⟨k - 1, by omega⟩
    simp
   obtain ⟨hc1, hc2⟩ := HO.out c (by rw [hc]; exact List.getElem_mem _)
   have HD : Hid (fo (r * 64 + ((c.toNat : Int) - 128)) (t.drop k) = fo f t) := by
    have e := HT.out
    rw [List.drop_eq_getElem_cons hlx, ← hc, show k - 1 + 1 = k by omega] at e
    rw [show (c.toNat : Int) - 128 = (c.toNat : Int) % 64 by omega]
    exact e
   clear hc HT
   go_wp2
   go_round
   case rel => exact ⟨k + 1, r * 64 + ((c.toNat : Int) - 128), by omega, by omega, by go_num, int_eq (by omega), by omega, by rw [HB.out]; omega, HD⟩
   case measure => simp [intOf]; omega
  ·obtain rfl : k = 2 := by omega
   have HE : Hid (fo f t = r) := by
    have e := HT.out
    rw [List.drop_of_length_le (by have := HN.out; omega)] at e
    exact e.symm
   go_wp2
   go_ret
   rw [HE.out]
   exact ⟨rfl, rfl⟩
theorem ac5 (b off cap : Nat) (x : UInt8) (t : List UInt8) (w : World) (hn : t.length = 2) (k1 : 224 ≤ (x.toNat : Int)) (k2 : (x.toNat : Int) ≤ 239)
  (hL : ∀ j (h : j < (x :: t).length), w.cell? ⟨b, off + j, none⟩ = some (.int .u8 ((x :: t)[j].toNat : Int))) (hok : Ef t) :
  Calls Tryz.prog 177 #[.slice (some ⟨b, off, none⟩) 3 cap] w fun e w' => e = .returned (.int .i32 (fo (first x.toNat) t)) ∧ w = w' := by
 have hc0 : w.cell? ⟨b, off, none⟩ = some (.int .u8 (x.toNat : Int)) := by
  have := hL 0 (by simp)
  rw [Nat.add_zero] at this
  exact this
 have hx0 : 0 ≤ (x.toNat : Int) := by omega
 have hf : first x.toNat = (x.toNat : Int) - 224 := by unfold first; (repeat' split) <;> omega
 obtain ⟨f, hf2⟩ : ∃ f, f = first x.toNat := ⟨_, rfl⟩
 rw [← hf2] at hf ⊢
 have hb0 : 0 ≤ (x.toNat : Int) - 224 ∧ (x.toNat : Int) - 224 < 128 := by omega
 have HL := hid hL
 have HN := hid hn
 have HO := hid hok
 have HF := hid hf
 clear hL hn hok hf hf2
 go_enter Tryz.func177, Tryz.ntmps177
 go_wp2
 go_loop [3, 4] (fun vr vk => ∃ (k : Nat) (r : Int), 1 ≤ k ∧ k ≤ 3 ∧ vk = .int .i64 k ∧ vr = .int .i32 r ∧ 0 ≤ r ∧ r < 4 * room k ∧ Hid (fo r (t.drop (k - 1)) = fo f t)) (fun _ vk => 3 - (intOf vk).toNat)
 case atStart => exact ⟨1, (x.toNat : Int) - 224, by omega, by omega, rfl, rfl, by omega, by have : room 1 = 32 := rfl; omega, by rw [HF.out]; exact rfl⟩
 case round =>
  obtain ⟨k, r, hk1, hk2, rfl, rfl, hr1, hr2, HT⟩ := hrel
  by_cases hlt : k < 3
  ·obtain ⟨hb1, hb2⟩ := qB k hk1 (by omega)
   have HB := hid hb1
   clear hb1
   have hr3 : r < 524288 := by omega
   have hlx : k - 1 < t.length := by have := HN.out; omega
   obtain ⟨c, hc⟩ : ∃ c, c = t[k - 1] := ⟨_, rfl⟩
   have hcell : w.cell? ⟨b, off + k, none⟩ = some (.int .u8 (c.toNat : Int)) := by
    rw [HL.out k (by simp; omega), hc]
    obtain ⟨i, rfl⟩ : ∃ i, k = i + 1 := ⟨k - 1, by omega⟩
    simp
   obtain ⟨hc1, hc2⟩ := HO.out c (by rw [hc]; exact List.getElem_mem _)
   have HD : Hid (fo (r * 64 + ((c.toNat : Int) - 128)) (t.drop k) = fo f t) := by
    have e := HT.out
    rw [List.drop_eq_getElem_cons hlx, ← hc, show k - 1 + 1 = k by omega] at e
    rw [show (c.toNat : Int) - 128 = (c.toNat : Int) % 64 by omega]
    exact e
   clear hc HT
   go_wp2
   go_round
   case rel => exact ⟨k + 1, r * 64 + ((c.toNat : Int) - 128), by omega, by omega, by go_num, int_eq (by omega), by omega, by rw [HB.out]; omega, HD⟩
   case measure => simp [intOf]; omega
  ·obtain rfl : k = 3 := by omega
   have HE : Hid (fo f t = r) := by
    have e := HT.out
    rw [List.drop_of_length_le (by have := HN.out; omega)] at e
    exact e.symm
   go_wp2
   go_ret
   rw [HE.out]
   exact ⟨rfl, rfl⟩
theorem ac6 (b off cap : Nat) (x : UInt8) (t : List UInt8) (w : World) (hn : t.length = 3) (k1 : 240 ≤ (x.toNat : Int)) (k2 : (x.toNat : Int) ≤ 244)
  (hL : ∀ j (h : j < (x :: t).length), w.cell? ⟨b, off + j, none⟩ = some (.int .u8 ((x :: t)[j].toNat : Int))) (hok : Ef t) :
  Calls Tryz.prog 177 #[.slice (some ⟨b, off, none⟩) 4 cap] w fun e w' => e = .returned (.int .i32 (fo (first x.toNat) t)) ∧ w = w' := by
 have hc0 : w.cell? ⟨b, off, none⟩ = some (.int .u8 (x.toNat : Int)) := by
  have := hL 0 (by simp)
  rw [Nat.add_zero] at this
  exact this
 have hx0 : 0 ≤ (x.toNat : Int) := by omega
 have hf : first x.toNat = (x.toNat : Int) - 240 := by unfold first; (repeat' split) <;> omega
 obtain ⟨f, hf2⟩ : ∃ f, f = first x.toNat := ⟨_, rfl⟩
 rw [← hf2] at hf ⊢
 have hb0 : 0 ≤ (x.toNat : Int) - 240 ∧ (x.toNat : Int) - 240 < 128 := by omega
 have HL := hid hL
 have HN := hid hn
 have HO := hid hok
 have HF := hid hf
 clear hL hn hok hf hf2
 go_enter Tryz.func177, Tryz.ntmps177
 go_wp2
 go_loop [3, 4] (fun vr vk => ∃ (k : Nat) (r : Int), 1 ≤ k ∧ k ≤ 4 ∧ vk = .int .i64 k ∧ vr = .int .i32 r ∧ 0 ≤ r ∧ r < 4 * room k ∧ Hid (fo r (t.drop (k - 1)) = fo f t)) (fun _ vk => 4 - (intOf vk).toNat)
 case atStart => exact ⟨1, (x.toNat : Int) - 240, by omega, by omega, rfl, rfl, by omega, by have : room 1 = 32 := rfl; omega, by rw [HF.out]; exact rfl⟩
 case round =>
  obtain ⟨k, r, hk1, hk2, rfl, rfl, hr1, hr2, HT⟩ := hrel
  by_cases hlt : k < 4
  ·obtain ⟨hb1, hb2⟩ := qB k hk1 (by omega)
   have HB := hid hb1
   clear hb1
   have hr3 : r < 524288 := by omega
   have hlx : k - 1 < t.length := by have := HN.out; omega
   obtain ⟨c, hc⟩ : ∃ c, c = t[k - 1] := ⟨_, rfl⟩
   have hcell : w.cell? ⟨b, off + k, none⟩ = some (.int .u8 (c.toNat : Int)) := by
    rw [HL.out k (by simp; omega), hc]
    obtain ⟨i, rfl⟩ : ∃ i, k = i + 1 := ⟨k - 1, by omega⟩
    simp
   obtain ⟨hc1, hc2⟩ := HO.out c (by rw [hc]; exact List.getElem_mem _)
   have HD : Hid (fo (r * 64 + ((c.toNat : Int) - 128)) (t.drop k) = fo f t) := by
    have e := HT.out
    rw [List.drop_eq_getElem_cons hlx, ← hc, show k - 1 + 1 = k by omega] at e
    rw [show (c.toNat : Int) - 128 = (c.toNat : Int) % 64 by omega]
    exact e
   clear hc HT
   go_wp2
   go_round
   case rel => exact ⟨k + 1, r * 64 + ((c.toNat : Int) - 128), by omega, by omega, by go_num, int_eq (by omega), by omega, by rw [HB.out]; omega, HD⟩
   case measure => simp [intOf]; omega
  ·obtain rfl : k = 4 := by omega
   have HE : Hid (fo f t = r) := by
    have e := HT.out
    rw [List.drop_of_length_le (by have := HN.out; omega)] at e
    exact e.symm
   go_wp2
   go_ret
   rw [HE.out]
   exact ⟨rfl, rfl⟩
theorem VZ (b off n cap : Nat) (x : UInt8) (t : List UInt8) (w : World) (h : dS w (some ⟨b, off, none⟩) n (ak (x :: t))) (hm : n ≤ 16) :
  Calls Tryz.prog 176 #[.slice (some ⟨b, off, none⟩) n cap] w fun e w' => e = .returned (.tuple #[.bool (st (x :: t)).1, .bool (st (x :: t)).2]) ∧ w = w' := by
 have hn : t.length + 1 = n := by have := h.1; rw [bF] at this; exact this
 have hL : ∀ j (hj : j < (x :: t).length), w.cell? ⟨b, off + j, none⟩ = some (.int .u8 ((x :: t)[j].toNat : Int)) := fun j hj => h.byte j hj
 by_cases a : (x.toNat : Int) < 128
 ·exact adO b off cap x t n w hn hm (by unfold size; (repeat' split) <;> omega) hL a _ rfl
 by_cases b0 : (x.toNat : Int) ≤ 193
 ·exact ZQ b off cap x t n w hn hm (by unfold size; (repeat' split) <;> omega) hL (by omega) b0 _ rfl
 by_cases b1 : (x.toNat : Int) ≤ 223
 ·exact adP b off cap x t n w hn hm (by unfold size; (repeat' split) <;> omega) hL (by omega) b1 _ rfl
 by_cases b2 : (x.toNat : Int) ≤ 239
 ·exact adQ b off cap x t n w hn hm (by unfold size; (repeat' split) <;> omega) hL (by omega) b2 _ rfl
 by_cases b3 : (x.toNat : Int) ≤ 244
 ·exact adR b off cap x t n w hn hm (by unfold size; (repeat' split) <;> omega) hL (by omega) b3 _ rfl
 ·exact ZR b off cap x t n w hn hm (by unfold size; (repeat' split) <;> omega) hL (by omega) _ rfl
theorem aZ (b off n cap : Nat) (x : UInt8) (t : List UInt8) (w : World) (h : dS w (some ⟨b, off, none⟩) n (ak (x :: t))) (hs : st (x :: t) = (true, true)) :
  Calls Tryz.prog 177 #[.slice (some ⟨b, off, none⟩) n cap] w fun e w' => e = .returned (.int .i32 (fo (first x.toNat) t)) ∧ w = w' := by
 have hn : t.length + 1 = n := by have := h.1; rw [bF] at this; exact this
 have hL : ∀ j (hj : j < (x :: t).length), w.cell? ⟨b, off + j, none⟩ = some (.int .u8 ((x :: t)[j].toNat : Int)) := fun j hj => h.byte j hj
 obtain ⟨h1, h2, h3, h4⟩ := D6 x t true hs
 have h5 : (t.length : Int) + 1 = size x.toNat := by simpa using h4.symm
 have h6 := size_le x.toNat
 have hx0 : 0 ≤ (x.toNat : Int) := by omega
 have hcase : n = 1 ∨ n = 2 ∨ n = 3 ∨ n = 4 := by omega
 rcases hcase with rfl | rfl | rfl | rfl
 ·exact ac3 b off cap x t w (by omega) (by
    have e : size x.toNat = 1 := by omega
    unfold size at e; (repeat' split at e) <;> omega) hL h2
 ·have e : 194 ≤ (x.toNat : Int) ∧ (x.toNat : Int) ≤ 223 := by
   have e : size x.toNat = 2 := by omega
   unfold size at e
   (repeat' split at e) <;> omega
  exact ac4 b off cap x t w (by omega) e.1 e.2 hL h2
 ·have e : 224 ≤ (x.toNat : Int) ∧ (x.toNat : Int) ≤ 239 := by
   have e : size x.toNat = 3 := by omega
   unfold size at e
   (repeat' split at e) <;> omega
  exact ac5 b off cap x t w (by omega) e.1 e.2 hL h2
 ·have e : 240 ≤ (x.toNat : Int) ∧ (x.toNat : Int) ≤ 244 := by
   have e : size x.toNat = 4 := by omega
   unfold size at e
   (repeat' split at e) <;> omega
  exact ac6 b off cap x t w (by omega) e.1 e.2 hL h2
end Go.Proofs.YtcfgioklgmlclaaGreatDoor.RefM
namespace Go.Proofs.YtcfgioklgmlclaaGreatDoor.RefC
open Go.RowKit Base aP Uw
def YA (r : Int) : Bool := decide (xM r)
theorem yu (r : Int) (w : World) : Calls Tryz.prog 215 #[.int .i32 r] w fun e w' => e = .returned (.bool (YA r)) ∧ w = w' := by
 go_enter Tryz.func215, Tryz.ntmps215
 go_wp2
 all_goals
  go_ret
  exact ⟨aB (by unfold YA xM; rw [Bool.eq_iff_iff]; simp; omega), rfl⟩
theorem made (w : World) (xs : List Value) (n : Nat) (t : TypeId) (hn : xs.length = n) : dS (w.alloc (.cells xs.toArray t)) (some ⟨w.heap.size, 0, none⟩) n xs :=
 dS.oN hn (by simp) (fun j hj => by
  rw [Nat.zero_add, World.cell?_alloc_mark]
  simp)
theorem rds_at {w : World} {g o n : Nat} {xs : List Value} (h : dS w (some ⟨g, o, none⟩) n xs) : ∀ j u, xs[j]? = some u → w.cell? ((⟨g, o, none⟩ : Addr).add j) = some u := by
 intro j u hu
 obtain ⟨hj, e⟩ := List.getElem?_eq_some_iff.1 hu
 obtain ⟨b, off, e1, _, hc⟩ := h.2 j hj
 injection e1 with e1
 injection e1 with e2 e3
 subst e2 e3
 have ha : (⟨g, o, none⟩ : Addr).add j = ⟨g, o + j, none⟩ := by
  unfold Addr.add
  split <;> simp_all
 rw [ha, hc, e]
def Qx (w : World) (r : Int) (e : Ending) (w' : World) : Prop :=
 ∃ A c, e = .returned (.slice A (Lib.encodeRune r).length c) ∧ dS w' A (Lib.encodeRune r).length (ak (Lib.encodeRune r)) ∧ (∃ g o, A = some ⟨g, o, none⟩) ∧ (Lib.encodeRune r).length ≤ c ∧ Below w.heap.size w w'
theorem fin (w : World) (news : List Value) (n : Nat) (r : Int) (h : ak (Lib.encodeRune r) = news) (hn : news.length = n) :
  Qx w r (.returned (.slice (some ⟨w.heap.size, 0, none⟩) n n)) (w.alloc (.cells news.toArray 5)) := by
 have hl : (Lib.encodeRune r).length = n := by rw [← bF, h, hn]
 unfold Qx
 rw [h, hl]
 exact ⟨_, n, rfl, made w news n _ hn, ⟨_, _, rfl⟩, Nat.le_refl _, (Below.refl _ _).alloc (Nat.le_refl _) _⟩
theorem one_chr (r : Int) (hc : xM r) (w : World) : Calls Tryz.prog 201 #[.int .i32 r] w (Qx w r) := by
 have hB : Hid (YA r = true) := by unfold Hid YA; simpa using hc
 obtain ⟨h0, h1, h2⟩ := hc
 by_cases a : r ≤ 127
 ·have a' : r < 128 := by omega
  have e1 := hid (iW r h0 (by omega))
  have HE := hid (enc1 r h0 a)
  clear h2
  go_enter Tryz.func201, Tryz.ntmps201
  go_wp2_with fail
  refine (yu _ _).mono ?_
  rintro e w1 ⟨rfl, rfl⟩
  rw [hB.out]
  go_wp2
  go_ret
  exact fin w [.int .u8 r] 1 r (by
   rw [HE.out]
   simp only [ak, List.map_cons, List.map_nil, e1.out]) rfl
 by_cases b : r ≤ 2047
 ·have a' : ¬ r < 128 := by omega
  have b' : r < 2048 := by omega
  have e1 := hid (iW (192 + r / 64) (by omega) (by omega))
  have e2 := hid (iW (128 + r % 64) (by omega) (by omega))
  have HE := hid (enc2 r (by omega) b)
  clear h2 a b
  go_enter Tryz.func201, Tryz.ntmps201
  go_wp2_with fail
  refine (yu _ _).mono ?_
  rintro e w1 ⟨rfl, rfl⟩
  rw [hB.out]
  go_wp2
  go_ret
  exact fin w [.int .u8 (192 + r / 64), .int .u8 (128 + r % 64)] 2 r (by
   rw [HE.out]
   simp only [ak, List.map_cons, List.map_nil, e1.out, e2.out]) rfl
 by_cases c : r ≤ 65535
 ·have b' : ¬ r < 2048 := by omega
  have c' : r < 65536 := by omega
  have e1 := hid (iW (224 + r / 4096) (by omega) (by omega))
  have e2 := hid (iW (128 + r / 64 % 64) (by omega) (by omega))
  have e3 := hid (iW (128 + r % 64) (by omega) (by omega))
  have HE := hid (enc3 r (by omega))
  clear h2 a b c
  go_enter Tryz.func201, Tryz.ntmps201
  go_wp2_with fail
  refine (yu _ _).mono ?_
  rintro e w1 ⟨rfl, rfl⟩
  rw [hB.out]
  go_wp2
  go_ret
  exact fin w [.int .u8 (224 + r / 4096), .int .u8 (128 + r / 64 % 64), .int .u8 (128 + r % 64)] 3 r (by
   rw [HE.out]
   simp only [ak, List.map_cons, List.map_nil, e1.out, e2.out, e3.out]) rfl
 ·have c' : ¬ r < 65536 := by omega
  have e1 := hid (iW (240 + r / 262144) (by omega) (by omega))
  have e2 := hid (iW (128 + r / 4096 % 64) (by omega) (by omega))
  have e3 := hid (iW (128 + r / 64 % 64) (by omega) (by omega))
  have e4 := hid (iW (128 + r % 64) (by omega) (by omega))
  have HE := hid (enc4 r (by omega) h1)
  clear h2 a b c
  go_enter Tryz.func201, Tryz.ntmps201
  go_wp2_with fail
  refine (yu _ _).mono ?_
  rintro e w1 ⟨rfl, rfl⟩
  rw [hB.out]
  go_wp2
  go_ret
  exact fin w [.int .u8 (240 + r / 262144), .int .u8 (128 + r / 4096 % 64), .int .u8 (128 + r / 64 % 64), .int .u8 (128 + r % 64)] 4 r (by
   rw [HE.out]
   simp only [ak, List.map_cons, List.map_nil, e1.out, e2.out, e3.out, e4.out]) rfl
theorem one_bad (r : Int) (hc : ¬ xM r) (w : World) : Calls Tryz.prog 201 #[.int .i32 r] w (Qx w r) := by
 have hB : Hid (YA r = false) := by unfold Hid YA; simpa using hc
 have HE : Hid (Lib.encodeRune r = [239, 191, 189]) := by
  show Lib.encodeRune r = [239, 191, 189]
  rw [encBad r hc]
  decide
 clear hc
 go_enter Tryz.func201, Tryz.ntmps201
 go_wp2_with fail
 refine (yu _ _).mono ?_
 rintro e w1 ⟨rfl, rfl⟩
 rw [hB.out]
 go_wp2
 go_ret
 exact fin w [.int .u8 239, .int .u8 191, .int .u8 189] 3 r (by rw [HE.out]; rfl) rfl
theorem one_any (r : Int) (w : World) : Calls Tryz.prog 201 #[.int .i32 r] w (Qx w r) := by
 by_cases h : xM r
 ·exact one_chr r h w
 ·exact one_bad r h w
theorem VP (A : Option Addr) (n cap : Nat) (l : List Int) (w : World) (h : dS w A n (jk .i32 l)) (hm : n ≤ 1073741824) :
  Calls Tryz.prog 178 #[.slice A n cap] w fun e w' => ∃ v, e = .returned v ∧ w'.ownsRow w.heap.size 5 1 v (xw.enc l).length (ak (xw.enc l)) ∧ Below w.heap.size w w' := by
 have hl : l.length = n := by rw [← lg .i32]; exact h.1
 have HL := hid hl
 clear hl
 obtain ⟨i0, hi, hz0, hz1, hz2⟩ := info_parts jU
 have HH := hid h
 clear h
 go_enter Tryz.func178, Tryz.ntmps178
 go_wp2
 go_loopw [3, 7] (fun v vk wr => ∃ (k : Nat), k ≤ n ∧ vk = .int .i64 k ∧ wr.ownsRow w.heap.size 5 1 v (xw.enc (l.take k)).length (ak (xw.enc (l.take k))) ∧ Below w.heap.size w wr) (fun _ vk _ => n - (intOf vk).toNat)
 case atStart => exact ⟨0, Nat.zero_le _, rfl, World.ownsRow_nil _ _ _ _, Below.refl _ _⟩
 case round =>
  obtain ⟨k, hk, rfl, hown, hbel⟩ := hrel
  by_cases hlt : k < n
  ·obtain ⟨b, off, rfl, hb, _⟩ := (HH.out).spot (by omega)
   obtain ⟨r, hx⟩ : ∃ r, r = l[k]'(by rw [HL.out]; exact hlt) := ⟨_, rfl⟩
   have hcell : wr.cell? ⟨b, off + k, none⟩ = some (.int .i32 r) := by
    rw [hx, ← HH.out.int k (by rw [HL.out]; exact hlt)]
    exact hbel.cell (p := ⟨b, off + k, none⟩) hb
   have HS : Hid (l.take (k + 1) = l.take k ++ [r]) := by
    rw [hx]
    exact List.take_succ_eq_append_getElem (by rw [HL.out]; exact hlt)
   clear hx
   have hle := (xw.iL (l.take k)).1
   have hle2 : (l.take k).length ≤ k := List.length_take_le _ _
   have hle3 := xw.D5 r
   obtain ⟨m, hmm⟩ : ∃ m, m = (xw.enc (l.take k)).length := ⟨_, rfl⟩
   rw [← hmm] at hle hown
   have HM := hid hmm
   clear hmm
   obtain ⟨q, hq⟩ : ∃ q, q = (Lib.encodeRune r).length := ⟨_, rfl⟩
   rw [← hq] at hle3
   have HQ := hid hq
   clear hq
   go_wp2_with fail
   refine (one_any _ _).mono ?_
   rintro e w1 ⟨A1, c1, rfl, hr1, ⟨g, o, rfl⟩, hc1, hb1⟩
   rw [← HQ.out] at hr1 hc1 ⊢
   have hown1 := aI hown hb1
   have gB := hbel.trans (hb1.mono hbel.size)
   clear hown hbel
   go_wp2_with (at_builtin; refine wpList_append_own _ rfl _ _ 30 rfl w.heap.size 5 i0 (.int .u8 0) 1 1 Tryz.underlying30 hi hz0 hz1 hz2 rfl (by decide) _ m _ rfl hown1 ⟨g, o, none⟩ q c1 (ak (Lib.encodeRune r)) rfl (by rw [bF, ← HQ.out, Nat.mul_one]) (rds_at hr1) (vT _) (by unfold maxLen; omega) (by omega) gB.size ?_)
   intro v' w2 hown2 hg2 _
   have gG : Below w.heap.size w w2 := gB.grown hg2 gB.size (fun g hg => (hown1.lt g hg).1)
   clear hown1 gB hg2
   go_wp2
   go_roundw
   case rel => exact ⟨k + 1, by omega, by go_num, by
     rw [HS.out, xw.uJ, List.length_append, aX, ← HM.out, ← HQ.out]
     exact hown2, gG⟩
   case measure => simp [intOf]; omega
  ·obtain rfl : k = n := by omega
   have HE : Hid (l.take k = l) := by
    rw [← HL.out]; exact List.take_length
   go_wp2
   go_ret
   exact ⟨_, rfl, by rw [HE.out] at hown; exact hown, hbel⟩
end Go.Proofs.YtcfgioklgmlclaaGreatDoor.RefC
namespace Go.Proofs.YtcfgioklgmlclaaGreatDoor.RefD
open Go.RowKit Base aP uy RefS RefN RefM
def aaX (L : List UInt8) (j : Nat) (wh : Bool) : Prop := j = 0 ∧ wh = false ∨ 1 ≤ j ∧ j ≤ L.length ∧ st (L.take j) = (true, wh)
theorem ET (x : UInt8) (T : List UInt8) (j : Nat) (wh : Bool) (h : aaX (x :: T) j wh) (hend : wh = true ∨ j = T.length + 1 ∨ j ≤ T.length ∧ (st ((x :: T).take (j + 1))).1 = false) :
  (wh = true → rd (x :: T) = (fo (first x.toNat) ((x :: T).take j).tail, (j : Int), true) ∧ st ((x :: T).take j) = (true, true) ∧ 1 ≤ j ∧ j ≤ T.length + 1) ∧ (wh = false → rd (x :: T) = (65533, ((max j 1 : Nat) : Int), false)) := by
 constructor
 ·rintro rfl
  rcases h with ⟨_, h⟩ | ⟨h1, h2, h3⟩
  ·cases h
  ·obtain ⟨i, rfl⟩ : ∃ i, j = i + 1 := ⟨j - 1, by omega⟩
   rw [List.take_succ_cons] at h3 ⊢
   have e := aef x (T.take i) (T.drop i) h3
   rw [List.take_append_drop] at e
   refine ⟨?_, h3, by omega, by simpa using h2⟩
   rw [e]
   simp only [List.tail_cons, List.length_take, List.length_cons] at h2 ⊢
   refine Prod.ext rfl (Prod.ext ?_ rfl)
   simp only
   omega
 ·rintro rfl
  rcases h with ⟨rfl, _⟩ | ⟨h1, h2, h3⟩
  ·rcases hend with h | h | ⟨_, h⟩
   ·cases h
   ·omega
   ·rw [List.take_succ_cons, List.take_zero] at h
    exact none_rd x T h
  ·obtain ⟨i, rfl⟩ : ∃ i, j = i + 1 := ⟨j - 1, by omega⟩
   rw [List.take_succ_cons] at h3
   simp only [List.length_cons] at h2
   have e := part_rd x (T.take i) (T.drop i) h3 (by
    rcases hend with h | h | ⟨h4, h⟩
    ·cases h
    ·exact .inl (List.drop_of_length_le (by omega))
    ·refine .inr ⟨T[i], T.drop (i + 1), List.drop_eq_getElem_cons (by omega), ?_⟩
     rw [List.take_succ_cons, List.take_succ_eq_append_getElem (by omega)] at h
     exact h)
   rw [List.take_append_drop] at e
   rw [e]
   refine Prod.ext rfl (Prod.ext ?_ rfl)
   simp only [List.length_take]
   omega
theorem SY (L : List UInt8) (j : Nat) (wh : Bool) (h : aaX L j wh) : j ≤ 4 ∧ j ≤ L.length := by
 rcases h with ⟨rfl, _⟩ | ⟨h1, h2, h3⟩
 ·exact ⟨by omega, by omega⟩
 ·obtain ⟨x, T, rfl⟩ : ∃ x T, L = x :: T := by
   cases L with
   | nil => simp at h2; omega
   | cons x T => exact ⟨x, T, rfl⟩
  obtain ⟨i, rfl⟩ : ∃ i, j = i + 1 := ⟨j - 1, by omega⟩
  rw [List.take_succ_cons] at h3
  obtain ⟨h4, _⟩ := D6 x _ _ h3
  have := size_le x.toNat
  simp only [List.length_take, List.length_cons] at h4 h2
  exact ⟨by omega, by simp; omega⟩
def EH : Value → Nat
 | .slice _ n _ => n
 | _ => 0
theorem decode_any (A0 : Option Addr) (n0 cap0 : Nat) (L : List UInt8) (w : World) (h : dS w A0 n0 (ak L)) (hm : n0 ≤ 1073741824) (hcap : n0 ≤ cap0) :
  Calls Tryz.prog 132 #[.slice A0 n0 cap0] w fun e w' => ∃ v, e = .returned v ∧ w'.ownsRow w.heap.size 21 1 v (dec L).length (jk .i32 (dec L)) ∧ Below w.heap.size w w' := by
 have hl : L.length = n0 := by rw [← bF]; exact h.1
 have HL := hid hl
 clear hl
 obtain ⟨i0, hi, hz0, hz1, hz2⟩ := info_parts info21
 have HH := hid h
 clear h
 go_enter Tryz.func132, Tryz.ntmps132
 go_wp2
 go_loopw [0, 3] (fun vb v wr => ∃ (A : Option Addr) (n cap : Nat) (R : List UInt8) (acc : List Int), n ≤ cap ∧ acc.length + n ≤ 1073741824 ∧ vb = .slice A n cap ∧ dS w A n (ak R) ∧ wr.ownsRow w.heap.size 21 1 v acc.length (jk .i32 acc) ∧ Below w.heap.size w wr ∧ Hid (acc ++ dec R = dec L)) (fun vb _ _ => EH vb)
 case atStart => exact ⟨A0, n0, cap0, L, [], hcap, by simpa using hm, rfl, HH.out, World.ownsRow_nil _ _ _ _, Below.refl _ _, rfl⟩
 case round =>
  clear HH HL hcap hm
  obtain ⟨A, n, cap, R, acc, hcap, hlen, rfl, hr, hown, hbel, HT⟩ := hrel
  cases R with
  | nil =>
   have hn0 : n = 0 := by have := hr.1; simp [ak] at this; omega
   subst hn0
   clear hr
   have HE : Hid (acc = dec L) := by
    have e := HT.out
    rw [kK, List.append_nil] at e
    exact e
   go_wp2
   go_ret
   exact ⟨_, rfl, by rw [← HE.out]; exact hown, hbel⟩
  | cons x T =>
   have hn1 : n = T.length + 1 := by have := hr.1; rw [bF] at this; exact this.symm
   obtain ⟨b, off, rfl, hb, _⟩ := hr.spot (by omega)
   have hp : 0 < n := by omega
   have HLEN := hid hn1
   clear hn1
   have hrw : dS wr (some ⟨b, off, none⟩) n (ak (x :: T)) := hr.below hbel
   have HRW := hid hrw
   have HR := hid hr
   clear hrw hr
   go_wp2
   go_loop [4, 5, 6, 7] (fun vn vw _ _ => ∃ (j : Nat) (wh : Bool), j ≤ n ∧ j ≤ 4 ∧ vn = .int .i64 j ∧ vw = .bool wh ∧ Hid (aaX (x :: T) j wh)) (fun vn _ _ _ => n - (intOf vn).toNat)
   case atStart => exact ⟨0, false, Nat.zero_le _, by omega, rfl, rfl, .inl ⟨rfl, rfl⟩⟩
   case round =>
    obtain ⟨j, wh, hj, hj4, rfl, rfl, HS⟩ := hrel
    cases wh with
    | true =>
     obtain ⟨hrd, hst, hj1, hjT⟩ := (ET x T j true HS.out (.inl rfl)).1 rfl
     have WB := hid hrd
     have hcut : Hid (dS wr (some ⟨b, off, none⟩) j (ak (x :: ((x :: T).take j).tail))) := by
      have := HRW.out.upto j hj
      rw [← rV] at this
      obtain ⟨i, rfl⟩ : ∃ i, j = i + 1 := ⟨j - 1, by omega⟩
      exact this
     have hst' : Hid (st (x :: ((x :: T).take j).tail) = (true, true)) := by
      obtain ⟨i, rfl⟩ : ∃ i, j = i + 1 := ⟨j - 1, by omega⟩
      exact hst
     clear hrd hst
     have hjc : (j : Int) ≤ (cap : Int) := by omega
     obtain ⟨q, hq⟩ : ∃ q, q = fo (first x.toNat) ((x :: T).take j).tail := ⟨_, rfl⟩
     have HQ := hid hq
     clear hq
     by_cases hlt : j < n
     all_goals
      go_wp2_with fail
      refine (aZ b off j cap x ((x :: T).take j).tail _ hcut.out hst'.out).mono ?_
      rintro e w1 ⟨rfl, rfl⟩
      rw [← HQ.out]
      go_wp2_with (at_builtin; refine bC rfl _ _ 109 rfl w.heap.size 21 i0 (.int .i32 0) 4 Tryz.underlying109 hi hz0 hz1 hz2 rfl _ acc.length _ rfl hown hbel hbel.size [.int .i32 (q)] 1 rfl rfl (by intro u hu; simp at hu; subst hu; rfl) (by unfold maxLen; omega) (by omega) ?_)
      intro v' w3 hown3 dK
      clear hown hbel
      have GI : Hid (dec (x :: T) = (q) :: dec ((x :: T).drop (j))) := by
       rw [gV, WB.out, ← HQ.out]
       exact rfl
      by_cases hcm : cap = j
      ·have hnm : n = j := by omega
       have GK : Hid ((x :: T).drop (j) = []) := List.drop_of_length_le (by have := HLEN.out; rw [List.length_cons]; omega)
       go_wp2
       go_roundw
       case rel => exact ⟨some ⟨b, off, none⟩, 0, 0, [], acc ++ [q], by omega, by simp; omega, (by first | (simp; done) | (simp; omega)), dS.nil _, by rw [gJ, List.length_append]; exact hown3, dK, by
         have e := HT.out
         rw [GI.out, GK.out] at e
         rw [List.append_assoc]
         exact e⟩
       case measure => simp [EH]; omega
      ·go_wp2
       go_roundw
       case rel => exact ⟨some ⟨b, off + (j), none⟩, n - (j), cap - (j), (x :: T).drop (j), acc ++ [q], by omega, by simp; omega, (by first | rfl | (simp; done) | (simp; omega)), by rw [lV]; exact HR.out.cut _ (by omega), by rw [gJ, List.length_append]; exact hown3, dK, by
         have e := HT.out
         rw [GI.out] at e
         rw [List.append_assoc]
         exact e⟩
       case measure => simp [EH]; omega
    | false =>
     by_cases hlt : j < n
     ·have hcut : Hid (dS wr (some ⟨b, off, none⟩) (j + 1) (ak (x :: T.take j))) := by
       have := HRW.out.upto (j + 1) (by omega)
       rw [← rV, List.take_succ_cons] at this
       exact this
      have hcm : (j : Int) + 1 ≤ (cap : Int) := by omega
      obtain ⟨p, hpp⟩ : ∃ p, p = st (x :: T.take j) := ⟨_, rfl⟩
      have HP := hid hpp
      clear hpp
      go_wp2_with fail
      refine (VZ b off (j + 1) cap x (T.take j) _ hcut.out (by omega)).mono ?_
      rintro e w1 ⟨rfl, rfl⟩
      rw [← HP.out]
      obtain ⟨ok, is⟩ := p
      cases ok with
      | true =>
       go_wp2
       go_round
       case rel => exact ⟨j + 1, is, by omega, by
         have := (SY (x :: T) (j + 1) is (.inr ⟨by omega, by simp; have := HLEN.out; omega, by rw [List.take_succ_cons]; exact HP.out.symm⟩)).1
         omega, by go_num, rfl, .inr ⟨by omega, by simp; have := HLEN.out; omega, by rw [List.take_succ_cons]; exact HP.out.symm⟩⟩
       case measure => simp [intOf]; omega
      | false =>
       have WB : Hid (rd (x :: T) = (65533, ((max j 1 : Nat) : Int), false)) := (ET x T j false HS.out (.inr (.inr ⟨by have := HLEN.out; omega, by rw [List.take_succ_cons, ← HP.out]⟩))).2 rfl
       by_cases hj0 : j = 0
       ·subst hj0
        go_wp2_with (at_builtin; refine bC rfl _ _ 109 rfl w.heap.size 21 i0 (.int .i32 0) 4 Tryz.underlying109 hi hz0 hz1 hz2 rfl _ acc.length _ rfl hown hbel hbel.size [.int .i32 (65533)] 1 rfl rfl (by intro u hu; simp at hu; subst hu; rfl) (by unfold maxLen; omega) (by omega) ?_)
        intro v' w3 hown3 dK
        clear hown hbel
        have GI : Hid (dec (x :: T) = (65533) :: dec ((x :: T).drop (1))) := by
         rw [gV, WB.out]
         exact rfl
        by_cases hcm : cap = 1
        ·have hnm : n = 1 := by omega
         have GK : Hid ((x :: T).drop (1) = []) := List.drop_of_length_le (by have := HLEN.out; rw [List.length_cons]; omega)
         go_wp2
         go_roundw
         case rel => exact ⟨some ⟨b, off, none⟩, 0, 0, [], acc ++ [65533], by omega, by simp; omega, (by first | (simp; done) | (simp; omega)), dS.nil _, by rw [gJ, List.length_append]; exact hown3, dK, by
           have e := HT.out
           rw [GI.out, GK.out] at e
           rw [List.append_assoc]
           exact e⟩
         case measure => simp [EH]; omega
        ·go_wp2
         go_roundw
         case rel => exact ⟨some ⟨b, off + (1), none⟩, n - (1), cap - (1), (x :: T).drop (1), acc ++ [65533], by omega, by simp; omega, (by first | rfl | (simp; done) | (simp; omega)), by rw [lV]; exact HR.out.cut _ (by omega), by rw [gJ, List.length_append]; exact hown3, dK, by
           have e := HT.out
           rw [GI.out] at e
           rw [List.append_assoc]
           exact e⟩
         case measure => simp [EH]; omega
       ·have hj1 : 1 ≤ j := by omega
        have hmx : Hid (max j 1 = j) := by show max j 1 = j; omega
        rw [hmx.out] at WB
        go_wp2_with (at_builtin; refine bC rfl _ _ 109 rfl w.heap.size 21 i0 (.int .i32 0) 4 Tryz.underlying109 hi hz0 hz1 hz2 rfl _ acc.length _ rfl hown hbel hbel.size [.int .i32 (65533)] 1 rfl rfl (by intro u hu; simp at hu; subst hu; rfl) (by unfold maxLen; omega) (by omega) ?_)
        intro v' w3 hown3 dK
        clear hown hbel
        have GI : Hid (dec (x :: T) = (65533) :: dec ((x :: T).drop (j))) := by
         rw [gV, WB.out]
         exact rfl
        by_cases hcm : cap = j
        ·have hnm : n = j := by omega
         have GK : Hid ((x :: T).drop (j) = []) := List.drop_of_length_le (by have := HLEN.out; rw [List.length_cons]; omega)
         go_wp2
         go_roundw
         case rel => exact ⟨some ⟨b, off, none⟩, 0, 0, [], acc ++ [65533], by omega, by simp; omega, (by first | (simp; done) | (simp; omega)), dS.nil _, by rw [gJ, List.length_append]; exact hown3, dK, by
           have e := HT.out
           rw [GI.out, GK.out] at e
           rw [List.append_assoc]
           exact e⟩
         case measure => simp [EH]; omega
        ·go_wp2
         go_roundw
         case rel => exact ⟨some ⟨b, off + (j), none⟩, n - (j), cap - (j), (x :: T).drop (j), acc ++ [65533], by omega, by simp; omega, (by first | rfl | (simp; done) | (simp; omega)), by rw [lV]; exact HR.out.cut _ (by omega), by rw [gJ, List.length_append]; exact hown3, dK, by
           have e := HT.out
           rw [GI.out] at e
           rw [List.append_assoc]
           exact e⟩
         case measure => simp [EH]; omega
     ·have hjn : j = n := by omega
      subst hjn
      have WB : Hid (rd (x :: T) = (65533, ((max j 1 : Nat) : Int), false)) := (ET x T j false HS.out (.inr (.inl HLEN.out))).2 rfl
      by_cases hj0 : j = 0
      ·exact absurd hp (by omega)
      ·have hj1 : 1 ≤ j := by omega
       have hmx : Hid (max j 1 = j) := by show max j 1 = j; omega
       rw [hmx.out] at WB
       go_wp2_with (at_builtin; refine bC rfl _ _ 109 rfl w.heap.size 21 i0 (.int .i32 0) 4 Tryz.underlying109 hi hz0 hz1 hz2 rfl _ acc.length _ rfl hown hbel hbel.size [.int .i32 (65533)] 1 rfl rfl (by intro u hu; simp at hu; subst hu; rfl) (by unfold maxLen; omega) (by omega) ?_)
       intro v' w3 hown3 dK
       clear hown hbel
       have GI : Hid (dec (x :: T) = (65533) :: dec ((x :: T).drop (j))) := by
        rw [gV, WB.out]
        exact rfl
       by_cases hcm : cap = j
       ·have hnm : j = j := rfl
        have GK : Hid ((x :: T).drop (j) = []) := List.drop_of_length_le (by have := HLEN.out; rw [List.length_cons]; omega)
        go_wp2
        go_roundw
        case rel => exact ⟨some ⟨b, off, none⟩, 0, 0, [], acc ++ [65533], by omega, by simp; omega, (by first | (simp; done) | (simp; omega)), dS.nil _, by rw [gJ, List.length_append]; exact hown3, dK, by
          have e := HT.out
          rw [GI.out, GK.out] at e
          rw [List.append_assoc]
          exact e⟩
        case measure => simp [EH]; omega
       ·go_wp2
        go_roundw
        case rel => exact ⟨some ⟨b, off + (j), none⟩, j - (j), cap - (j), (x :: T).drop (j), acc ++ [65533], by omega, by simp; omega, (by first | rfl | (simp; done) | (simp; omega)), by rw [lV]; exact HR.out.cut _ (by omega), by rw [gJ, List.length_append]; exact hown3, dK, by
          have e := HT.out
          rw [GI.out] at e
          rw [List.append_assoc]
          exact e⟩
        case measure => simp [EH]; omega
end Go.Proofs.YtcfgioklgmlclaaGreatDoor.RefD
namespace Go.Proofs.YtcfgioklgmlclaaGreatDoor.RefV
open Go.RowKit Base aP uy Uw
theorem lu (L : List UInt8) : (dec L).length ≤ L.length := by
 have H : ∀ (n : Nat) (L : List UInt8), L.length ≤ n → (dec L).length ≤ L.length := by
  intro n
  induction n with
  | zero => intro L hl; obtain rfl : L = [] := List.eq_nil_of_length_eq_zero (by omega); simp [kK]
  | succ n ih =>
   intro L hl
   cases L with
   | nil => simp [kK]
   | cons x t =>
    have hs := lF x t
    rw [gV, List.length_cons, List.length_cons]
    have := ih ((x :: t).drop (rd (x :: t)).2.1.toNat) (by simp only [List.length_drop, List.length_cons] at hl ⊢; omega)
    simp only [List.length_drop, List.length_cons] at this
    omega
 exact H _ L (Nat.le_refl _)
theorem iP (A : Option Addr) (n cap : Nat) (L : List UInt8) (w : World) (h : dS w A n (ak L)) (hm : n ≤ 1073741824) (hcap : n ≤ cap) :
  Calls Tryz.prog 133 #[.slice A n cap] w fun e w' => e = .returned (.bool (val L)) ∧ Below w.heap.size w w' := by
 have hl : L.length = n := by rw [← bF]; exact h.1
 have HDL : Hid ((dec L).length ≤ 1073741824) := by have := lu L; show _ ≤ _; omega
 have hs0 := aQ 30 9 5 Tryz.underlying30 Tryz.underlying5 Tryz.underlying9 _ cap h
 have hs0' := aQ 30 9 5 Tryz.underlying30 Tryz.underlying5 Tryz.underlying9 _ cap (qN h)
 have hbel0 : Below w.heap.size w w := Below.refl _ _
 have HV : Hid (((strOf (xw.enc (dec L))).toList == (strOf L).toList) = val L) := by
  show _ = _
  rw [strOf, strOf, ByteArray.toList_mk, ByteArray.toList_mk, val_iff, Bool.eq_iff_iff]
  simp
 clear hl
 go_enter Tryz.func133, Tryz.ntmps133
 go_wp2
 go_region_with (first
  | (go_at_call 132; refine (RefD.decode_any _ _ _ L _ (by first | assumption | exact qN (by assumption)) hm hcap).mono ?_; rintro e w2 ⟨v, rfl, hown, hb2⟩; obtain ⟨A2, c2, rfl, hc2, _, hr2⟩ := bZ hown; have gG : Below w.heap.size w w2 := (by first | exact bel (by assumption) hb2 | exact CV (by assumption) hb2); have hl2 : dS w2 A n (ak L) := (by first | exact dS.below (by assumption) hb2 | exact yR (by assumption) hb2); have hs2 := aQ 30 9 5 Tryz.underlying30 Tryz.underlying5 Tryz.underlying9 _ cap hl2; have hs2' := aQ 30 9 5 Tryz.underlying30 Tryz.underlying5 Tryz.underlying9 _ cap (qN hl2); clear hown)
  | (go_at_call 178; refine (RefC.VP _ _ _ (dec L) _ (by first | assumption | exact qN (by assumption)) HDL.out).mono ?_; rintro e w3 ⟨v, rfl, hown, hb3⟩; obtain ⟨A3, c3, rfl, hc3, _, hr3⟩ := bZ hown; have dK : Below w.heap.size w w3 := (by first | exact bel (by assumption) hb3 | exact CV (by assumption) hb3); have hl3 : dS w3 A n (ak L) := (by first | exact dS.below (by assumption) hb3 | exact yR (by assumption) hb3); have hs3 := aQ 30 9 5 Tryz.underlying30 Tryz.underlying5 Tryz.underlying9 _ cap hl3; have hs3' := aQ 30 9 5 Tryz.underlying30 Tryz.underlying5 Tryz.underlying9 _ cap (qN hl3); have he3 := aQ 30 9 5 Tryz.underlying30 Tryz.underlying5 Tryz.underlying9 _ c3 hr3; have he3' := aQ 30 9 5 Tryz.underlying30 Tryz.underlying5 Tryz.underlying9 _ c3 (qN hr3); clear hown))
 all_goals
  go_wp2
  go_ret
  refine ⟨aB ?_, by first | assumption | exact Below.drew (by assumption)⟩
  rw [← HV.out]
end Go.Proofs.YtcfgioklgmlclaaGreatDoor.RefV
