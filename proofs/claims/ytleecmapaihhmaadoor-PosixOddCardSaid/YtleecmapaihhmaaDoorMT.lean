/- Texts that belong together: TokP, TokQ, TokA. -/
import Derived.Test.YtleecmapaihhmaaDoorUtfA
import Derived.Lib.IndexLaws
import Derived.Lib.SlTrimSet
import Derived.Test.YtleecmapaihhmaaDoorMA
import Derived.Test.YtleecmapaihhmaaDoorRefA
import Derived.Test.YtleecmapaihhmaaDoorShelf
set_option linter.unusedSimpArgs false
set_option linter.unusedVariables false
namespace Go.Proofs.YtleecmapaihhmaaDoor.TokP
open Go.RowKit Go.Proofs.YtleecmapaihhmaaDoor.Base Go.Proofs.YtleecmapaihhmaaDoor.UtfA

/-- The marks of a token. -/
def marks : List UInt8 := [33, 35, 36, 37, 38, 39, 42, 43, 45, 46, 94, 95, 96, 124, 126]
/-- A token's byte. -/
def tch (c : UInt8) : Bool := letter c.toNat || digit c.toNat || marks.contains c
def isTok (L : List UInt8) : Bool := L.all tch && !L.isEmpty
theorem index_has (l : List UInt8) (c : UInt8) : decide (Lib.indexByte l c < 0) = !l.contains c := by
  have hge := Lib.indexByte_ge l c
  cases h : l.contains c
  · have : ¬ ∃ o : Nat, Lib.indexByte l c = o := by
      rintro ⟨o, e⟩
      have := (Lib.indexByte_some e).1
      have hm := List.mem_of_getElem? this
      rw [List.contains_iff_mem.2 hm] at h
      cases h
    have hn : Lib.indexByte l c < 0 := by
      by_cases h0 : Lib.indexByte l c < 0
      · exact h0
      · exact absurd ⟨(Lib.indexByte l c).toNat, by omega⟩ this
    simp [hn]
  · have hm := List.contains_iff_mem.1 h
    obtain ⟨k, hk⟩ := List.mem_iff_getElem?.1 hm
    have : Lib.indexByte l c ≠ -1 := fun e => Lib.indexByte_none e k hk
    simp
    omega
theorem isTok_append (a b : List UInt8) : isTok (a ++ b) = ((isTok a || a.isEmpty) && (isTok b || b.isEmpty) && !(a ++ b).isEmpty) := by
  unfold isTok
  cases a <;> cases b <;> simp [Bool.and_assoc]

/-- What stands in quotes, behind the first one: its value, and how many bytes it takes. -/
def qd : List UInt8 → List UInt8 × Nat
  | [] => ([], 0)
  | [c] => if c = 34 then ([], 1) else ([c], 1)
  | c :: d :: t => if c = 34 then ([], 1) else if c = 92 then (d :: (qd t).1, (qd t).2 + 2) else (c :: (qd (d :: t)).1, (qd (d :: t)).2 + 1)
theorem qd_end (t : List UInt8) : qd (34 :: t) = ([], 1) := by cases t <;> simp [qd]
theorem qd_esc (d : UInt8) (t : List UInt8) : qd (92 :: d :: t) = (d :: (qd t).1, (qd t).2 + 2) := by simp [qd]
theorem qd_last : qd [92] = ([92], 1) := by simp [qd]
theorem qd_plain (c : UInt8) (t : List UInt8) (h1 : c ≠ 34) (h2 : c ≠ 92) : qd (c :: t) = (c :: (qd t).1, (qd t).2 + 1) := by
  cases t <;> simp [qd, h1, h2]
def qval : List UInt8 → List UInt8 × Nat
  | [] => ([], 0)
  | c :: t => if c = 34 then ((qd t).1, (qd t).2 + 1) else ([], 0)
theorem qd_len : ∀ L : List UInt8, (qd L).1.length ≤ L.length ∧ (qd L).2 ≤ L.length
  | [] => by simp [qd]
  | [c] => by unfold qd; split <;> simp
  | c :: d :: t => by
    have h1 := qd_len t
    have h2 := qd_len (d :: t)
    unfold qd
    split
    · simp
    · split
      · simp
        omega
      · simp at h2 ⊢
        omega
def qe (c : UInt8) : List UInt8 := if c = 34 ∨ c = 92 then [92, c] else [c]
def qt (L : List UInt8) : List UInt8 := L.flatMap qe
theorem qt_snoc (L : List UInt8) (c : UInt8) : qt (L ++ [c]) = qt L ++ qe c := by simp [qt]
theorem qt_len (L : List UInt8) : (qt L).length ≤ 2 * L.length := by
  induction L with
  | nil => simp [qt]
  | cons c l ih =>
    have : (qe c).length ≤ 2 := by unfold qe; split <;> simp
    simp only [qt, List.flatMap_cons, List.length_append, List.length_cons] at ih ⊢
    omega
theorem qd_qt (T : List UInt8) : ∀ L : List UInt8, qd (qt L ++ 34 :: T) = (L, (qt L).length + 1)
  | [] => by simp [qt, qd_end]
  | c :: l => by
    have ih := qd_qt T l
    have e : qt (c :: l) = qe c ++ qt l := by simp [qt]
    rw [e]
    unfold qe
    split
    · rename_i h
      show qd (92 :: c :: (qt l ++ 34 :: T)) = _
      rw [qd_esc, ih]
      refine Prod.ext rfl ?_
      simp
    · rename_i h
      show qd (c :: (qt l ++ 34 :: T)) = _
      rw [qd_plain c _ (fun h' => h (.inl h')) (fun h' => h (.inr h')), ih]
      refine Prod.ext rfl ?_
      simp
/-- In quotes. -/
def qq (L : List UInt8) : List UInt8 := 34 :: (qt L ++ [34])
theorem qval_qq (L T : List UInt8) : qval (qq L ++ T) = (L, (qq L).length) := by
  have e : qq L ++ T = 34 :: (qt L ++ 34 :: T) := by simp [qq]
  rw [e, qval, if_pos rfl, qd_qt]
  refine Prod.ext rfl ?_
  simp [qq]
theorem qq_len (L : List UInt8) : (qq L).length ≤ 2 * L.length + 2 := by
  have := qt_len L
  simp [qq]
  omega

def blanks : List UInt8 := [9, 10, 13, 32]
def tl (L : List UInt8) : List UInt8 := Lib.trimLeftS L blanks
def tr (L : List UInt8) : List UInt8 := Lib.trimRightS L blanks
def trm (L : List UInt8) : List UInt8 := Lib.trimS L blanks
theorem dw_append_all (p : UInt8 → Bool) (a b : List UInt8) (h : ∀ x ∈ a, p x = true) : (a ++ b).dropWhile p = b.dropWhile p := by
  induction a with
  | nil => rfl
  | cons x a ih =>
    rw [List.cons_append, List.dropWhile_cons, if_pos (h x (by simp))]
    exact ih fun y hy => h y (by simp [hy])
theorem dw_idem (p : UInt8 → Bool) (a : List UInt8) : (a.dropWhile p).dropWhile p = a.dropWhile p := by
  induction a with
  | nil => rfl
  | cons x a ih =>
    rw [List.dropWhile_cons]
    split
    · exact ih
    · rename_i h
      rw [List.dropWhile_cons, if_neg h]
theorem tl_ahead (b L : List UInt8) (h : ∀ x ∈ b, x ∈ blanks) : tl (b ++ L) = tl L :=
  dw_append_all _ _ _ fun x hx => List.contains_iff_mem.2 (h x hx)
theorem tr_behind (b L : List UInt8) (h : ∀ x ∈ b, x ∈ blanks) : tr (L ++ b) = tr L := by
  unfold tr Lib.trimRightS
  rw [List.reverse_append, dw_append_all]
  intro x hx
  exact List.contains_iff_mem.2 (h x (by simpa using hx))
theorem tr_idem (L : List UInt8) : tr (tr L) = tr L := by
  unfold tr Lib.trimRightS
  rw [List.reverse_reverse, dw_idem]
theorem tl_idem (L : List UInt8) : tl (tl L) = tl L := dw_idem _ _
theorem dw_nil (p : UInt8 → Bool) : ∀ L : List UInt8, L.dropWhile p = [] → ∀ y ∈ L, p y = true
  | [], _, y, hy => by cases hy
  | x :: l, h, y, hy => by
    rw [List.dropWhile_cons] at h
    split at h
    · rename_i hx
      rcases List.mem_cons.1 hy with rfl | hy
      · exact hx
      · exact dw_nil p l h y hy
    · cases h
/-- Both ends, in either order. -/
theorem dw_rev (p : UInt8 → Bool) (L : List UInt8) : (L.dropWhile p).reverse.dropWhile p = ((L.reverse.dropWhile p).reverse.dropWhile p).reverse := by
  induction L with
  | nil => rfl
  | cons x l ih =>
    by_cases hx : p x = true
    · rw [List.dropWhile_cons, if_pos hx, ih, List.reverse_cons]
      by_cases ha : ∀ y ∈ l, p y = true
      · have e1 : l.reverse.dropWhile p = [] := by
          have := dw_append_all p l.reverse [] (fun y hy => ha y (by simpa using hy))
          simpa using this
        have e2 : (l.reverse ++ [x]).dropWhile p = [] := by
          rw [dw_append_all p l.reverse [x] (fun y hy => ha y (by simpa using hy)), List.dropWhile_cons, if_pos hx]
          rfl
        rw [e1, e2]
      · have e3 : (l.reverse ++ [x]).dropWhile p = l.reverse.dropWhile p ++ [x] := by
          rw [List.dropWhile_append, if_neg]
          intro h
          refine ha fun y hy => ?_
          have h' : l.reverse.dropWhile p = [] := by simpa using h
          exact dw_nil p _ h' y (by simpa using hy)
        rw [e3, List.reverse_append, List.reverse_singleton, List.singleton_append, List.dropWhile_cons, if_pos hx]
    · rw [List.dropWhile_cons, if_neg hx, List.reverse_cons]
      have e3 : (l.reverse ++ [x]).dropWhile p = l.reverse.dropWhile p ++ [x] := by
        rw [List.dropWhile_append]
        split
        · rename_i h
          have h' : l.reverse.dropWhile p = [] := by simpa using h
          rw [h', List.dropWhile_cons, if_neg hx]
          rfl
        · rfl
      rw [e3, List.reverse_append, List.reverse_singleton, List.singleton_append, List.dropWhile_cons, if_neg hx, List.reverse_cons, List.reverse_reverse]
theorem tr_tl (L : List UInt8) : tr (tl L) = tl (tr L) := by
  unfold tr tl Lib.trimRightS Lib.trimLeftS
  rw [dw_rev, List.reverse_reverse]
theorem trm_def (L : List UInt8) : trm L = tl (tr L) := rfl
theorem tr_trm (L : List UInt8) : tr (trm L) = trm L := by rw [trm_def, tr_tl, tr_idem]
theorem trm_trm (L : List UInt8) : trm (trm L) = trm L := by rw [trm_def (trm L), tr_trm, trm_def, tl_idem]
theorem trm_both (a b L : List UInt8) (ha : ∀ x ∈ a, x ∈ blanks) (hb : ∀ x ∈ b, x ∈ blanks) : trm (a ++ L ++ b) = trm L := by
  rw [trm_def, tr_behind b _ hb, ← tr_tl, tl_ahead a L ha, tr_tl, ← trm_def]
theorem tl_len (L : List UInt8) : (tl L).length ≤ L.length := by
  unfold tl Lib.trimLeftS
  exact (List.dropWhile_sublist _).length_le
theorem tr_len (L : List UInt8) : (tr L).length ≤ L.length := by
  unfold tr Lib.trimRightS
  rw [List.length_reverse]
  have := (List.dropWhile_sublist (fun x => blanks.contains x) (l := L.reverse)).length_le
  simpa using this
theorem trm_len (L : List UInt8) : (trm L).length ≤ L.length := Nat.le_trans (tl_len _) (tr_len _)
end Go.Proofs.YtleecmapaihhmaaDoor.TokP
namespace Go.Proofs.YtleecmapaihhmaaDoor.TokQ
open Go.RowKit Go.Proofs.YtleecmapaihhmaaDoor.Base Go.Proofs.YtleecmapaihhmaaDoor.Base2 Go.Proofs.YtleecmapaihhmaaDoor.TokP

theorem drop_at (s : ByteArray) (k : Nat) (h : k < s.size) : s.data.toList.drop k = s[k] :: s.data.toList.drop (k + 1) := by
  have h' : k < s.data.toList.length := by rw [Array.length_toList]; exact h
  rw [List.drop_eq_getElem_cons h']
  rfl
theorem empty_of (s : ByteArray) (h : s.size = 0) : s = strOf [] := by
  have : s.data.toList = [] := List.eq_nil_of_length_eq_zero (by rw [Array.length_toList]; exact h)
  rw [← strOf_toList s, this]
theorem toList_eq (s : ByteArray) (h : s.size = 0) : s.toList = [] := by
  rw [empty_of s h, strOf, ByteArray.toList_mk]
theorem toList_ne (s : ByteArray) (h : 0 < s.size) : s.toList.isEmpty = false := by
  rw [Lib.toList_data]
  cases e : s.data.toList with
  | nil => have : s.data.toList.length = s.size := Array.length_toList; rw [e] at this; simp at this; omega
  | cons _ _ => rfl
theorem toList_ne' (s : ByteArray) (h : 0 < s.size) : (s.toList == []) = false := by
  have := toList_ne s h
  cases e : s.toList with
  | nil => rw [e] at this; cases this
  | cons _ _ => rfl
theorem ne34 (c : UInt8) (h : ¬ (c.toNat : Int) = 34) : c ≠ 34 := fun e => h (by rw [e]; rfl)
theorem ne92 (c : UInt8) (h : ¬ (c.toNat : Int) = 92) : c ≠ 92 := fun e => h (by rw [e]; rfl)
theorem eq_u8 (c d : UInt8) (h : (c.toNat : Int) = (d.toNat : Int)) : c = d := UInt8.toNat_inj.1 (by omega)

end Go.Proofs.YtleecmapaihhmaaDoor.TokQ
namespace Go.Proofs.YtleecmapaihhmaaDoor.TokA
open Go.RowKit Go.Proofs.YtleecmapaihhmaaDoor.Base Go.Proofs.YtleecmapaihhmaaDoor.Base2 Go.Proofs.YtleecmapaihhmaaDoor.UtfA Go.Proofs.YtleecmapaihhmaaDoor.TokP Go.Proofs.YtleecmapaihhmaaDoor.TokQ

def has (L : List UInt8) (c : UInt8) : Bool := L.contains c
theorem has_any (s : ByteArray) (c : UInt8) (w : World) (hs : s.size ≤ 1073741824) :
    Calls Tryd.prog 16 #[.string s, .int .u8 (c.toNat : Int)] w fun e w' => e = .returned (.bool (has s.data.toList c)) ∧ w = w' := by
  have hl : s.data.toList.length = s.size := Array.length_toList
  have HL := hid hl
  clear hl
  go_enter Tryd.func16, Tryd.ntmps16
  go_wp2
  go_loop [8] (fun vk => ∃ j : Nat, j ≤ s.size ∧ vk = .int .i64 j ∧ Hid (has s.data.toList c = has (s.data.toList.drop j) c)) (fun vk => s.size - (intOf vk).toNat)
  case atStart => exact ⟨0, Nat.zero_le _, rfl, rfl⟩
  case round =>
    obtain ⟨j, hj, rfl, HT⟩ := hrel
    by_cases hlt : j < s.size
    · obtain ⟨d, hd⟩ : ∃ d, s[j] = d := ⟨_, rfl⟩
      have HC : Hid (s.data.toList.drop j = d :: s.data.toList.drop (j + 1)) := by
        have := drop_at s j hlt
        rw [hd] at this
        exact this
      by_cases h : (d.toNat : Int) = (c.toNat : Int)
      · have e1 : ((d.toNat : Int) == (c.toNat : Int)) = true := by simp [h]
        have HV : Hid (has s.data.toList c = true) := by
          show _ = _
          rw [HT.out, HC.out, eq_u8 d c h]
          simp [has]
        clear h
        go_wp2
        go_ret
        rw [HV.out]
        exact ⟨rfl, rfl⟩
      · have e1 : ((d.toNat : Int) == (c.toNat : Int)) = false := by simp; omega
        have HV : Hid (has s.data.toList c = has (s.data.toList.drop (j + 1)) c) := by
          show _ = _
          rw [HT.out, HC.out, has, List.contains_cons, show (c == d) = false by simp; intro e; exact h (by rw [e]), Bool.false_or]
          rfl
        clear h
        go_wp2
        go_round
        case rel => exact ⟨j + 1, by omega, by go_num, HV⟩
        case measure => simp [intOf]; omega
    · obtain rfl : j = s.size := by omega
      have HV : Hid (has s.data.toList c = false) := by
        show _ = _
        rw [HT.out, ← HL.out, List.drop_length]
        rfl
      go_wp2
      go_ret
      rw [HV.out]
      exact ⟨rfl, rfl⟩
end Go.Proofs.YtleecmapaihhmaaDoor.TokA
