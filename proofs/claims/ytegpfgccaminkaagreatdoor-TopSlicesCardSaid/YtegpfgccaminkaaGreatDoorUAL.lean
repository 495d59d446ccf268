/- Texts that belong together: ClnP, PrsG, PrsR, OpqC, PrsL, EscF, EscP, HstQ, PrsT, PrsU, PrsV, PthS, PrsX, PrsY, OrgP, BldA. -/
import Derived.Test.YtegpfgccaminkaaGreatDoorUAE
import Derived.Test.YtegpfgccaminkaaGreatDoorUAK
import Derived.Lib.TrimUEq
import Derived.Lib.SpaceUEq
import Derived.Lib.TrimAscii
import Derived.Lib.MapU
import Derived.Shelf.GgClosure.StringsTrimFunc
import Derived.Test.YtegpfgccaminkaaGreatDoorUAJ
import Derived.Test.YtegpfgccaminkaaGreatDoorUAD
import Derived.Test.YtegpfgccaminkaaGreatDoorShelf
import Derived.Test.YtegpfgccaminkaaGreatDoorShelf2
import Derived.Test.YtegpfgccaminkaaGreatDoorUAA
import Derived.Test.YtegpfgccaminkaaGreatDoorUAC
import Derived.Laws.IdiomStrings
import Derived.Deep.QuietTactic
import Derived.BigQuiet
import Derived.IntWalk
import Derived.Lib.SplitLaws
import Derived.Lib.LastIndexByte
import Derived.Lib.IndexMore
import Derived.Laws.BitsAllLaws
import Derived.Lib.IndexLaws
import Derived.Laws.Rows
import Derived.Lib.LaidTab
import Derived.Lib.LaidU8
import Derived.Lib.SmallJoins
import Derived.Laws.Bits64b
import Derived.Deep.DeepCutAuto
import Derived.Deep.CutBlock
import Derived.Test.YtegpfgccaminkaaGreatDoorShelf3
import Derived.Laws.StructEq
import Derived.Lib.SliceRun
import Derived.Lib.IndexAny
import Derived.Shelf.Strings.Builder1
set_option linter.unusedSimpArgs false
set_option linter.unusedVariables false
namespace Go.Proofs.YtegpfgccaminkaaGreatDoor.ClnP
open Go.RowKit Base UtfR UtfE UtfP PrsP
theorem un (x : Int) (h0 : 0 ≤ x) (h1 : x ≤ 255) : (u x).toNat = x.toNat := by have := u_nat x h0 h1; omega
theorem enc_ways (r : Int) (h : Chr r) : (r ≤ 127 ∧ Lib.encodeRune r = [u r]) ∨ (128 ≤ r ∧ ∃ a b : UInt8, Lib.encodeRune r = [a, b] ∧ 192 ≤ a.toNat ∧ b.toNat / 64 = 2) ∨
  (128 ≤ r ∧ ∃ a b c : UInt8, Lib.encodeRune r = [a, b, c] ∧ 192 ≤ a.toNat ∧ b.toNat / 64 = 2 ∧ c.toNat / 64 = 2) ∨ (128 ≤ r ∧ ∃ a b c d : UInt8, Lib.encodeRune r = [a, b, c, d] ∧ 192 ≤ a.toNat ∧ b.toNat / 64 = 2 ∧ c.toNat / 64 = 2 ∧ d.toNat / 64 = 2) := by
 obtain ⟨h0, h1, h2⟩ := h
 by_cases a : r ≤ 127
 ·exact .inl ⟨a, enc1 r h0 a⟩
 by_cases b : r ≤ 2047
 ·refine .inr (.inl ⟨by omega, _, _, enc2 r (by omega) b, ?_, ?_⟩)
  ·rw [un _ (by omega) (by omega)]; omega
  ·rw [un _ (by omega) (by omega)]; omega
 by_cases c : r ≤ 65535
 ·refine .inr (.inr (.inl ⟨by omega, _, _, _, enc3 r (by omega), ?_, ?_, ?_⟩))
  ·rw [un _ (by omega) (by omega)]; omega
  ·rw [un _ (by omega) (by omega)]; omega
  ·rw [un _ (by omega) (by omega)]; omega
 ·refine .inr (.inr (.inr ⟨by omega, _, _, _, _, enc4 r (by omega) h1, ?_, ?_, ?_, ?_⟩))
  ·rw [un _ (by omega) (by omega)]; omega
  ·rw [un _ (by omega) (by omega)]; omega
  ·rw [un _ (by omega) (by omega)]; omega
  ·rw [un _ (by omega) (by omega)]; omega
set_option maxRecDepth 100000 in
theorem decodeN_enc (r : Int) (h : Chr r) (t : List UInt8) : Lib.decodeN (Lib.encodeRune r ++ t).length ((Lib.encodeRune r ++ t).getD 0 0).toNat ((Lib.encodeRune r ++ t).getD 1 0).toNat ((Lib.encodeRune r ++ t).getD 2 0).toNat ((Lib.encodeRune r ++ t).getD 3 0).toNat = (r.toNat, (Lib.encodeRune r).length) := by
 obtain ⟨h0, h1, h2⟩ := h
 by_cases a : r ≤ 127
 ·rw [enc1 r h0 a]
  simp only [List.cons_append, List.nil_append, List.getD_cons_zero, un r h0 (by omega), Lib.decodeN]
  rw [if_pos (by omega)]
  rfl
 by_cases b : r ≤ 2047
 ·rw [enc2 r (by omega) b]
  simp only [List.cons_append, List.nil_append, List.getD_cons_zero, List.getD_cons_succ, un (192 + r / 64) (by omega) (by omega), un (128 + r % 64) (by omega) (by omega), Lib.decodeN, List.length_cons, List.length_nil]
  rw [if_neg (by omega), if_pos (by omega), if_pos (by omega)]
  refine Prod.ext ?_ rfl
  simp only
  omega
 by_cases c : r ≤ 65535
 ·rw [enc3 r (by omega)]
  simp only [List.cons_append, List.nil_append, List.getD_cons_zero, List.getD_cons_succ, un (224 + r / 4096) (by omega) (by omega), un (128 + r / 64 % 64) (by omega) (by omega), un (128 + r % 64) (by omega) (by omega), Lib.decodeN, List.length_cons, List.length_nil]
  rw [if_neg (by omega), if_neg (by omega), if_pos (by omega), if_pos (by omega)]
  refine Prod.ext ?_ rfl
  simp only
  omega
 ·rw [enc4 r (by omega) h1]
  simp only [List.cons_append, List.nil_append, List.getD_cons_zero, List.getD_cons_succ, un (240 + r / 262144) (by omega) (by omega), un (128 + r / 4096 % 64) (by omega) (by omega), un (128 + r / 64 % 64) (by omega) (by omega), un (128 + r % 64) (by omega) (by omega), Lib.decodeN, List.length_cons, List.length_nil]
  rw [if_neg (by omega), if_neg (by omega), if_neg (by omega), if_pos (by omega), if_pos (by omega)]
  refine Prod.ext ?_ rfl
  simp only
  omega
theorem decodeL_enc (r : Int) (h : Chr r) (t : List UInt8) : Lib.decodeL (Lib.encodeRune r ++ t) = (r.toNat, (Lib.encodeRune r).length) := by rw [Lib.decodeL_N]; exact decodeN_enc r h t
theorem last4 (t : List UInt8) (c0 c1 c2 c3 : UInt8) (h3 : 128 ≤ c3.toNat) (h2 : Lib.runeStartB c2 = false) (h1 : Lib.runeStartB c1 = false) (h0 : Lib.runeStartB c0 = true) (hd : (Lib.decodeL [c0, c1, c2, c3]).2 = 4) : Lib.decodeLastL (t ++ [c0, c1, c2, c3]) = Lib.decodeL [c0, c1, c2, c3] := by
 have g1 := Lib.getD_app_end t [c0, c1, c2, c3] 1 (by omega) (by simp)
 have g2 := Lib.getD_app_end t [c0, c1, c2, c3] 2 (by omega) (by simp)
 have g3 := Lib.getD_app_end t [c0, c1, c2, c3] 3 (by omega) (by simp)
 have g4 := Lib.getD_app_end t [c0, c1, c2, c3] 4 (by omega) (by simp)
 have hl : (t ++ [c0, c1, c2, c3]).length = t.length + 4 := by simp
 have hs : Lib.lastStart (t ++ [c0, c1, c2, c3]) = (t ++ [c0, c1, c2, c3]).length - 4 := by
  unfold Lib.lastStart
  simp only [g2, g3, g4]
  rw [if_neg (by omega)]
  simp only [List.length_cons, List.length_nil, List.getD_cons_succ, List.getD_cons_zero, Nat.reduceAdd, Nat.reduceSub, h2, h1, h0, Bool.false_eq_true, if_false, if_true]
  rw [if_neg (by omega), if_neg (by omega)]
 have hdrop := Lib.drop_app_end t [c0, c1, c2, c3]
 unfold Lib.decodeLastL
 rw [if_neg (by simp), g1, if_neg (by simp; omega), hs]
 simp only [List.length_cons, List.length_nil] at hdrop
 simp only [hdrop, hd]
 rw [if_pos (by omega)]
theorem start_no {c : UInt8} (h : c.toNat / 64 = 2) : Lib.runeStartB c = false := by unfold Lib.runeStartB; rw [h]; rfl
theorem start_yes {c : UInt8} (h : 192 ≤ c.toNat) : Lib.runeStartB c = true := by
 unfold Lib.runeStartB
 have := c.toNat_lt
 have h2 : c.toNat / 64 ≠ 2 := by omega
 simpa using h2
theorem decodeLast_enc (r : Int) (h : Chr r) (t : List UInt8) : Lib.decodeLastL (t ++ Lib.encodeRune r) = (r.toNat, (Lib.encodeRune r).length) := by
 have hd := decodeL_enc r h []
 rw [List.append_nil] at hd
 rcases enc_ways r h with ⟨h1, e⟩ | ⟨_, a, b, e, ha, hb⟩ | ⟨_, a, b, c, e, ha, hb, hc⟩ | ⟨_, a, b, c, d, e, ha, hb, hc, hdd⟩
 ·rw [e] at hd ⊢
  rw [Lib.decodeLastL_ascii t _ (by rw [un r h.1 (by omega)]; have := h.1; omega), un r h.1 (by omega)]
  rfl
 ·rw [e] at hd ⊢
  rw [Lib.last2 t a b (by omega) (start_yes ha) (by rw [hd]; rfl), hd]
 ·rw [e] at hd ⊢
  rw [Lib.last3 t a b c (by omega) (start_no hb) (start_yes ha) (by rw [hd]; rfl), hd]
 ·rw [e] at hd ⊢
  rw [last4 t a b c d (by omega) (start_no hc) (start_no hb) (start_yes ha) (by rw [hd]; rfl), hd]
def AllChr (l : List Int) : Prop := ∀ r ∈ l, Chr r
theorem enc_app (a b : List Int) : enc (a ++ b) = enc a ++ enc b := by simp [enc]
theorem enc_one (r : Int) : enc [r] = Lib.encodeRune r := by simp [enc]
theorem dl (s : ByteArray) : s.data.toList.length = s.size := Array.length_toList
theorem dec_at (a b : List Int) (r : Int) (h : Chr r) (S : ByteArray) (hS : S.data.toList = enc (a ++ r :: b)) : Utf8.decode S (enc a).length = (r.toNat, (Lib.encodeRune r).length) := by
 rw [← Lib.decodeL_drop, hS, enc_app, List.drop_left, enc_cons]
 exact decodeL_enc r h _
def bl (r : Int) : Bool := decide (r ≤ 32)
def pn (r : Nat) : Bool := decide (r ≤ 32)
theorem pn_bl (r : Int) (h : 0 ≤ r) : pn r.toNat = bl r := by unfold pn bl; congr 1; rw [eq_iff_iff]; omega
theorem rune_pos (r : Int) : 0 < (Lib.encodeRune r).length := by have := (rune_len r).1; omega
theorem idx_from (S : ByteArray) : ∀ (b a : List Int) (f : Nat), S.data.toList = enc (a ++ b) → AllChr b → b.length < f →
  Lib.idxFuncFrom pn false S f (enc a).length = if b.all bl = true then -1 else (((enc a).length + (enc (b.takeWhile bl)).length : Nat) : Int)
 | [], a, f, hS, _, _ => by
  rw [List.append_nil] at hS
  have hsz : S.size = (enc a).length := by rw [← dl, hS]
  rw [Lib.idxFuncFrom_end _ _ _ _ _ (by omega)]
  rfl
 | r :: b, a, f, hS, hC, hf => by
  obtain ⟨g, rfl⟩ : ∃ g, f = g + 1 := ⟨f - 1, by simp at hf; omega⟩
  have hr := hC r (by simp)
  have hd := dec_at a b r hr S hS
  have hsz : (enc a).length < S.size := by
   rw [← dl, hS, enc_app, List.length_append, enc_cons, List.length_append]
   have := rune_pos r
   omega
  rw [Lib.idxFuncFrom, if_pos hsz, hd]
  simp only [pn_bl r hr.1]
  cases hb : bl r with
  | false => simp [hb, enc]
  | true =>
   rw [if_neg (by simp)]
   have ih := idx_from S b (a ++ [r]) g (by rw [hS]; simp) (fun x hx => hC x (by simp [hx])) (by simp at hf; omega)
   rw [enc_app, enc_one, List.length_append] at ih
   rw [ih]
   simp only [List.all_cons, hb, Bool.true_and, List.takeWhile_cons, if_true, enc_cons, List.length_append]
   split
   ·rfl
   ·congr 1
    omega
theorem last_from (S : ByteArray) (m : List Int) : ∀ (n : Nat) (l : List Int) (f : Nat), l.length = n → S.data.toList = enc (l ++ m) → AllChr l → n < f →
  (l.all bl = true ∧ Lib.lastIdxFuncFrom pn false S f (enc l).length = -1) ∨ ∃ l1 r l2, l = l1 ++ r :: l2 ∧ bl r = false ∧ l2.all bl = true ∧ Lib.lastIdxFuncFrom pn false S f (enc l).length = ((enc l1).length : Int)
 | 0, l, f, hl, _, _, _ => by
  obtain rfl := List.eq_nil_of_length_eq_zero hl
  exact .inl ⟨rfl, Lib.lastIdxFuncFrom_zero _ _ _ _⟩
 | n + 1, l, f, hl, hS, hC, hf => by
  obtain ⟨g, rfl⟩ : ∃ g, f = g + 1 := ⟨f - 1, by omega⟩
  have hne : l ≠ [] := by rintro rfl; simp at hl
  obtain ⟨k, r, rfl⟩ : ∃ k r, l = k ++ [r] := ⟨_, _, (List.dropLast_concat_getLast hne).symm⟩
  have hr := hC r (by simp)
  have htk : S.data.toList.take (enc (k ++ [r])).length = enc k ++ Lib.encodeRune r := by rw [hS, enc_app (k ++ [r]), List.take_left, enc_app, enc_one]
  have hp : 0 < (enc (k ++ [r])).length := by rw [enc_app, List.length_append, enc_one]; have := rune_pos r; omega
  rw [Lib.lastIdxFuncFrom, if_pos hp, htk, decodeLast_enc r hr]
  simp only [pn_bl r hr.1]
  have hlen : (enc (k ++ [r])).length - (Lib.encodeRune r).length = (enc k).length := by rw [enc_app, List.length_append, enc_one]; omega
  rw [hlen]
  cases hb : bl r with
  | false =>
   rw [if_pos rfl]
   exact .inr ⟨k, r, [], rfl, hb, rfl, rfl⟩
  | true =>
   rw [if_neg (by simp)]
   simp at hl
   rcases last_from S ([r] ++ m) n k g hl (by rw [hS]; simp) (fun x hx => hC x (by simp [hx])) (by omega) with ⟨h1, h2⟩ | ⟨l1, q, l2, h1, h2, h3, h4⟩
   ·exact .inl ⟨by simp [h1, hb], h2⟩
   ·exact .inr ⟨l1, q, l2 ++ [r], by rw [h1]; simp, h2, by simp [h3, hb], h4⟩
def trI (l : List Int) : List Int := ((l.dropWhile bl).reverse.dropWhile bl).reverse
theorem dw_all {p : Int → Bool} {l : List Int} (h : l.all p = true) : l.dropWhile p = [] := by
 induction l with
 | nil => rfl
 | cons x l ih =>
  simp only [List.all_cons, Bool.and_eq_true] at h
  rw [List.dropWhile_cons, if_pos h.1]
  exact ih h.2
theorem dw_app {p : Int → Bool} {a : List Int} (b : List Int) (h : a.all p = true) : (a ++ b).dropWhile p = b.dropWhile p := by
 induction a with
 | nil => rfl
 | cons x l ih =>
  simp only [List.all_cons, Bool.and_eq_true] at h
  rw [List.cons_append, List.dropWhile_cons, if_pos h.1]
  exact ih h.2
theorem trR (l1 l2 : List Int) (r : Int) (h : bl r = false) (h2 : l2.all bl = true) : ((l1 ++ r :: l2).reverse.dropWhile bl).reverse = l1 ++ [r] := by
 rw [List.reverse_append, List.reverse_cons, List.append_assoc, dw_app _ (by simpa using h2), List.singleton_append, List.dropWhile_cons, h]
 simp
theorem tw_drop (l : List Int) : l = l.takeWhile bl ++ l.dropWhile bl := List.takeWhile_append_dropWhile.symm
theorem left_enc (l : List Int) (hC : AllChr l) : Lib.trimLeftF pn (strOf (enc l)) = strOf (enc (l.dropWhile bl)) := by
 have hf : l.length ≤ (enc l).length := (enc_len l).2
 have hsz : (strOf (enc l)).size = (enc l).length := size_strOf _
 unfold Lib.trimLeftF Lib.idxFunc
 by_cases hl : l = []
 ·subst hl
  rfl
 have hlt : 0 < l.length := List.length_pos_iff.2 hl
 have h := idx_from (strOf (enc l)) l [] ((strOf (enc l)).size + 1) rfl hC (by omega)
 have hmore : Lib.idxFuncFrom pn false (strOf (enc l)) (strOf (enc l)).size (enc []).length = Lib.idxFuncFrom pn false (strOf (enc l)) ((strOf (enc l)).size + 1) (enc []).length := idx_fuel (strOf (enc l)) l [] _ _ rfl hC (by omega) (by omega)
 rw [show (0 : Nat) = (enc []).length from rfl, hmore, h]
 by_cases ha : l.all bl = true
 ·rw [if_pos ha, if_pos rfl, dw_all ha]
  rfl
 ·rw [if_neg ha, if_neg (by omega)]
  apply ByteArray.ext
  apply Array.ext'
  show ((strOf (enc l)).extract _ _).data.toList = _
  rw [hsz]
  have e : ((((enc ([] : List Int)).length + (enc (l.takeWhile bl)).length : Nat) : Int)).toNat = (enc (l.takeWhile bl)).length := by rw [show (enc ([] : List Int)).length = 0 from rfl, Nat.zero_add, Int.toNat_natCast]
  rw [e]
  have hx : ((strOf (enc l)).extract (enc (l.takeWhile bl)).length (enc l).length).data.toList = (enc l).drop (enc (l.takeWhile bl)).length := by
   rw [ByteArray.data_extract]
   simp only [strOf, Array.toList_extract, List.extract_eq_take_drop]
   exact List.take_of_length_le (by rw [List.length_drop]; exact Nat.le_refl _)
  rw [hx]
  have hs : enc l = enc (l.takeWhile bl) ++ enc (l.dropWhile bl) := by rw [← enc_app, ← tw_drop]
  have hs2 := congrArg (List.drop (enc (l.takeWhile bl)).length) hs
  rw [List.drop_left] at hs2
  exact hs2
where
 idx_fuel (S : ByteArray) : ∀ (b a : List Int) (f g : Nat), S.data.toList = enc (a ++ b) → AllChr b → b.length ≤ f → b.length ≤ g → Lib.idxFuncFrom pn false S f (enc a).length = Lib.idxFuncFrom pn false S g (enc a).length
  | [], a, f, g, hS, _, _, _ => by
   rw [List.append_nil] at hS
   have hsz : S.size = (enc a).length := by rw [← dl, hS]
   rw [Lib.idxFuncFrom_end _ _ _ _ _ (by omega), Lib.idxFuncFrom_end _ _ _ _ _ (by omega)]
  | r :: b, a, f, g, hS, hC, hf, hg => by
   obtain ⟨f', rfl⟩ : ∃ g, f = g + 1 := ⟨f - 1, by simp at hf; omega⟩
   obtain ⟨g', rfl⟩ : ∃ f, g = f + 1 := ⟨g - 1, by simp at hg; omega⟩
   have hr := hC r (by simp)
   have hd := dec_at a b r hr S hS
   have ih := idx_fuel S b (a ++ [r]) f' g' (by rw [hS]; simp) (fun x hx => hC x (by simp [hx])) (by simp at hf; omega) (by simp at hg; omega)
   rw [enc_app, enc_one, List.length_append] at ih
   rw [Lib.idxFuncFrom, Lib.idxFuncFrom, hd, ih]
theorem right_enc (l : List Int) (hC : AllChr l) : Lib.trimRightF pn (strOf (enc l)) = strOf (enc (l.reverse.dropWhile bl).reverse) := by
 have hf : l.length ≤ (enc l).length := (enc_len l).2
 have hsz : (strOf (enc l)).size = (enc l).length := size_strOf _
 unfold Lib.trimRightF Lib.rightEndF Lib.lastIdxFunc
 have hx : ∀ k, ((strOf (enc l)).extract 0 k).data.toList = (enc l).take k := fun k => by
  rw [ByteArray.data_extract]
  simp [strOf, Array.toList_extract, List.extract_eq_take_drop]
 by_cases hl : l = []
 ·subst hl
  rfl
 have hfu := last_fuel (strOf (enc l)) [] l.length l (strOf (enc l)).size ((strOf (enc l)).size + 1) rfl (by rw [List.append_nil]; rfl) hC (by omega) (by omega)
 rw [← hsz] at hfu
 rw [hfu]
 rw [hsz]
 rcases last_from (strOf (enc l)) [] l.length l ((enc l).length + 1) rfl (by rw [List.append_nil]; rfl) hC (by omega) with ⟨h1, h2⟩ | ⟨l1, r, l2, h1, h2, h3, h4⟩
 ·rw [h2, if_neg (by omega)]
  apply ByteArray.ext
  apply Array.ext'
  rw [hx, List.take_zero, dw_all (by simpa using h1)]
  rfl
 ·rw [h4, if_pos (by omega)]
  have hr := hC r (by rw [h1]; simp)
  have hdd : Lib.decodeGoB ((strOf (enc l)).extract (enc l1).length (enc l).length) = (r.toNat, (Lib.encodeRune r).length) := by
   have he : ((strOf (enc l)).extract (enc l1).length (enc l).length).data.toList = Lib.encodeRune r ++ enc l2 := by
    rw [ByteArray.data_extract]
    simp only [strOf, Array.toList_extract, List.extract_eq_take_drop]
    rw [h1, enc_app, List.drop_left, enc_cons, List.take_of_length_le (by simp)]
   have hs2 : ((strOf (enc l)).extract (enc l1).length (enc l).length).size ≠ 0 := by
    rw [← dl, he, List.length_append]
    have := rune_pos r
    omega
   unfold Lib.decodeGoB
   rw [if_neg hs2, ← Lib.decodeL_drop, List.drop_zero, he]
   exact decodeL_enc r hr _
  have e : (((enc l1).length : Nat) : Int).toNat = (enc l1).length := by simp
  rw [e, hdd]
  apply ByteArray.ext
  apply Array.ext'
  rw [hx]
  have e2 : (l.reverse.dropWhile bl).reverse = l1 ++ [r] := by rw [h1]; exact trR l1 l2 r h2 h3
  rw [e2]
  show _ = enc (l1 ++ [r])
  conv => lhs; rw [h1]
  have e3 : enc (l1 ++ r :: l2) = enc (l1 ++ [r]) ++ enc l2 := by rw [← enc_app]; simp
  rw [e3]
  have e4 : (enc l1).length + (Lib.encodeRune r).length = (enc (l1 ++ [r])).length := by rw [enc_app, enc_one, List.length_append]
  rw [e4, List.take_left]
where
 last_fuel (S : ByteArray) (m : List Int) : ∀ (n : Nat) (l : List Int) (f g : Nat), l.length = n → S.data.toList = enc (l ++ m) → AllChr l → n ≤ f → n ≤ g → Lib.lastIdxFuncFrom pn false S f (enc l).length = Lib.lastIdxFuncFrom pn false S g (enc l).length
  | 0, l, f, g, hl, _, _, _, _ => by
   obtain rfl := List.eq_nil_of_length_eq_zero hl
   rw [show (enc ([] : List Int)).length = 0 from rfl, Lib.lastIdxFuncFrom_zero, Lib.lastIdxFuncFrom_zero]
  | n + 1, l, f, g, hl, hS, hC, hf, hg => by
   obtain ⟨f', rfl⟩ : ∃ g, f = g + 1 := ⟨f - 1, by omega⟩
   obtain ⟨g', rfl⟩ : ∃ f, g = f + 1 := ⟨g - 1, by omega⟩
   have hne : l ≠ [] := by rintro rfl; simp at hl
   obtain ⟨k, r, rfl⟩ : ∃ k r, l = k ++ [r] := ⟨_, _, (List.dropLast_concat_getLast hne).symm⟩
   have hr := hC r (by simp)
   simp at hl
   have htk : S.data.toList.take (enc (k ++ [r])).length = enc k ++ Lib.encodeRune r := by rw [hS, enc_app (k ++ [r]), List.take_left, enc_app, enc_one]
   have hlen : (enc (k ++ [r])).length - (Lib.encodeRune r).length = (enc k).length := by rw [enc_app, List.length_append, enc_one]; omega
   have ih := last_fuel S ([r] ++ m) n k f' g' hl (by rw [hS]; simp) (fun x hx => hC x (by simp [hx])) (by omega) (by omega)
   rw [Lib.lastIdxFuncFrom, Lib.lastIdxFuncFrom, htk, decodeLast_enc r hr]
   simp only [hlen, ih]
theorem chr_drop {l : List Int} (h : AllChr l) (p : Int → Bool) : AllChr (l.dropWhile p) := fun r hr => h r ((List.dropWhile_sublist p).subset hr)
theorem trim_enc (l : List Int) (hC : AllChr l) : Lib.trimF pn (strOf (enc l)) = strOf (enc (trI l)) := by
 unfold Lib.trimF trI
 rw [left_enc l hC, right_enc _ (chr_drop hC bl)]
def bk (r : Int) : Bool := decide (r = 9) || (decide (r = 10) || decide (r = 13))
def fz (r : Int) : Int := if bk r = true then -1 else r
theorem map_go : ∀ (l : List Int) (n : Nat), AllChr l → l.length ≤ n → Lib.mapGoD fz n (enc l) = enc (l.filter fun r => !bk r)
 | [], 0, _, _ => rfl
 | [], n + 1, _, _ => rfl
 | _ :: _, 0, _, h => by simp at h
 | r :: l, n + 1, hC, hn => by
  have hr := hC r (by simp)
  have hne : enc (r :: l) ≠ [] := by rw [enc_cons]; exact enc_ne r _
  have hd := decodeL_enc r hr (enc l)
  rw [← enc_cons] at hd
  rw [Lib.mapGoD, if_neg hne, hd]
  have e : ((r.toNat : Nat) : Int) = r := by have := hr.1; omega
  simp only [e]
  rw [enc_cons, List.drop_left, map_go l n (fun x hx => hC x (by simp [hx])) (by simp at hn; omega)]
  cases hb : bk r with
  | true =>
   have : fz r = -1 := by unfold fz; rw [hb]; rfl
   rw [this]
   simp [hb]
  | false =>
   have h2 : fz r = r := by unfold fz; rw [hb]; rfl
   rw [h2, if_pos hr.1]
   simp [hb, enc]
theorem map_enc (l : List Int) (hC : AllChr l) : Lib.mapD fz (enc l) = enc (l.filter fun r => !bk r) := map_go l _ hC (enc_len l).2
theorem low_u (r : Int) (h : Chr r) (h1 : r ≤ 127) : low32 (u r) = bl r ∧ brk (u r) = bk r := by
 have hn := un r h.1 (by omega)
 constructor
 ·unfold low32 bl
  congr 1
  rw [hn, eq_iff_iff]
  have := h.1
  omega
 ·have hk : ∀ k : UInt8, (k.toNat : Int) ≤ 127 → (decide (u r = k) = decide (r = (k.toNat : Int))) := fun k hk => by
   congr 1
   rw [eq_iff_iff]
   constructor
   ·intro e
    have := congrArg UInt8.toNat e
    rw [hn] at this
    have := h.1
    omega
   ·intro e
    apply UInt8.toNat_inj.1
    rw [hn]
    omega
  unfold brk bk
  rw [hk 9 (by decide), hk 10 (by decide), hk 13 (by decide)]
  rfl
theorem far_byte {c : UInt8} (h : 128 ≤ c.toNat) : low32 c = false ∧ brk c = false := by
 constructor
 ·unfold low32
  simp
  omega
 ·unfold brk
  have hk : ∀ k : UInt8, k.toNat < 128 → decide (c = k) = false := fun k hk => by
   rw [decide_eq_false_iff_not]
   rintro rfl
   omega
  rw [hk 9 (by decide), hk 10 (by decide), hk 13 (by decide)]
  rfl
theorem far_rune (r : Int) (h : Chr r) (h1 : 128 ≤ r) : ∀ c ∈ Lib.encodeRune r, 128 ≤ c.toNat := by
 rcases enc_ways r h with ⟨h2, _⟩ | ⟨_, a, b, e, ha, hb⟩ | ⟨_, a, b, c, e, ha, hb, hc⟩ | ⟨_, a, b, c, d, e, ha, hb, hc, hd⟩
 ·omega
 all_goals
  intro x hx
  rw [e] at hx
  simp only [List.mem_cons, List.not_mem_nil, or_false] at hx
 ·rcases hx with rfl | rfl <;> omega
 ·rcases hx with rfl | rfl | rfl <;> omega
 ·rcases hx with rfl | rfl | rfl | rfl <;> omega
theorem bl_far (r : Int) (h : 128 ≤ r) : bl r = false ∧ bk r = false := by
 constructor
 ·unfold bl; simp; omega
 ·unfold bk; simp; omega
theorem dw_enc : ∀ l : List Int, AllChr l → (enc l).dropWhile low32 = enc (l.dropWhile bl)
 | [], _ => rfl
 | r :: l, hC => by
  have hr := hC r (by simp)
  have ih := dw_enc l fun x hx => hC x (by simp [hx])
  by_cases h1 : r ≤ 127
  ·have e := enc1 r hr.1 h1
   have hb := (low_u r hr h1).1
   rw [enc_cons, e, List.singleton_append, List.dropWhile_cons, List.dropWhile_cons, hb, ih]
   split
   ·rfl
   ·rw [enc_cons, e]; rfl
  ·obtain ⟨c, t, e⟩ : ∃ c t, Lib.encodeRune r = c :: t := by
    cases e : Lib.encodeRune r with
    | nil => have := rune_pos r; rw [e] at this; simp at this
    | cons c t => exact ⟨c, t, rfl⟩
   have hc := far_rune r hr (by omega) c (by rw [e]; simp)
   rw [enc_cons, e, List.cons_append, List.dropWhile_cons, (far_byte hc).1, List.dropWhile_cons, (bl_far r (by omega)).1]
   simp only [Bool.false_eq_true, if_false]
   rw [enc_cons, e]
   rfl
theorem dw_enc_rev : ∀ (n : Nat) (l : List Int), l.length = n → AllChr l → ((enc l).reverse.dropWhile low32).reverse = enc (l.reverse.dropWhile bl).reverse
 | 0, l, hl, _ => by
  obtain rfl := List.eq_nil_of_length_eq_zero hl
  rfl
 | n + 1, l, hl, hC => by
  have hne : l ≠ [] := by rintro rfl; simp at hl
  obtain ⟨k, r, rfl⟩ : ∃ k r, l = k ++ [r] := ⟨_, _, (List.dropLast_concat_getLast hne).symm⟩
  simp at hl
  have hr := hC r (by simp)
  have ih := dw_enc_rev n k hl fun x hx => hC x (by simp [hx])
  rw [enc_app, enc_one, List.reverse_append, List.reverse_append]
  by_cases h1 : r ≤ 127
  ·have e := enc1 r hr.1 h1
   have hb := (low_u r hr h1).1
   rw [e]
   simp only [List.reverse_singleton, List.singleton_append, List.dropWhile_cons, hb]
   split
   ·exact ih
   ·simp [enc_app, enc_one, e]
  ·obtain ⟨t, c, e⟩ : ∃ t c, Lib.encodeRune r = t ++ [c] := by
    have hn : Lib.encodeRune r ≠ [] := by intro e; have := rune_pos r; rw [e] at this; simp at this
    exact ⟨_, _, (List.dropLast_concat_getLast hn).symm⟩
   have hc := far_rune r hr (by omega) c (by rw [e]; simp)
   rw [e]
   simp only [List.reverse_append, List.reverse_singleton, List.singleton_append, List.cons_append, List.dropWhile_cons, (far_byte hc).1, (bl_far r (by omega)).1, Bool.false_eq_true, if_false]
   simp [enc_app, enc_one, e]
theorem trm_enc (l : List Int) (hC : AllChr l) : trm (enc l) = enc (trI l) := by
 unfold trm trI
 rw [dw_enc l hC, dw_enc_rev _ _ rfl (chr_drop hC bl)]
theorem filter_enc : ∀ l : List Int, AllChr l → (enc l).filter (fun c => !brk c) = enc (l.filter fun r => !bk r)
 | [], _ => rfl
 | r :: l, hC => by
  have hr := hC r (by simp)
  rw [enc_cons, List.filter_append, filter_enc l fun x hx => hC x (by simp [hx])]
  by_cases h1 : r ≤ 127
  ·have e := enc1 r hr.1 h1
   have hb := (low_u r hr h1).2
   rw [e, List.filter_cons, hb, List.filter_cons]
   cases bk r <;> simp [enc, e]
  ·have hf : (Lib.encodeRune r).filter (fun c => !brk c) = Lib.encodeRune r := by
    refine List.filter_eq_self.2 fun c hc => ?_
    rw [(far_byte (far_rune r hr (by omega) c hc)).2]
    rfl
   rw [hf, List.filter_cons, (bl_far r (by omega)).2]
   simp [enc]
theorem chr_rev {l : List Int} (h : AllChr l) : AllChr l.reverse := fun r hr => h r (by simpa using hr)
theorem chr_trI {l : List Int} (h : AllChr l) : AllChr (trI l) := chr_rev (chr_drop (chr_rev (chr_drop h bl)) bl)
theorem clean_code (L : List UInt8) : Lib.mapD fz (Lib.trimF pn (strOf (enc (dec L)))).data.toList = clean L := by
 have hC : AllChr (dec L) := dec_chr L
 rw [trim_enc _ hC]
 show Lib.mapD fz (enc (trI (dec L))) = _
 rw [map_enc _ (chr_trI hC)]
 unfold clean
 rw [trm_enc _ hC, filter_enc _ (chr_trI hC)]
theorem clean_len (L : List UInt8) : (clean L).length ≤ 3 * L.length := by
 unfold clean
 refine Nat.le_trans (List.length_filter_le _ _) ?_
 have h1 : (trm (enc (dec L))).length ≤ (enc (dec L)).length := by
  unfold trm
  rw [List.length_reverse]
  refine Nat.le_trans (List.dropWhile_sublist _).length_le ?_
  rw [List.length_reverse]
  exact (List.dropWhile_sublist _).length_le
 exact Nat.le_trans h1 (enc_dec_len _ L (Nat.le_refl _))
where
 enc_dec_len : ∀ (n : Nat) (L : List UInt8), L.length ≤ n → (enc (dec L)).length ≤ 3 * L.length
  | _, [], _ => by simp [dec_nil, enc]
  | 0, _ :: _, h => by simp at h
  | n + 1, x :: t, h => by
   have hs := rd_size x t
   have he : (Lib.encodeRune (rd (x :: t)).1).length ≤ 3 * (rd (x :: t)).2.1.toNat := by
    cases hw : (rd (x :: t)).2.2
    ·rw [(rd_whole x t).2 hw]
     have : (Lib.encodeRune 65533).length = 3 := by decide
     omega
    ·rw [((rd_whole x t).1 hw).2, List.length_take]
     omega
   simp only [List.length_cons] at h
   have ih := enc_dec_len n ((x :: t).drop (rd (x :: t)).2.1.toNat) (by rw [List.length_drop, List.length_cons]; omega)
   rw [List.length_drop, List.length_cons] at ih
   rw [dec_cons, enc_cons, List.length_append, List.length_cons]
   omega
end Go.Proofs.YtegpfgccaminkaaGreatDoor.ClnP
namespace Go.Proofs.YtegpfgccaminkaaGreatDoor.PrsG
open Go.RowKit Base Base2 UtfR UtfE UtfP PrsP ClnP
def Utab (w : World) : Prop := Lib.Utf8Tabs 1 2 w
theorem Utab.below {w w' : World} (h : Utab w) (hb : Below w.heap.size w w') : Utab w' := Utf8Tabs_below h hb
theorem le_any (x : Int) (w : World) : Calls Tryz.prog 108 #[.int .i32 x] w fun e w' => e = .returned (.bool (decide (x ≤ 32))) ∧ w' = w := by
 go_enter Tryz.func108, Tryz.ntmps108
 go_wp2
 go_ret
 exact ⟨rfl, rfl⟩
theorem drop_any (x : Int) (w : World) : Calls Tryz.prog 110 #[.int .i32 x] w fun e w' => e = .returned (.int .i32 (fz x)) ∧ w' = w := by
 obtain ⟨y, hy⟩ : ∃ y, y = fz x := ⟨_, rfl⟩
 rw [← hy]
 have HY := hid hy
 clear hy
 by_cases h9 : x = 9
 ·subst h9
  go_enter Tryz.func110, Tryz.ntmps110
  go_wp2
  go_ret
  exact ⟨by rw [HY.out]; rfl, rfl⟩
 by_cases h10 : x = 10
 ·subst h10
  go_enter Tryz.func110, Tryz.ntmps110
  go_wp2
  go_ret
  exact ⟨by rw [HY.out]; rfl, rfl⟩
 by_cases h13 : x = 13
 ·subst h13
  go_enter Tryz.func110, Tryz.ntmps110
  go_wp2
  go_ret
  exact ⟨by rw [HY.out]; rfl, rfl⟩
 have q1 : (x == 9) = false := beq_eq_false_iff_ne.2 h9
 have q2 : (x == 10) = false := beq_eq_false_iff_ne.2 h10
 have q3 : (x == 13) = false := beq_eq_false_iff_ne.2 h13
 have HE : Hid (y = x) := by show _ = _; rw [HY.out]; simp [fz, bk, h9, h10, h13]
 go_enter Tryz.func110, Tryz.ntmps110
 go_wp2
 go_ret
 exact ⟨by rw [HE.out]; rfl, rfl⟩
theorem pred (w : World) : PredAt Tryz.prog 108 #[] encR pn w := fun W x _ => (le_any (x : Int) W).mono fun e w' ⟨h1, h2⟩ => ⟨by rw [h1]; unfold pn; congr 2; rw [decide_eq_decide]; omega, 0, h2⟩
theorem maps (w : World) : MapGrows Tryz.prog 110 #[] fz w := fun W x _ _ => (drop_any (x : Int) W).mono fun e w' ⟨h1, h2⟩ => ⟨h1, by rw [h2]; exact Below.refl _ _⟩
theorem trI_len (l : List Int) : (trI l).length ≤ l.length := by
 unfold trI
 rw [List.length_reverse]
 refine Nat.le_trans (List.dropWhile_sublist _).length_le ?_
 rw [List.length_reverse]
 exact (List.dropWhile_sublist _).length_le
set_option maxRecDepth 100000 in
set_option maxHeartbeats 4000000 in
theorem clean_any (T : List UInt8) (w : World) (hs : T.length ≤ 1000000) (hU : Utab w) : Calls Tryz.prog 71 #[.string (strOf T)] w fun e w' => e = .returned (.string (strOf (clean T))) ∧ Below w.heap.size w w' := by
 have hlen : (enc (dec T)).length ≤ 3 * T.length := clean_len.enc_dec_len _ T (Nat.le_refl _)
 have hdl : (dec T).length ≤ 3000000 := by have := (enc_len (dec T)).2; omega
 have hru : ∀ r ∈ dec T, Rune r := fun r hr => by have := dec_chr T r hr; unfold Chr at this; unfold Rune; omega
 have htl : (enc (trI (dec T))).length ≤ 12000000 := by have h1 := (enc_len (trI (dec T))).1; have h2 := trI_len (dec T); omega
 have hcc := clean_code T
 rw [trim_enc _ (dec_chr T)] at hcc
 have hT : ∀ w : World, Utab w → Calls Tryz.prog 107 #[.string (strOf (enc (dec T))), .func (.func 108) #[] #[]] w fun e w' => e = .returned (.string (strOf (enc (trI (dec T))))) ∧ Below w.heap.size w w' := fun w h => by
  have := Tryz.strings_TrimFunc 108 #[] (enters_of Tryz.func108 (by kernel_rfl) rfl) pn (strOf (enc (dec T))) w (by rw [size_strOf]; omega) h (pred w)
  rw [trim_enc _ (dec_chr T)] at this
  exact this
 have hM : ∀ w : World, Utab w → Calls Tryz.prog 109 #[.func (.func 110) #[] #[], .string (strOf (enc (trI (dec T))))] w fun e w' => e = .returned (.string (strOf (clean T))) ∧ Below w.heap.size w w' := fun w h => by
  have := Tryz.strings_Map 110 #[] (enters_of Tryz.func110 (by kernel_rfl) rfl) fz (strOf (enc (trI (dec T)))) w (by rw [size_strOf]; omega) (maps w) (fun x hx => by unfold fz; split <;> omega) h
  rw [hcc] at this
  exact this
 have HT := hid hT
 have HM := hid hM
 have HU := hid hU
 have HRU := hid hru
 clear hT hM hU hcc hru htl
 have hsz : (strOf T).size ≤ 1000000 := by rw [size_strOf]; exact hs
 have hcv := fun (w : World) s => run_bytes_of_string (P := Tryz.prog) w 9 39 5 s Tryz.underlying9 Tryz.underlying39 Tryz.underlying5
 have Hcap : Hid ((strOf T).size ≤ grownCap w (strOf T).size 0 5) := grownCap_ge w (strOf T).size 0 5
 go_enter Tryz.func71, Tryz.ntmps71
 go_wp2_with fail
 clear hcv
 refine (UtfR.decode_any _ (strOf T).size _ T _ (rds_made (strOf T) _ w 5) (by omega) Hcap.out).mono ?_
 rintro e w2 ⟨v, rfl, hown, hb2⟩
 have HB2 : Hid (Below w.heap.size w w2) := bel (((Below.refl w.heap.size w).alloc (Nat.le_refl _) _).drew) hb2
 clear hb2 Hcap
 obtain ⟨A, c, rfl, hc, hm, hr⟩ := owns_form hown
 have HR := hid hr
 clear hown hr
 go_wp2_with fail
 refine (UtfE.encode_any A _ c (dec T) _ HR.out HRU.out (by omega)).mono ?_
 rintro e w3 ⟨v, rfl, hown, hb3⟩
 have HB3 := hid (bel HB2.out hb3)
 clear hb3 HR
 obtain ⟨A3, c3, rfl, hc3, hm3, hr3⟩ := owns_form hown
 have hst := run_string_of 39 9 5 Tryz.underlying39 Tryz.underlying5 Tryz.underlying9 _ c3 hr3
 clear hown hr3
 go_wp2_with fail
 clear hst
 refine (HT.out _ (HU.out.below HB3.out)).mono ?_
 rintro e w4 ⟨rfl, hb4⟩
 have HB4 := hid (bel HB3.out hb4)
 clear hb4
 go_wp2_with fail
 refine (HM.out _ (HU.out.below HB4.out)).mono ?_
 rintro e w5 ⟨rfl, hb5⟩
 have HB5 := hid (bel HB4.out hb5)
 clear hb5
 go_wp2
 go_ret
 exact ⟨rfl, HB5.out⟩
end Go.Proofs.YtegpfgccaminkaaGreatDoor.PrsG
namespace Go.Proofs.YtegpfgccaminkaaGreatDoor.PrsR
open Go.RowKit Base Regs Base2 UtfA UtfL UrlA PrsP PrsA PrsQ PrsB Ubx Pbx PrsC PrsD HstC Spl ClnP PrsG PrsH
theorem apart_len (C : List UInt8) : (PrsP.apart C).rest.length ≤ C.length ∧ (PrsP.apart C).qry.length ≤ C.length ∧ (PrsP.apart C).frg.length ≤ C.length := by
 have h1 := cutB_len 35 C
 have h2 := cutB_len 63 (cutB 35 C).1
 have h3 := cutB_len 58 (cutB 63 (cutB 35 C).1).1
 unfold PrsP.apart
 simp only
 split
 ·refine ⟨?_, ?_, ?_⟩ <;> simp only <;> omega
 ·refine ⟨?_, ?_, ?_⟩ <;> simp only <;> omega
theorem finish_pth (u : U) (p : Parts) : (PrsP.finish u p).pth = u.pth := by
 cases h1 : p.hq <;> cases h2 : p.hf <;> simp [PrsP.finish, h1, h2]
theorem resI {fn : Func} {a b : Tmp} {w : World} {g : Nat} {u : U} {p : Value} (h : fn.results = #[.cell a 52, .tmp b]) (hU : UB w g u p) (z : Int) (tmps : Array Value) (h2 : tmps.getD a undef = .pointer (some ⟨g, 0, none⟩)) (h3 : tmps.getD b undef = .int .i64 z) :
  (results fn tmps).run Tryz.prog w = .ok (.tuple #[.agg (cells u p), .int .i64 z]) w := by
 have hp' : tmps[a]?.getD undef = .pointer (some ⟨g, 0, none⟩) := by simpa using h2
 have hq' : tmps[b]?.getD undef = .int .i64 z := by simpa using h3
 simp [results, h, hp', hq', asAddr, hU.load]
def AnsP (w : World) (o : Option U) (e : Ending) (w' : World) : Prop := Below w.heap.size w w' ∧ ∃ A n c, e = .returned (.tuple #[.agg (cells (o.getD U0) (.slice A n c)), .int .i64 (if o.isSome = true then 0 else 2)]) ∧ Own w w' (o.getD U0) A n c
end Go.Proofs.YtegpfgccaminkaaGreatDoor.PrsR
namespace Go.Proofs.YtegpfgccaminkaaGreatDoor.OpqC
open Go.RowKit Base Regs Base2 UtfA UtfL UrlA PrsP PrsA PrsQ PrsB Ubx Pbx PrsC PrsD HstC Spl ClnP PrsG PrsH PrsR OpqB
set_option maxRecDepth 100000 in
set_option maxHeartbeats 16000000 in
theorem parse_opq (T : List UInt8) (p : Parts) (w : World) (hp : p = PrsP.apart (clean T)) (hs : T.length ≤ 65536) (hs1 : p.sch ≠ FILE) (hsp : special p.sch = false) (h0 : p.sch ≠ []) (h47 : Lib.hasPrefix p.rest [47] = false) (h32 : Lib.hasSuffix (EscE.enc 0 p.rest) [32] = false) (hM : Max w) (hU : Utab w) : Calls Tryz.prog 45 #[.string (strOf T), .pointer none] w (AnsP w (some (PrsP.finish { U0 with sch := p.sch, port := -1, opq := true, txt := EscE.enc 0 p.rest } p))) := by
 have hcl := clean_len T
 obtain ⟨C, hC⟩ : ∃ x, x = clean T := ⟨_, rfl⟩
 rw [← hC] at hcl hp
 have hpl := apart_len C
 rw [← hp] at hpl
 obtain ⟨UV, hUV⟩ : ∃ x, x = ({ U0 with sch := p.sch, port := -1, opq := true, txt := EscE.enc 0 p.rest } : U) := ⟨_, rfl⟩
 rw [← hUV]
 obtain ⟨OU, hOU⟩ : ∃ x, x = some (PrsP.finish UV p) := ⟨_, rfl⟩
 rw [← hOU]
 have HCL : Hid (∀ w : World, Utab w → Calls Tryz.prog 71 #[.string (strOf T)] w fun e w' => e = .returned (.string (strOf C)) ∧ Below w.heap.size w w') := fun w h => by rw [hC]; exact clean_any T w (by omega) h
 have HAP : Hid (∀ w : World, Max w → Calls Tryz.prog 70 #[.string (strOf C)] w fun e w' => e = .returned (.agg (pcells p)) ∧ Below w.heap.size w w') := fun w h => by rw [hp]; exact apart_any C w (by omega) h
 have HRS : Hid (∀ w : World, Calls Tryz.prog 72 #[.agg (pcells p), .pointer none] w (AnsO w (some UV))) := fun w => by rw [hUV]; exact resolve_opq p w (by omega) hs1 hsp h0 h47 h32
 have HFI : Hid (∀ (u : U) (A : Option Addr) (n c : Nat) (w : World), Calls Tryz.prog 73 #[.agg (cells u (.slice A n c)), .agg (pcells p)] w fun e w' => e = .returned (.agg (cells (PrsP.finish u p) (.slice A n c))) ∧ Below w.heap.size w w') := fun u A n c w => finish_any u p A n c w (by omega) (by omega)
 have hTI : ¬ ((strOf T).size : Int) > 65536 := by rw [size_strOf]; omega
 have hTI2 : ((strOf T).size : Int) ≤ 65536 := by omega
 have HOU := hid hOU
 have HM := hid hM
 have HUT := hid hU
 clear hOU hp hC hM hU hpl hcl hs1 hsp h0 h47 h32 hUV
 obtain ⟨s, rt, q, f, hq, hf⟩ := p
 go_enter Tryz.func45, Tryz.ntmps45
 go_upto_region 1 with (fail)
 generalize hw : World.alloc w _ = w1
 have h1 : UB w1 (w.heap.size) (U0) (.slice none 0 0) ∧ Below w.heap.size w w1 := by
  subst hw
  exact laid1 w _ _
 clear hw
 have LE_r : Hid (w.heap.size ≤ w.heap.size) := (Below.refl w.heap.size w).size
 have HBw1 := hid (bel (Below.refl w.heap.size w) h1.2)
 have HXrw1 := hid h1.1
 clear h1
 go_wp2_with fail
 refine (HCL.out _ (HUT.out.below HBw1.out)).mono ?_
 rintro e w2 ⟨rfl, hbx⟩
 have HXrw2 := hid (HXrw1.out.below hbx)
 have HBw2 := hid (bel HBw1.out hbx)
 clear HXrw1 HBw1
 clear hbx
 go_wp2_with fail
 refine (HAP.out _ (HM.out.below HBw2.out)).mono ?_
 rintro e w3 ⟨rfl, hbx⟩
 have HXrw3 := hid (HXrw2.out.below hbx)
 have HBw3 := hid (bel HBw2.out hbx)
 clear HXrw2 HBw2
 clear hbx
 rw [show Value.agg (pcells ⟨s, rt, q, f, hq, hf⟩) = .agg #[.string (strOf s), .string (strOf rt), .string (strOf q), .string (strOf f), .bool hq, .bool hf] from rfl]
 go_upto_region 4 with (fail)
 generalize hw : World.alloc w3 _ = w4
 have h1 : PB w4 (w3.heap.size) (⟨s, rt, q, f, hq, hf⟩) ∧ Below w3.heap.size w3 w4 := by
  subst hw
  exact laid1 w3 _ _
 clear hw
 have hlr := HXrw3.out.lt
 have NE_r_p : Hid (w.heap.size ≠ w3.heap.size) := by show _ ≠ _; omega
 have NE_p_r : Hid (w3.heap.size ≠ w.heap.size) := by show _ ≠ _; omega
 clear hlr
 have LE_p : Hid (w.heap.size ≤ w3.heap.size) := HBw3.out.size
 have HXrw4 := hid (HXrw3.out.below h1.2)
 have HBw4 := hid (bel HBw3.out h1.2)
 have HXpw4 := hid h1.1
 clear HXrw3 HBw3
 clear h1
 obtain ⟨p0, p1, p2, p3, p4, p5⟩ := HXpw4.out.facts
 go_wp2_with fail
 clear p0 p1 p2 p3 p4 p5
 refine (HRS.out _).mono ?_
 rintro e w5 ⟨hbx, u', A', n', c', ok, rfl, hown, hoo⟩
 have HLr : Hid (w.heap.size < w4.heap.size) := HXrw4.out.lt
 have HOB : Hid (w.heap.size ≤ w4.heap.size) := HBw4.out.size
 have HXrw5 := hid (HXrw4.out.below hbx)
 have HXpw5 := hid (HXpw4.out.below hbx)
 have HBw5 := hid (bel HBw4.out hbx)
 have HOO := hid hoo
 have HWw5 := hid (show Own w4 w5 u' A' n' c' from hown)
 clear hoo hown
 clear HXrw4 HXpw4 HBw4
 clear hbx
 rw [show Value.agg (cells u' (.slice A' n' c')) = .agg #[.string (strOf u'.sch), .string (strOf u'.usr), .string (strOf u'.pwd), .string (strOf u'.hst), .bool u'.hh, .int .i64 u'.port, .bool u'.opq, .string (strOf u'.txt), .slice A' n' c', .bool u'.hq, .bool u'.hf, .string (strOf u'.qry), .string (strOf u'.frg)] from rfl]
 go_upto_region 5 with (fail)
 generalize hw : World.alloc w5 _ = w6
 have h1 : UB w6 (w5.heap.size) (u') (.slice A' n' c') ∧ Below w5.heap.size w5 w6 := by
  subst hw
  exact laid1 w5 _ _
 clear hw
 have hlr := HXrw5.out.lt
 have NE_r_u : Hid (w.heap.size ≠ w5.heap.size) := by show _ ≠ _; omega
 have NE_u_r : Hid (w5.heap.size ≠ w.heap.size) := by show _ ≠ _; omega
 clear hlr
 have hlp := HXpw5.out.lt
 have NE_p_u : Hid (w3.heap.size ≠ w5.heap.size) := by show _ ≠ _; omega
 have NE_u_p : Hid (w5.heap.size ≠ w3.heap.size) := by show _ ≠ _; omega
 clear hlp
 have LE_u : Hid (w.heap.size ≤ w5.heap.size) := HBw5.out.size
 have HXrw6 := hid (HXrw5.out.below h1.2)
 have HXpw6 := hid (HXpw5.out.below h1.2)
 have HBw6 := hid (bel HBw5.out h1.2)
 have HXuw6 := hid h1.1
 have HBU := hid h1.2
 clear HXrw5 HXpw5 HBw5
 clear h1
 obtain ⟨rfl, rfl⟩ : ok = true ∧ u' = UV := by
  rcases HOO.out with ⟨h1, h⟩ | ⟨h1, _⟩
  ·injection h1 with h1; exact ⟨h, h1.symm⟩
  ·cases h1
 have HSO := HOU
 have hfp : (PrsP.finish u' ⟨s, rt, q, f, hq, hf⟩).pth = u'.pth := finish_pth _ _
 obtain ⟨d0, d1, d2, d3, d4, d5, d6, d7, d8, d9, d10, d11, d12⟩ := HXuw6.out.facts
 obtain ⟨p0, p1, p2, p3, p4, p5⟩ := HXpw6.out.facts
 go_wp2_with fail
 clear d0 d1 d2 d3 d4 d5 d6 d7 d8 d9 d10 d11 d12
 clear p0 p1 p2 p3 p4 p5
 have HLW : Hid (Below w5.heap.size w5 w6) := HBU.out
 refine (HFI.out u' A' n' c' _).mono ?_
 rintro e w7 ⟨rfl, hbx⟩
 have HXrw7 := hid (HXrw6.out.below hbx)
 have HXpw7 := hid (HXpw6.out.below hbx)
 have HXuw7 := hid (HXuw6.out.below hbx)
 have HBw7 := hid (bel HBw6.out hbx)
 clear HXrw6 HXpw6 HXuw6 HBw6
 have HBX9 := hid hbx
 clear hbx
 have hwn := (HWw5.out.below HLW.out).below HBX9.out
 go_wp2_with (refine store_box HXrw7.out (PrsP.finish u' ⟨s, rt, q, f, hq, hf⟩) A' n' c' (.tmp 4) (.tmp 27) rfl rfl rfl rfl ?_)
 try simp only [Exit.inBlock, Exit.then]
 have ho := (hwn.row HLr.out (cells (PrsP.finish u' ⟨s, rt, q, f, hq, hf⟩) (.slice A' n' c'))).base HOB.out
 refine bodyPost_ret (w := World.setRow w7 w.heap.size (cells (PrsP.finish u' ⟨s, rt, q, f, hq, hf⟩) (.slice A' n' c'))) (resI (u := PrsP.finish u' ⟨s, rt, q, f, hq, hf⟩) (p := .slice A' n' c') rfl (HXrw7.out.row _ _) 0 _ rfl rfl) rfl ?_
 rw [HSO.out]
 exact ⟨below_setRow HBw7.out LE_r.out _, A', n', c', rfl, by show Own _ _ (PrsP.finish u' ⟨s, rt, q, f, hq, hf⟩) _ _ _; unfold Own; rw [hfp]; exact ho⟩
end Go.Proofs.YtegpfgccaminkaaGreatDoor.OpqC
namespace Go.Proofs.YtegpfgccaminkaaGreatDoor.EscP
open Go.RowKit Base EscI EscE UtfA
theorem enc_cons (k : Int) (c : UInt8) (L : List UInt8) : enc k (c :: L) = one k c ++ enc k L := by simp [enc]
theorem enc_fix (k : Int) (L : List UInt8) (h : ∀ c ∈ L, inS k c.toNat = false) : enc k L = L := by
 induction L with
 | nil => rfl
 | cons c L ih =>
  rw [enc_cons, ih (fun d hd => h d (by simp [hd]))]
  unfold one
  rw [h c (by simp)]
  rfl
end Go.Proofs.YtegpfgccaminkaaGreatDoor.EscP
namespace Go.Proofs.YtegpfgccaminkaaGreatDoor.HstQ
open Go.RowKit Base UtfA UtfL
theorem byteAll {p : UInt8 → Prop} [∀ c, Decidable (p c)] (h : ∀ n : Fin 256, p (UInt8.ofNat n.val)) (c : UInt8) : p c := by
 have := h ⟨c.toNat, c.toNat_lt⟩
 simpa using this
end Go.Proofs.YtegpfgccaminkaaGreatDoor.HstQ
namespace Go.Proofs.YtegpfgccaminkaaGreatDoor.PrsT
open Go.RowKit Base EscI UtfR UtfE UtfP ClnP UtfL UrlA PrsP
theorem rd_ascii (x : UInt8) (t : List UInt8) (h : x.toNat ≤ 127) : rd (x :: t) = ((x.toNat : Int), 1, true) := by
 simp only [rd]
 rw [if_pos (by omega)]
theorem dec_ascii (x : UInt8) (t : List UInt8) (h : x.toNat ≤ 127) : dec (x :: t) = (x.toNat : Int) :: dec t := by
 rw [dec_cons, rd_ascii x t h]
 rfl
theorem tail_stop (x : UInt8) (b : List UInt8) (hx : x.toNat ≤ 127) : ∀ (m k : Nat) (l h r : Int) (t : List UInt8), 128 ≤ l → tail m k l h r (t ++ x :: b) = tail m k l h r t
 | 0, _, _, _, _, _, _ => by simp [tail]
 | m + 1, k, l, h, r, [], hl => by
  simp only [List.nil_append, tail]
  rw [if_pos (by omega)]
 | m + 1, k, l, h, r, c :: t, hl => by
  simp only [List.cons_append, tail]
  split
  ·rfl
  ·exact tail_stop x b hx m (k + 1) 128 191 _ t (by omega)
theorem lo_ge (c : Int) (h1 : 194 ≤ c) (h2 : c ≤ 244) : 128 ≤ lo c := by unfold lo; (repeat' split) <;> omega
theorem rd_stop (y : UInt8) (t : List UInt8) (x : UInt8) (b : List UInt8) (hx : x.toNat ≤ 127) : rd (y :: t ++ x :: b) = rd (y :: t) := by
 simp only [List.cons_append, rd]
 by_cases h1 : (y.toNat : Int) ≤ 127
 ·rw [if_pos h1, if_pos h1]
 rw [if_neg h1, if_neg h1]
 by_cases h2 : (y.toNat : Int) ≤ 193 ∨ 245 ≤ (y.toNat : Int)
 ·rw [if_pos h2, if_pos h2]
 rw [if_neg h2, if_neg h2]
 have hl := lo_ge (y.toNat : Int) (by omega) (by omega)
 split
 ·exact tail_stop x b hx _ _ _ _ _ _ hl
 split
 ·exact tail_stop x b hx _ _ _ _ _ _ hl
 ·exact tail_stop x b hx _ _ _ _ _ _ hl
theorem dec_behind (x : UInt8) (b : List UInt8) (hx : x.toNat ≤ 127) : ∀ (n : Nat) (a : List UInt8), a.length ≤ n → dec (a ++ x :: b) = dec a ++ (x.toNat : Int) :: dec b
 | _, [], _ => by rw [List.nil_append, dec_ascii x b hx]; rfl
 | 0, _ :: _, h => by simp at h
 | n + 1, y :: t, hl => by
  have hs := rd_size y t
  have hd : (y :: t ++ x :: b).drop (rd (y :: t)).2.1.toNat = (y :: t).drop (rd (y :: t)).2.1.toNat ++ x :: b := by
   rw [List.drop_append_of_le_length]
   simp only [List.length_cons]; omega
  have e : dec (y :: t ++ x :: b) = (rd (y :: t)).1 :: dec ((y :: t).drop (rd (y :: t)).2.1.toNat ++ x :: b) := by
   rw [List.cons_append, dec_cons, ← List.cons_append, rd_stop y t x b hx, hd]
  rw [e, dec_behind x b hx n _ (by simp only [List.length_drop, List.length_cons] at hl ⊢; omega), dec_cons y t]
  rfl
theorem enc_ascii (x : UInt8) (h : x.toNat ≤ 127) : Lib.encodeRune (x.toNat : Int) = [x] := by
 rw [enc1 _ (by omega) (by omega), u_of]
def ED (L : List UInt8) : List UInt8 := enc (dec L)
theorem clean_ED (L : List UInt8) : clean L = (trm (ED L)).filter fun c => !brk c := rfl
theorem ED_behind (a : List UInt8) (x : UInt8) (b : List UInt8) (hx : x.toNat ≤ 127) : ED (a ++ x :: b) = ED a ++ x :: ED b := by
 unfold ED
 rw [dec_behind x b hx _ a (Nat.le_refl _), enc_app, enc_cons, enc_ascii x hx]
 rfl
theorem ED_nil : ED [] = [] := rfl
theorem ED_ascii : ∀ L : List UInt8, (∀ c ∈ L, c.toNat ≤ 127) → ED L = L
 | [], _ => rfl
 | x :: t, h => by
  have := ED_behind [] x t (h x (by simp))
  rw [List.nil_append, ED_nil, List.nil_append] at this
  rw [this, ED_ascii t (fun c hc => h c (by simp [hc]))]
theorem cutB_none (b : UInt8) : ∀ L : List UInt8, (∀ c ∈ L, c ≠ b) → cutB b L = (L, [], false)
 | [], _ => rfl
 | c :: L, h => by rw [cutB, if_neg (h c (by simp)), cutB_none b L (fun d hd => h d (by simp [hd]))]
theorem cutB_at (b : UInt8) : ∀ (L M : List UInt8), (∀ c ∈ L, c ≠ b) → cutB b (L ++ b :: M) = (L, M, true)
 | [], M, _ => by rw [List.nil_append, cutB, if_pos rfl]
 | c :: L, M, h => by rw [List.cons_append, cutB, if_neg (h c (by simp)), cutB_at b L M (fun d hd => h d (by simp [hd]))]
end Go.Proofs.YtegpfgccaminkaaGreatDoor.PrsT
namespace Go.Proofs.YtegpfgccaminkaaGreatDoor.PrsX
open Go.RowKit Base UtfA UtfL UrlA HstQ PrsP PrsT EscI
theorem suffix_snoc (L : List UInt8) (d c : UInt8) : Lib.hasSuffix (L ++ [d]) [c] = decide (d = c) := by
 rw [Bool.eq_iff_iff]
 unfold Lib.hasSuffix
 rw [List.isSuffixOf_iff_suffix, decide_eq_true_iff]
 constructor
 ·rintro ⟨t, e⟩
  exact (List.append_inj' e rfl).2 |> fun h => (List.cons.inj h).1.symm
 ·rintro rfl
  exact ⟨L, rfl⟩
theorem snoc_cases (L : List UInt8) : L = [] ∨ ∃ M d, L = M ++ [d] := by
 rcases List.eq_nil_or_concat L with h | ⟨M, d, h⟩
 ·exact .inl h
 ·exact .inr ⟨M, d, by simpa using h⟩
end Go.Proofs.YtegpfgccaminkaaGreatDoor.PrsX
namespace Go.Proofs.YtegpfgccaminkaaGreatDoor.PrsY
open Go.RowKit Base UtfA UtfL UrlA HstQ PrsP PrsT PrsX EscI
def HC (c : UInt8) : Prop := c ≠ 47 ∧ c ≠ 92 ∧ c ≠ 64 ∧ c ≠ 63 ∧ c ≠ 35 ∧ 33 ≤ c.toNat ∧ c.toNat ≤ 126
instance (c : UInt8) : Decidable (HC c) := by unfold HC; exact inferInstance
theorem clean_plain {T : List UInt8} (h : ∀ c ∈ T, 32 ≤ c.toNat ∧ c.toNat ≤ 126) (h1 : ∃ c t, T = c :: t ∧ low32 c = false) (h2 : Lib.hasSuffix T [32] = false) : clean T = T := by
 have e : ED T = T := ED_ascii T fun c hc => by have := (h c hc).2; omega
 have et : trm T = T := by
  obtain ⟨c, t, rfl, hc⟩ := h1
  unfold trm
  rw [List.dropWhile_cons_of_neg (by rw [hc]; simp)]
  rcases snoc_cases (c :: t) with hx | ⟨M, d, hx⟩
  ·cases hx
  ·rw [hx] at h h2 ⊢
   rw [suffix_snoc, decide_eq_false_iff_not] at h2
   have hd : low32 d = false := by
    have := (h d (by simp)).1
    unfold low32
    rw [decide_eq_false_iff_not]
    intro h3
    exact h2 (UInt8.toNat_inj.1 (by show d.toNat = 32; omega))
   rw [List.reverse_append]
   show ((d :: M.reverse).dropWhile low32).reverse = _
   rw [List.dropWhile_cons_of_neg (by rw [hd]; simp)]
   simp
 rw [clean_ED, e, et, List.filter_eq_self.2 fun c hc => ?_]
 have := (h c hc).1
 unfold brk
 have h9 : c ≠ 9 := by rintro rfl; revert this; decide
 have h10 : c ≠ 10 := by rintro rfl; revert this; decide
 have h13 : c ≠ 13 := by rintro rfl; revert this; decide
 simp [h9, h10, h13]
end Go.Proofs.YtegpfgccaminkaaGreatDoor.PrsY
namespace Go.Proofs.YtegpfgccaminkaaGreatDoor.OrgP
open Go.RowKit Base UtfA UtfL UrlA HstQ PrsP PrsT PrsX PrsY EscI
theorem in0 (c : UInt8) (h1 : 32 ≤ c.toNat) (h2 : c.toNat ≤ 126) : inS 0 c.toNat = false := byteAll (p := fun c => 32 ≤ c.toNat → c.toNat ≤ 126 → inS 0 c.toNat = false) (by decide +kernel) c h1 h2
def BLOB : List UInt8 := [98, 108, 111, 98]
end Go.Proofs.YtegpfgccaminkaaGreatDoor.OrgP
namespace Go.Proofs.YtegpfgccaminkaaGreatDoor.BldA
open Go.RowKit Base Base2
theorem sizeB : (Tryz.prog.info? 213).map (·.size) = some 2 := by kernel_rfl
theorem liesB : liesAt Tryz.prog Tryz.prog.depth 213 (2 / Tryz.prog.cellsOf 213) 0 213 1 = true := by kernel_rfl
abbrev IsB (B b : Nat) (l : List UInt8) (w : World) : Prop := Lib.IsBuilder 213 5 B b (Lib.byteCells l) w
set_option maxHeartbeats 1000000 in
set_option maxRecDepth 100000 in
theorem check_used (b : Nat) (w : World) (h0 : w.cell? ⟨b, 0, none⟩ = some (.pointer (some ⟨b, 0, none⟩))) :
  Calls Tryz.prog 188 #[.pointer (some ⟨b, 0, none⟩)] w fun e w' => e = .returned (.tuple #[]) ∧ w' = w := by
 obtain ⟨j, hj, _⟩ := Option.map_eq_some_iff.1 sizeB
 go_enter Tryz.func188, Tryz.ntmps188
 go_wp2
 rw [Lib.run_neq_ptr_same w _ Tryz.underlying211 hj]
 go_wp2
 go_end0
 exact ⟨rfl, rfl⟩
set_option maxHeartbeats 1000000 in
set_option maxRecDepth 100000 in
theorem check_fresh (b : Nat) (w : World) (h0 : w.cell? ⟨b, 0, none⟩ = some (.pointer none)) (hsh : w.shape? b = some (213, 2)) (hfz : w.frozen? ⟨b, 0, none⟩ = false) :
  Calls Tryz.prog 188 #[.pointer (some ⟨b, 0, none⟩)] w fun e w' => e = .returned (.tuple #[]) ∧ w' = w.setCell ⟨b, 0, none⟩ (.pointer (some ⟨b, 0, none⟩)) := by
 obtain ⟨j, hj, hjs⟩ := Option.map_eq_some_iff.1 sizeB
 go_enter Tryz.func188, Tryz.ntmps188
 go_wp2
 rw [Lib.run_to_unsafe w ⟨b, 0, none⟩ Tryz.underlying211 Tryz.underlying293 hj (by rw [hjs]; decide) hsh (Nat.zero_lt_succ 1)]
 simp only [Result.andThen]
 rw [Oper.upon_value]
 go_wp2
 rw [run_callFunc_extern Tryz.func234 (by kernel_rfl) (by kernel_rfl) (by kernel_rfl) (e := Extern.AbiNoEscape.same) (by kernel_rfl)]
 rw [Lib.run_noEscape]
 simp only [Result.andThen]
 rw [Oper.upon_value]
 go_wp2
 rw [Lib.run_from_unsafe w ⟨b, 0, none⟩ Tryz.underlying293 Tryz.underlying211 hj hsh liesB]
 simp only [Result.andThen]
 rw [Oper.upon_value]
 go_wp2
 go_end0
 exact ⟨rfl, rfl⟩
theorem check_any (B b : Nat) (bs : List Value) (w : World) (h : Lib.IsBuilder 213 5 B b bs w) :
  Calls Tryz.prog 188 #[.pointer (some ⟨b, 0, none⟩)] w fun e w' => e = .returned (.tuple #[]) ∧ (Lib.BuilderAt 213 5 B b (.pointer (some ⟨b, 0, none⟩)) bs w' ∧ Below B w w') := by
 rcases h with h | h
 ·refine (check_fresh b w h.cell0 h.shape h.frozen0).mono ?_
  rintro e w' ⟨rfl, rfl⟩
  exact ⟨rfl, h.used _, (Below.refl B w).setCell (p := ⟨b, 0, none⟩) h.1 _⟩
 ·refine (check_used b w h.cell0).mono ?_
  rintro e w' ⟨rfl, rfl⟩
  exact ⟨rfl, h, Below.refl B _⟩
set_option maxHeartbeats 2000000 in
set_option maxRecDepth 100000 in
theorem write_any (B b : Nat) (l : List UInt8) (s : ByteArray) (w : World) (h : IsB B b l w) (hlen : l.length + s.size ≤ 140737488355328) (hBw : B ≤ w.heap.size) :
  Calls Tryz.prog 121 #[.pointer (some ⟨b, 0, none⟩), .string s] w fun e w' => e = .returned (.tuple #[.int .i64 s.size, .nilIface]) ∧ IsB B b (l ++ s.data.toList) w' ∧ Below B w w' := by
 obtain ⟨i0, hi, hz0, hz1, hz2⟩ := info_parts info_u8
 have hlb : (Lib.byteCells l).length = l.length := by simp [Lib.byteCells]
 have HLB := Base.hid hlb
 clear hlb
 go_enter Tryz.func121, Tryz.ntmps121
 go_wp2_with (refine (check_any B b _ _ h).mono ?_)
 rintro e w1 ⟨rfl, h1, hb1⟩
 obtain ⟨hB, v, hbk, hown, hne⟩ := h1
 have c0 : w1.cell? ⟨b, 0, none⟩ = some (.pointer (some ⟨b, 0, none⟩)) := by rw [Lib.cell_of_heap hbk]; rfl
 have c1 : w1.cell? ⟨b, 1, none⟩ = some v := by rw [Lib.cell_of_heap hbk]; rfl
 go_wp2_with (at_builtin; refine Lib.wpList_append_own_string _ rfl _ _ 39 9 rfl B 5 i0 Tryz.underlying39 Tryz.underlying9 hi hz0 hz1 hz2 _ _ _ rfl hown s rfl ?c3 ?c4 ?c5 ?_)
 case c3 => have := HLB.out; unfold maxLen; omega
 case c4 => have := HLB.out; omega
 case c5 => have := hb1.size; omega
 intro v' w2 hown' hgrow _
 have hlt : b < w1.heap.size := (Array.getElem?_eq_some_iff.1 hbk).1
 have hb2 : w2.heap[b]? = some (.cells #[.pointer (some ⟨b, 0, none⟩), v] 213 (0, 0)) := by
  rw [hgrow.block b hlt (fun e => hne e.symm)]
  exact hbk
 have d0 : w2.cell? ⟨b, 0, none⟩ = some (.pointer (some ⟨b, 0, none⟩)) := by rw [Lib.cell_of_heap hb2]; rfl
 have d1 : w2.cell? ⟨b, 1, none⟩ = some v := by rw [Lib.cell_of_heap hb2]; rfl
 have f1 : w2.frozen? ⟨b, 1, none⟩ = false := Lib.frozen_of_heap hb2 1
 obtain ⟨ao, n', cap, rfl⟩ : ∃ ao n' cap, v' = .slice ao n' cap := by
  rcases hown'.2 with ⟨hv, _⟩ | ⟨g, cap, cur, hv, _⟩
  ·exact ⟨_, _, _, hv⟩
  ·exact ⟨_, _, _, hv⟩
 go_wp2
 go_ret2
 refine ⟨rfl, Or.inr ?_, ?_⟩
 ·have hp := Lib.BuilderAt.put (T := 213) (e := 5) hB hb2 (bs' := Lib.byteCells l ++ Lib.strCells s) (by simpa [Lib.strCells_length] using hown') (by decide)
  have e : Lib.byteCells (l ++ s.data.toList) = Lib.byteCells l ++ Lib.strCells s := by simp [Lib.byteCells, Lib.strCells]
  rw [e]
  exact hp
 ·exact (hb1.grown hgrow (by have := hb1.size; omega) (fun k hk => (hown.lt k hk).1)).setCell (p := ⟨b, 1, none⟩) hB _
end Go.Proofs.YtegpfgccaminkaaGreatDoor.BldA
