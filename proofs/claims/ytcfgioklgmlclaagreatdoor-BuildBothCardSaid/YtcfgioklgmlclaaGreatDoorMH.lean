/- Texts that belong together: XZ, J8, uw, Shs. -/
import Derived.Test.YtcfgioklgmlclaaGreatDoorM1
import Derived.Test.YtcfgioklgmlclaaGreatDoorME
import Derived.Lib.TrimUEq
import Derived.Lib.SpaceUEq
import Derived.Lib.TrimAscii
import Derived.Lib.MapU
import Derived.Shelf.GgClosure.StringsTrimFunc
import Derived.Test.YtcfgioklgmlclaaGreatDoorMG
import Derived.Test.YtcfgioklgmlclaaGreatDoorMA
import Derived.Test.YtcfgioklgmlclaaGreatDoorShelf
import Derived.Test.YtcfgioklgmlclaaGreatDoorShelf2
import Derived.Lib.LaidU8
import Derived.Test.YtcfgioklgmlclaaGreatDoorMB
import Derived.Handed
import Derived.HandedShaped
import Derived.Shelf.Vars
set_option linter.unusedSimpArgs false
set_option linter.unusedVariables false
set_option maxRecDepth 100000
set_option maxHeartbeats 64000000
namespace Go.Proofs.YtcfgioklgmlclaaGreatDoor.XZ
open Go.RowKit Base uy xw Uw aH
theorem un (x : Int) (h0 : 0 ≤ x) (h1 : x ≤ 255) : (u x).toNat = x.toNat := by have := iW x h0 h1; omega
theorem QX (r : Int) (h : xM r) : (r ≤ 127 ∧ Lib.encodeRune r = [u r]) ∨ (128 ≤ r ∧ ∃ a b : UInt8, Lib.encodeRune r = [a, b] ∧ 192 ≤ a.toNat ∧ b.toNat / 64 = 2) ∨
  (128 ≤ r ∧ ∃ a b c : UInt8, Lib.encodeRune r = [a, b, c] ∧ 192 ≤ a.toNat ∧ b.toNat / 64 = 2 ∧ c.toNat / 64 = 2) ∨ (128 ≤ r ∧ ∃ a b c d : UInt8, Lib.encodeRune r = [a, b, c, d] ∧ 192 ≤ a.toNat ∧ b.toNat / 64 = 2 ∧ c.toNat / 64 = 2 ∧ d.toNat / 64 = 2) := by
 obtain ⟨h0, h1, h2⟩ := h
 by_cases a : r ≤ 127
 ·exact .inl ⟨a, enc1 r h0 a⟩
 by_cases b : r ≤ 2047
 ·refine .inr (.inl ⟨by omega, _, _, enc2 r (by omega) b, ?_, ?_⟩)
  ·rw [un _ (by omega) (by omega)]; omega
  ·rw [un _ (by omega) (by omega)]; omega
 by_cases c : r ≤ 65535
 ·refine .inr (.inr (.inl ⟨by omega, _, _, _, enc3 r (by omega), ?_, ?_, ?_⟩))
  ·rw [un _ (by omega) (by omega)]; omega
  ·rw [un _ (by omega) (by omega)]; omega
  ·rw [un _ (by omega) (by omega)]; omega
 ·refine .inr (.inr (.inr ⟨by omega, _, _, _, _, enc4 r (by omega) h1, ?_, ?_, ?_, ?_⟩))
  ·rw [un _ (by omega) (by omega)]; omega
  ·rw [un _ (by omega) (by omega)]; omega
  ·rw [un _ (by omega) (by omega)]; omega
  ·rw [un _ (by omega) (by omega)]; omega
theorem yB (r : Int) (h : xM r) (t : List UInt8) : Lib.decodeN (Lib.encodeRune r ++ t).length ((Lib.encodeRune r ++ t).getD 0 0).toNat ((Lib.encodeRune r ++ t).getD 1 0).toNat ((Lib.encodeRune r ++ t).getD 2 0).toNat ((Lib.encodeRune r ++ t).getD 3 0).toNat = (r.toNat, (Lib.encodeRune r).length) := by
 obtain ⟨h0, h1, h2⟩ := h
 by_cases a : r ≤ 127
 ·rw [enc1 r h0 a]
  simp only [List.cons_append, List.nil_append, List.getD_cons_zero, un r h0 (by omega), Lib.decodeN]
  rw [if_pos (by omega)]
  rfl
 by_cases b : r ≤ 2047
 ·rw [enc2 r (by omega) b]
  simp only [List.cons_append, List.nil_append, List.getD_cons_zero, List.getD_cons_succ, un (192 + r / 64) (by omega) (by omega), un (128 + r % 64) (by omega) (by omega), Lib.decodeN, List.length_cons, List.length_nil]
  rw [if_neg (by omega), if_pos (by omega), if_pos (by omega)]
  refine Prod.ext ?_ rfl
  simp only
  omega
 by_cases c : r ≤ 65535
 ·rw [enc3 r (by omega)]
  simp only [List.cons_append, List.nil_append, List.getD_cons_zero, List.getD_cons_succ, un (224 + r / 4096) (by omega) (by omega), un (128 + r / 64 % 64) (by omega) (by omega), un (128 + r % 64) (by omega) (by omega), Lib.decodeN, List.length_cons, List.length_nil]
  rw [if_neg (by omega), if_neg (by omega), if_pos (by omega), if_pos (by omega)]
  refine Prod.ext ?_ rfl
  simp only
  omega
 ·rw [enc4 r (by omega) h1]
  simp only [List.cons_append, List.nil_append, List.getD_cons_zero, List.getD_cons_succ, un (240 + r / 262144) (by omega) (by omega), un (128 + r / 4096 % 64) (by omega) (by omega), un (128 + r / 64 % 64) (by omega) (by omega), un (128 + r % 64) (by omega) (by omega), Lib.decodeN, List.length_cons, List.length_nil]
  rw [if_neg (by omega), if_neg (by omega), if_neg (by omega), if_pos (by omega), if_pos (by omega)]
  refine Prod.ext ?_ rfl
  simp only
  omega
theorem rX (r : Int) (h : xM r) (t : List UInt8) : Lib.decodeL (Lib.encodeRune r ++ t) = (r.toNat, (Lib.encodeRune r).length) := by rw [Lib.decodeL_N]; exact yB r h t
theorem last4 (t : List UInt8) (c0 c1 c2 c3 : UInt8) (h3 : 128 ≤ c3.toNat) (h2 : Lib.runeStartB c2 = false) (h1 : Lib.runeStartB c1 = false) (h0 : Lib.runeStartB c0 = true) (hd : (Lib.decodeL [c0, c1, c2, c3]).2 = 4) : Lib.decodeLastL (t ++ [c0, c1, c2, c3]) = Lib.decodeL [c0, c1, c2, c3] := by
 have g1 := Lib.getD_app_end t [c0, c1, c2, c3] 1 (by omega) (by simp)
 have g2 := Lib.getD_app_end t [c0, c1, c2, c3] 2 (by omega) (by simp)
 have g3 := Lib.getD_app_end t [c0, c1, c2, c3] 3 (by omega) (by simp)
 have g4 := Lib.getD_app_end t [c0, c1, c2, c3] 4 (by omega) (by simp)
 have hl : (t ++ [c0, c1, c2, c3]).length = t.length + 4 := by simp
 have hs : Lib.lastStart (t ++ [c0, c1, c2, c3]) = (t ++ [c0, c1, c2, c3]).length - 4 := by
  unfold Lib.lastStart
  simp only [g2, g3, g4]
  rw [if_neg (by omega)]
  simp only [List.length_cons, List.length_nil, List.getD_cons_succ, List.getD_cons_zero, Nat.reduceAdd, Nat.reduceSub, h2, h1, h0, Bool.false_eq_true, if_false, if_true]
  rw [if_neg (by omega), if_neg (by omega)]
 have hdrop := Lib.drop_app_end t [c0, c1, c2, c3]
 unfold Lib.decodeLastL
 rw [if_neg (by simp), g1, if_neg (by simp; omega), hs]
 simp only [List.length_cons, List.length_nil] at hdrop
 simp only [hdrop, hd]
 rw [if_pos (by omega)]
theorem JA {c : UInt8} (h : c.toNat / 64 = 2) : Lib.runeStartB c = false := by unfold Lib.runeStartB; rw [h]; rfl
theorem EX {c : UInt8} (h : 192 ≤ c.toNat) : Lib.runeStartB c = true := by
 unfold Lib.runeStartB
 have := c.toNat_lt
 have h2 : c.toNat / 64 ≠ 2 := by omega
 simpa using h2
theorem yA (r : Int) (h : xM r) (t : List UInt8) : Lib.decodeLastL (t ++ Lib.encodeRune r) = (r.toNat, (Lib.encodeRune r).length) := by
 have hd := rX r h []
 rw [List.append_nil] at hd
 rcases QX r h with ⟨h1, e⟩ | ⟨_, a, b, e, ha, hb⟩ | ⟨_, a, b, c, e, ha, hb, hc⟩ | ⟨_, a, b, c, d, e, ha, hb, hc, hdd⟩
 ·rw [e] at hd ⊢
  rw [Lib.decodeLastL_ascii t _ (by rw [un r h.1 (by omega)]; have := h.1; omega), un r h.1 (by omega)]
  rfl
 ·rw [e] at hd ⊢
  rw [Lib.last2 t a b (by omega) (EX ha) (by rw [hd]; rfl), hd]
 ·rw [e] at hd ⊢
  rw [Lib.last3 t a b c (by omega) (JA hb) (EX ha) (by rw [hd]; rfl), hd]
 ·rw [e] at hd ⊢
  rw [last4 t a b c d (by omega) (JA hc) (JA hb) (EX ha) (by rw [hd]; rfl), hd]
def jf (l : List Int) : Prop := ∀ r ∈ l, xM r
theorem gY (a b : List Int) : enc (a ++ b) = enc a ++ enc b := by simp [enc]
theorem ni (r : Int) : enc [r] = Lib.encodeRune r := by simp [enc]
theorem dl (s : ByteArray) : s.data.toList.length = s.size := Array.length_toList
theorem abu (a b : List Int) (r : Int) (h : xM r) (S : ByteArray) (hS : S.data.toList = enc (a ++ r :: b)) : Utf8.decode S (enc a).length = (r.toNat, (Lib.encodeRune r).length) := by
 rw [← Lib.decodeL_drop, hS, gY, List.drop_left, dW]
 exact rX r h _
def bl (r : Int) : Bool := decide (r ≤ 32)
def pn (r : Nat) : Bool := decide (r ≤ 32)
theorem pn_bl (r : Int) (h : 0 ≤ r) : pn r.toNat = bl r := by unfold pn bl; congr 1; rw [eq_iff_iff]; omega
theorem yU (r : Int) : 0 < (Lib.encodeRune r).length := by have := (D5 r).1; omega
theorem Rt (S : ByteArray) : ∀ (b a : List Int) (f : Nat), S.data.toList = enc (a ++ b) → jf b → b.length < f →
  Lib.idxFuncFrom pn false S f (enc a).length = if b.all bl = true then -1 else (((enc a).length + (enc (b.takeWhile bl)).length : Nat) : Int)
 | [], a, f, hS, _, _ => by
  rw [List.append_nil] at hS
  have hsz : S.size = (enc a).length := by rw [← dl, hS]
  rw [Lib.idxFuncFrom_end _ _ _ _ _ (by omega)]
  rfl
 | r :: b, a, f, hS, hC, hf => by
  obtain ⟨g, rfl⟩ : ∃ g, f = g + 1 := ⟨f - 1, by simp at hf; omega⟩
  have hr := hC r (by simp)
  have hd := abu a b r hr S hS
  have hsz : (enc a).length < S.size := by
   rw [← dl, hS, gY, List.length_append, dW, List.length_append]
   have := yU r
   omega
  rw [Lib.idxFuncFrom, if_pos hsz, hd]
  simp only [pn_bl r hr.1]
  cases hb : bl r with
  | false => simp [hb, enc]
  | true =>
   rw [if_neg (by simp)]
   have ih := Rt S b (a ++ [r]) g (by rw [hS]; simp) (fun x hx => hC x (by simp [hx])) (by simp at hf; omega)
   rw [gY, ni, List.length_append] at ih
   rw [ih]
   simp only [List.all_cons, hb, Bool.true_and, List.takeWhile_cons, if_true, dW, List.length_append]
   split
   ·rfl
   ·congr 1
    omega
theorem LH (S : ByteArray) (m : List Int) : ∀ (n : Nat) (l : List Int) (f : Nat), l.length = n → S.data.toList = enc (l ++ m) → jf l → n < f →
  (l.all bl = true ∧ Lib.lastIdxFuncFrom pn false S f (enc l).length = -1) ∨ ∃ l1 r l2, l = l1 ++ r :: l2 ∧ bl r = false ∧ l2.all bl = true ∧ Lib.lastIdxFuncFrom pn false S f (enc l).length = ((enc l1).length : Int)
 | 0, l, f, hl, _, _, _ => by
  obtain rfl := List.eq_nil_of_length_eq_zero hl
  exact .inl ⟨rfl, Lib.lastIdxFuncFrom_zero _ _ _ _⟩
 | n + 1, l, f, hl, hS, hC, hf => by
  obtain ⟨g, rfl⟩ : ∃ g, f = g + 1 := ⟨f - 1, by omega⟩
  have hne : l ≠ [] := by rintro rfl; simp at hl
  obtain ⟨k, r, rfl⟩ : ∃ k r, l = k ++ [r] := ⟨_, _, (List.dropLast_concat_getLast hne).symm⟩
  have hr := hC r (by simp)
  have htk : S.data.toList.take (enc (k ++ [r])).length = enc k ++ Lib.encodeRune r := by rw [hS, gY (k ++ [r]), List.take_left, gY, ni]
  have hp : 0 < (enc (k ++ [r])).length := by rw [gY, List.length_append, ni]; have := yU r; omega
  rw [Lib.lastIdxFuncFrom, if_pos hp, htk, yA r hr]
  simp only [pn_bl r hr.1]
  have hlen : (enc (k ++ [r])).length - (Lib.encodeRune r).length = (enc k).length := by rw [gY, List.length_append, ni]; omega
  rw [hlen]
  cases hb : bl r with
  | false =>
   rw [if_pos rfl]
   exact .inr ⟨k, r, [], rfl, hb, rfl, rfl⟩
  | true =>
   rw [if_neg (by simp)]
   simp at hl
   rcases LH S ([r] ++ m) n k g hl (by rw [hS]; simp) (fun x hx => hC x (by simp [hx])) (by omega) with ⟨h1, h2⟩ | ⟨l1, q, l2, h1, h2, h3, h4⟩
   ·exact .inl ⟨by simp [h1, hb], h2⟩
   ·exact .inr ⟨l1, q, l2 ++ [r], by rw [h1]; simp, h2, by simp [h3, hb], h4⟩
def ZW (l : List Int) : List Int := ((l.dropWhile bl).reverse.dropWhile bl).reverse
theorem abA {p : Int → Bool} {l : List Int} (h : l.all p = true) : l.dropWhile p = [] := by
 induction l with
 | nil => rfl
 | cons x l ih =>
  simp only [List.all_cons, Bool.and_eq_true] at h
  rw [List.dropWhile_cons, if_pos h.1]
  exact ih h.2
theorem dw_app {p : Int → Bool} {a : List Int} (b : List Int) (h : a.all p = true) : (a ++ b).dropWhile p = b.dropWhile p := by
 induction a with
 | nil => rfl
 | cons x l ih =>
  simp only [List.all_cons, Bool.and_eq_true] at h
  rw [List.cons_append, List.dropWhile_cons, if_pos h.1]
  exact ih h.2
theorem trR (l1 l2 : List Int) (r : Int) (h : bl r = false) (h2 : l2.all bl = true) : ((l1 ++ r :: l2).reverse.dropWhile bl).reverse = l1 ++ [r] := by
 rw [List.reverse_append, List.reverse_cons, List.append_assoc, dw_app _ (by simpa using h2), List.singleton_append, List.dropWhile_cons, h]
 simp
theorem XR (l : List Int) : l = l.takeWhile bl ++ l.dropWhile bl := List.takeWhile_append_dropWhile.symm
theorem acU (l : List Int) (hC : jf l) : Lib.trimLeftF pn (strOf (enc l)) = strOf (enc (l.dropWhile bl)) := by
 have hf : l.length ≤ (enc l).length := (iL l).2
 have hsz : (strOf (enc l)).size = (enc l).length := ah _
 unfold Lib.trimLeftF Lib.idxFunc
 by_cases hl : l = []
 ·subst hl
  rfl
 have hlt : 0 < l.length := List.length_pos_iff.2 hl
 have h := Rt (strOf (enc l)) l [] ((strOf (enc l)).size + 1) rfl hC (by omega)
 have hmore : Lib.idxFuncFrom pn false (strOf (enc l)) (strOf (enc l)).size (enc []).length = Lib.idxFuncFrom pn false (strOf (enc l)) ((strOf (enc l)).size + 1) (enc []).length := Ru (strOf (enc l)) l [] _ _ rfl hC (by omega) (by omega)
 rw [show (0 : Nat) = (enc []).length from rfl, hmore, h]
 by_cases ha : l.all bl = true
 ·rw [if_pos ha, if_pos rfl, abA ha]
  rfl
 ·rw [if_neg ha, if_neg (by omega)]
  apply ByteArray.ext
  apply Array.ext'
  show ((strOf (enc l)).extract _ _).data.toList = _
  rw [hsz]
  have e : ((((enc ([] : List Int)).length + (enc (l.takeWhile bl)).length : Nat) : Int)).toNat = (enc (l.takeWhile bl)).length := by rw [show (enc ([] : List Int)).length = 0 from rfl, Nat.zero_add, Int.toNat_natCast]
  rw [e]
  have hx : ((strOf (enc l)).extract (enc (l.takeWhile bl)).length (enc l).length).data.toList = (enc l).drop (enc (l.takeWhile bl)).length := by
   rw [ByteArray.data_extract]
   simp only [strOf, Array.toList_extract, List.extract_eq_take_drop]
   exact List.take_of_length_le (by rw [List.length_drop]; exact Nat.le_refl _)
  rw [hx]
  have hs : enc l = enc (l.takeWhile bl) ++ enc (l.dropWhile bl) := by rw [← gY, ← XR]
  have hs2 := congrArg (List.drop (enc (l.takeWhile bl)).length) hs
  rw [List.drop_left] at hs2
  exact hs2
where
 Ru (S : ByteArray) : ∀ (b a : List Int) (f g : Nat), S.data.toList = enc (a ++ b) → jf b → b.length ≤ f → b.length ≤ g → Lib.idxFuncFrom pn false S f (enc a).length = Lib.idxFuncFrom pn false S g (enc a).length
  | [], a, f, g, hS, _, _, _ => by
   rw [List.append_nil] at hS
   have hsz : S.size = (enc a).length := by rw [← dl, hS]
   rw [Lib.idxFuncFrom_end _ _ _ _ _ (by omega), Lib.idxFuncFrom_end _ _ _ _ _ (by omega)]
  | r :: b, a, f, g, hS, hC, hf, hg => by
   obtain ⟨f', rfl⟩ : ∃ g, f = g + 1 := ⟨f - 1, by simp at hf; omega⟩
   obtain ⟨g', rfl⟩ : ∃ f, g = f + 1 := ⟨g - 1, by simp at hg; omega⟩
   have hr := hC r (by simp)
   have hd := abu a b r hr S hS
   have ih := Ru S b (a ++ [r]) f' g' (by rw [hS]; simp) (fun x hx => hC x (by simp [hx])) (by simp at hf; omega) (by simp at hg; omega)
   rw [gY, ni, List.length_append] at ih
   rw [Lib.idxFuncFrom, Lib.idxFuncFrom, hd, ih]
theorem ZH (l : List Int) (hC : jf l) : Lib.trimRightF pn (strOf (enc l)) = strOf (enc (l.reverse.dropWhile bl).reverse) := by
 have hf : l.length ≤ (enc l).length := (iL l).2
 have hsz : (strOf (enc l)).size = (enc l).length := ah _
 unfold Lib.trimRightF Lib.rightEndF Lib.lastIdxFunc
 have hx : ∀ k, ((strOf (enc l)).extract 0 k).data.toList = (enc l).take k := fun k => by
  rw [ByteArray.data_extract]
  simp [strOf, Array.toList_extract, List.extract_eq_take_drop]
 by_cases hl : l = []
 ·subst hl
  rfl
 have hfu := LJ (strOf (enc l)) [] l.length l (strOf (enc l)).size ((strOf (enc l)).size + 1) rfl (by rw [List.append_nil]; rfl) hC (by omega) (by omega)
 rw [← hsz] at hfu
 rw [hfu]
 rw [hsz]
 rcases LH (strOf (enc l)) [] l.length l ((enc l).length + 1) rfl (by rw [List.append_nil]; rfl) hC (by omega) with ⟨h1, h2⟩ | ⟨l1, r, l2, h1, h2, h3, h4⟩
 ·rw [h2, if_neg (by omega)]
  apply ByteArray.ext
  apply Array.ext'
  rw [hx, List.take_zero, abA (by simpa using h1)]
  rfl
 ·rw [h4, if_pos (by omega)]
  have hr := hC r (by rw [h1]; simp)
  have hdd : Lib.decodeGoB ((strOf (enc l)).extract (enc l1).length (enc l).length) = (r.toNat, (Lib.encodeRune r).length) := by
   have he : ((strOf (enc l)).extract (enc l1).length (enc l).length).data.toList = Lib.encodeRune r ++ enc l2 := by
    rw [ByteArray.data_extract]
    simp only [strOf, Array.toList_extract, List.extract_eq_take_drop]
    rw [h1, gY, List.drop_left, dW, List.take_of_length_le (by simp)]
   have hs2 : ((strOf (enc l)).extract (enc l1).length (enc l).length).size ≠ 0 := by
    rw [← dl, he, List.length_append]
    have := yU r
    omega
   unfold Lib.decodeGoB
   rw [if_neg hs2, ← Lib.decodeL_drop, List.drop_zero, he]
   exact rX r hr _
  have e : (((enc l1).length : Nat) : Int).toNat = (enc l1).length := by simp
  rw [e, hdd]
  apply ByteArray.ext
  apply Array.ext'
  rw [hx]
  have e2 : (l.reverse.dropWhile bl).reverse = l1 ++ [r] := by rw [h1]; exact trR l1 l2 r h2 h3
  rw [e2]
  show _ = enc (l1 ++ [r])
  conv => lhs; rw [h1]
  have e3 : enc (l1 ++ r :: l2) = enc (l1 ++ [r]) ++ enc l2 := by rw [← gY]; simp
  rw [e3]
  have e4 : (enc l1).length + (Lib.encodeRune r).length = (enc (l1 ++ [r])).length := by rw [gY, ni, List.length_append]
  rw [e4, List.take_left]
where
 LJ (S : ByteArray) (m : List Int) : ∀ (n : Nat) (l : List Int) (f g : Nat), l.length = n → S.data.toList = enc (l ++ m) → jf l → n ≤ f → n ≤ g → Lib.lastIdxFuncFrom pn false S f (enc l).length = Lib.lastIdxFuncFrom pn false S g (enc l).length
  | 0, l, f, g, hl, _, _, _, _ => by
   obtain rfl := List.eq_nil_of_length_eq_zero hl
   rw [show (enc ([] : List Int)).length = 0 from rfl, Lib.lastIdxFuncFrom_zero, Lib.lastIdxFuncFrom_zero]
  | n + 1, l, f, g, hl, hS, hC, hf, hg => by
   obtain ⟨f', rfl⟩ : ∃ g, f = g + 1 := ⟨f - 1, by omega⟩
   obtain ⟨g', rfl⟩ : ∃ f, g = f + 1 := ⟨g - 1, by omega⟩
   have hne : l ≠ [] := by rintro rfl; simp at hl
   obtain ⟨k, r, rfl⟩ : ∃ k r, l = k ++ [r] := ⟨_, _, (List.dropLast_concat_getLast hne).symm⟩
   have hr := hC r (by simp)
   simp at hl
   have htk : S.data.toList.take (enc (k ++ [r])).length = enc k ++ Lib.encodeRune r := by rw [hS, gY (k ++ [r]), List.take_left, gY, ni]
   have hlen : (enc (k ++ [r])).length - (Lib.encodeRune r).length = (enc k).length := by rw [gY, List.length_append, ni]; omega
   have ih := LJ S ([r] ++ m) n k f' g' hl (by rw [hS]; simp) (fun x hx => hC x (by simp [hx])) (by omega) (by omega)
   rw [Lib.lastIdxFuncFrom, Lib.lastIdxFuncFrom, htk, yA r hr]
   simp only [hlen, ih]
theorem CX {l : List Int} (h : jf l) (p : Int → Bool) : jf (l.dropWhile p) := fun r hr => h r ((List.dropWhile_sublist p).subset hr)
theorem JH (l : List Int) (hC : jf l) : Lib.trimF pn (strOf (enc l)) = strOf (enc (ZW l)) := by
 unfold Lib.trimF ZW
 rw [acU l hC, ZH _ (CX hC bl)]
def bk (r : Int) : Bool := decide (r = 9) || (decide (r = 10) || decide (r = 13))
def fz (r : Int) : Int := if bk r = true then -1 else r
theorem ac0 : ∀ (l : List Int) (n : Nat), jf l → l.length ≤ n → Lib.mapGoD fz n (enc l) = enc (l.filter fun r => !bk r)
 | [], 0, _, _ => rfl
 | [], n + 1, _, _ => rfl
 | _ :: _, 0, _, h => by simp at h
 | r :: l, n + 1, hC, hn => by
  have hr := hC r (by simp)
  have hne : enc (r :: l) ≠ [] := by rw [dW]; exact UN r _
  have hd := rX r hr (enc l)
  rw [← dW] at hd
  rw [Lib.mapGoD, if_neg hne, hd]
  have e : ((r.toNat : Nat) : Int) = r := by have := hr.1; omega
  simp only [e]
  rw [dW, List.drop_left, ac0 l n (fun x hx => hC x (by simp [hx])) (by simp at hn; omega)]
  cases hb : bk r with
  | true =>
   have : fz r = -1 := by unfold fz; rw [hb]; rfl
   rw [this]
   simp [hb]
  | false =>
   have h2 : fz r = r := by unfold fz; rw [hb]; rfl
   rw [h2, if_pos hr.1]
   simp [hb, enc]
theorem map_enc (l : List Int) (hC : jf l) : Lib.mapD fz (enc l) = enc (l.filter fun r => !bk r) := ac0 l _ hC (iL l).2
theorem acY (r : Int) (h : xM r) (h1 : r ≤ 127) : eU (u r) = bl r ∧ brk (u r) = bk r := by
 have hn := un r h.1 (by omega)
 constructor
 ·unfold eU bl
  congr 1
  rw [hn, eq_iff_iff]
  have := h.1
  omega
 ·have hk : ∀ k : UInt8, (k.toNat : Int) ≤ 127 → (decide (u r = k) = decide (r = (k.toNat : Int))) := fun k hk => by
   congr 1
   rw [eq_iff_iff]
   constructor
   ·intro e
    have := congrArg UInt8.toNat e
    rw [hn] at this
    have := h.1
    omega
   ·intro e
    apply UInt8.toNat_inj.1
    rw [hn]
    omega
  unfold brk bk
  rw [hk 9 (by decide), hk 10 (by decide), hk 13 (by decide)]
  rfl
theorem Dl {c : UInt8} (h : 128 ≤ c.toNat) : eU c = false ∧ brk c = false := by
 constructor
 ·unfold eU
  simp
  omega
 ·unfold brk
  have hk : ∀ k : UInt8, k.toNat < 128 → decide (c = k) = false := fun k hk => by
   rw [decide_eq_false_iff_not]
   rintro rfl
   omega
  rw [hk 9 (by decide), hk 10 (by decide), hk 13 (by decide)]
  rfl
theorem Dn (r : Int) (h : xM r) (h1 : 128 ≤ r) : ∀ c ∈ Lib.encodeRune r, 128 ≤ c.toNat := by
 rcases QX r h with ⟨h2, _⟩ | ⟨_, a, b, e, ha, hb⟩ | ⟨_, a, b, c, e, ha, hb, hc⟩ | ⟨_, a, b, c, d, e, ha, hb, hc, hd⟩
 ·omega
 all_goals
  intro x hx
  rw [e] at hx
  simp only [List.mem_cons, List.not_mem_nil, or_false] at hx
 ·rcases hx with rfl | rfl <;> omega
 ·rcases hx with rfl | rfl | rfl <;> omega
 ·rcases hx with rfl | rfl | rfl | rfl <;> omega
theorem UA (r : Int) (h : 128 ≤ r) : bl r = false ∧ bk r = false := by
 constructor
 ·unfold bl; simp; omega
 ·unfold bk; simp; omega
theorem abB : ∀ l : List Int, jf l → (enc l).dropWhile eU = enc (l.dropWhile bl)
 | [], _ => rfl
 | r :: l, hC => by
  have hr := hC r (by simp)
  have ih := abB l fun x hx => hC x (by simp [hx])
  by_cases h1 : r ≤ 127
  ·have e := enc1 r hr.1 h1
   have hb := (acY r hr h1).1
   rw [dW, e, List.singleton_append, List.dropWhile_cons, List.dropWhile_cons, hb, ih]
   split
   ·rfl
   ·rw [dW, e]; rfl
  ·obtain ⟨c, t, e⟩ : ∃ c t, Lib.encodeRune r = c :: t := by
    cases e : Lib.encodeRune r with
    | nil => have := yU r; rw [e] at this; simp at this
    | cons c t => exact ⟨c, t, rfl⟩
   have hc := Dn r hr (by omega) c (by rw [e]; simp)
   rw [dW, e, List.cons_append, List.dropWhile_cons, (Dl hc).1, List.dropWhile_cons, (UA r (by omega)).1]
   simp only [Bool.false_eq_true, if_false]
   rw [dW, e]
   rfl
theorem Ia : ∀ (n : Nat) (l : List Int), l.length = n → jf l → ((enc l).reverse.dropWhile eU).reverse = enc (l.reverse.dropWhile bl).reverse
 | 0, l, hl, _ => by
  obtain rfl := List.eq_nil_of_length_eq_zero hl
  rfl
 | n + 1, l, hl, hC => by
  have hne : l ≠ [] := by rintro rfl; simp at hl
  obtain ⟨k, r, rfl⟩ : ∃ k r, l = k ++ [r] := ⟨_, _, (List.dropLast_concat_getLast hne).symm⟩
  simp at hl
  have hr := hC r (by simp)
  have ih := Ia n k hl fun x hx => hC x (by simp [hx])
  rw [gY, ni, List.reverse_append, List.reverse_append]
  by_cases h1 : r ≤ 127
  ·have e := enc1 r hr.1 h1
   have hb := (acY r hr h1).1
   rw [e]
   simp only [List.reverse_singleton, List.singleton_append, List.dropWhile_cons, hb]
   split
   ·exact ih
   ·simp [gY, ni, e]
  ·obtain ⟨t, c, e⟩ : ∃ t c, Lib.encodeRune r = t ++ [c] := by
    have hn : Lib.encodeRune r ≠ [] := by intro e; have := yU r; rw [e] at this; simp at this
    exact ⟨_, _, (List.dropLast_concat_getLast hn).symm⟩
   have hc := Dn r hr (by omega) c (by rw [e]; simp)
   rw [e]
   simp only [List.reverse_append, List.reverse_singleton, List.singleton_append, List.cons_append, List.dropWhile_cons, (Dl hc).1, (UA r (by omega)).1, Bool.false_eq_true, if_false]
   simp [gY, ni, e]
theorem trm_enc (l : List Int) (hC : jf l) : nI (enc l) = enc (ZW l) := by
 unfold nI ZW
 rw [abB l hC, Ia _ _ rfl (CX hC bl)]
theorem Ib : ∀ l : List Int, jf l → (enc l).filter (fun c => !brk c) = enc (l.filter fun r => !bk r)
 | [], _ => rfl
 | r :: l, hC => by
  have hr := hC r (by simp)
  rw [dW, List.filter_append, Ib l fun x hx => hC x (by simp [hx])]
  by_cases h1 : r ≤ 127
  ·have e := enc1 r hr.1 h1
   have hb := (acY r hr h1).2
   rw [e, List.filter_cons, hb, List.filter_cons]
   cases bk r <;> simp [enc, e]
  ·have hf : (Lib.encodeRune r).filter (fun c => !brk c) = Lib.encodeRune r := by
    refine List.filter_eq_self.2 fun c hc => ?_
    rw [(Dl (Dn r hr (by omega) c hc)).2]
    rfl
   rw [hf, List.filter_cons, (UA r (by omega)).2]
   simp [enc]
theorem WQ {l : List Int} (h : jf l) : jf l.reverse := fun r hr => h r (by simpa using hr)
theorem WR {l : List Int} (h : jf l) : jf (ZW l) := WQ (CX (WQ (CX h bl)) bl)
theorem UF (L : List UInt8) : Lib.mapD fz (Lib.trimF pn (strOf (enc (dec L)))).data.toList = clean L := by
 have hC : jf (dec L) := vV L
 rw [JH _ hC]
 show Lib.mapD fz (enc (ZW (dec L))) = _
 rw [map_enc _ (WR hC)]
 unfold clean
 rw [trm_enc _ hC, Ib _ (WR hC)]
theorem zq (L : List UInt8) : (clean L).length ≤ 3 * L.length := by
 unfold clean
 refine Nat.le_trans (List.length_filter_le _ _) ?_
 have h1 : (nI (enc (dec L))).length ≤ (enc (dec L)).length := by
  unfold nI
  rw [List.length_reverse]
  refine Nat.le_trans (List.dropWhile_sublist _).length_le ?_
  rw [List.length_reverse]
  exact (List.dropWhile_sublist _).length_le
 exact Nat.le_trans h1 (yC _ L (Nat.le_refl _))
where
 yC : ∀ (n : Nat) (L : List UInt8), L.length ≤ n → (enc (dec L)).length ≤ 3 * L.length
  | _, [], _ => by simp [kK, enc]
  | 0, _ :: _, h => by simp at h
  | n + 1, x :: t, h => by
   have hs := lF x t
   have he : (Lib.encodeRune (rd (x :: t)).1).length ≤ 3 * (rd (x :: t)).2.1.toNat := by
    cases hw : (rd (x :: t)).2.2
    ·rw [(pJ x t).2 hw]
     have : (Lib.encodeRune 65533).length = 3 := by decide
     omega
    ·rw [((pJ x t).1 hw).2, List.length_take]
     omega
   simp only [List.length_cons] at h
   have ih := yC n ((x :: t).drop (rd (x :: t)).2.1.toNat) (by rw [List.length_drop, List.length_cons]; omega)
   rw [List.length_drop, List.length_cons] at ih
   rw [gV, dW, List.length_append, List.length_cons]
   omega
end Go.Proofs.YtcfgioklgmlclaaGreatDoor.XZ
namespace Go.Proofs.YtcfgioklgmlclaaGreatDoor.J8
open Go.RowKit Base aP uy xw Uw aH XZ
def uw (w : World) : Prop := Lib.Utf8Tabs 1 2 w
theorem uw.below {w w' : World} (h : uw w) (hb : Below w.heap.size w w') : uw w' := Utf8Tabs_below h hb
theorem le_any (x : Int) (w : World) : Calls Tryz.prog 93 #[.int .i32 x] w fun e w' => e = .returned (.bool (decide (x ≤ 32))) ∧ w' = w := by
 go_enter Tryz.func93, Tryz.ntmps93
 go_wp2
 go_ret
 exact ⟨rfl, rfl⟩
theorem abz (x : Int) (w : World) : Calls Tryz.prog 95 #[.int .i32 x] w fun e w' => e = .returned (.int .i32 (fz x)) ∧ w' = w := by
 obtain ⟨y, hy⟩ : ∃ y, y = fz x := ⟨_, rfl⟩
 rw [← hy]
 have HY := hid hy
 clear hy
 by_cases h9 : x = 9
 ·subst h9
  go_enter Tryz.func95, Tryz.ntmps95
  go_wp2
  go_ret
  exact ⟨by rw [HY.out]; rfl, rfl⟩
 by_cases h10 : x = 10
 ·subst h10
  go_enter Tryz.func95, Tryz.ntmps95
  go_wp2
  go_ret
  exact ⟨by rw [HY.out]; rfl, rfl⟩
 by_cases h13 : x = 13
 ·subst h13
  go_enter Tryz.func95, Tryz.ntmps95
  go_wp2
  go_ret
  exact ⟨by rw [HY.out]; rfl, rfl⟩
 have q1 : (x == 9) = false := beq_eq_false_iff_ne.2 h9
 have q2 : (x == 10) = false := beq_eq_false_iff_ne.2 h10
 have q3 : (x == 13) = false := beq_eq_false_iff_ne.2 h13
 have HE : Hid (y = x) := by show _ = _; rw [HY.out]; simp [fz, bk, h9, h10, h13]
 go_enter Tryz.func95, Tryz.ntmps95
 go_wp2
 go_ret
 exact ⟨by rw [HE.out]; rfl, rfl⟩
theorem pred (w : World) : PredAt Tryz.prog 93 #[] encR pn w := fun W x _ => (le_any (x : Int) W).mono fun e w' ⟨h1, h2⟩ => ⟨by rw [h1]; unfold pn; congr 2; rw [decide_eq_decide]; omega, 0, h2⟩
theorem maps (w : World) : MapGrows Tryz.prog 95 #[] fz w := fun W x _ _ => (abz (x : Int) W).mono fun e w' ⟨h1, h2⟩ => ⟨h1, by rw [h2]; exact Below.refl _ _⟩
theorem trI_len (l : List Int) : (ZW l).length ≤ l.length := by
 unfold ZW
 rw [List.length_reverse]
 refine Nat.le_trans (List.dropWhile_sublist _).length_le ?_
 rw [List.length_reverse]
 exact (List.dropWhile_sublist _).length_le
theorem clean_any (T : List UInt8) (w : World) (hs : T.length ≤ 1000000) (hU : uw w) : Calls Tryz.prog 45 #[.string (strOf T)] w fun e w' => e = .returned (.string (strOf (clean T))) ∧ Below w.heap.size w w' := by
 have hlen : (enc (dec T)).length ≤ 3 * T.length := zq.yC _ T (Nat.le_refl _)
 have hdl : (dec T).length ≤ 3000000 := by have := (iL (dec T)).2; omega
 have hru : ∀ r ∈ dec T, Yo r := fun r hr => by have := vV T r hr; unfold xM at this; unfold Yo; omega
 have htl : (enc (ZW (dec T))).length ≤ 12000000 := by have h1 := (iL (ZW (dec T))).1; have h2 := trI_len (dec T); omega
 have hcc := UF T
 rw [JH _ (vV T)] at hcc
 have hT : ∀ w : World, uw w → Calls Tryz.prog 92 #[.string (strOf (enc (dec T))), .func (.func 93) #[] #[]] w fun e w' => e = .returned (.string (strOf (enc (ZW (dec T))))) ∧ Below w.heap.size w w' := fun w h => by
  have := Tryz.strings_TrimFunc 93 #[] (enters_of Tryz.func93 (by kernel_rfl) rfl) pn (strOf (enc (dec T))) w (by rw [ah]; omega) h (pred w)
  rw [JH _ (vV T)] at this
  exact this
 have hM : ∀ w : World, uw w → Calls Tryz.prog 94 #[.func (.func 95) #[] #[], .string (strOf (enc (ZW (dec T))))] w fun e w' => e = .returned (.string (strOf (clean T))) ∧ Below w.heap.size w w' := fun w h => by
  have := Tryz.strings_Map 95 #[] (enters_of Tryz.func95 (by kernel_rfl) rfl) fz (strOf (enc (ZW (dec T)))) w (by rw [ah]; omega) (maps w) (fun x hx => by unfold fz; split <;> omega) h
  rw [hcc] at this
  exact this
 have HT := hid hT
 have HM := hid hM
 have HU := hid hU
 have HRU := hid hru
 clear hT hM hU hcc hru htl
 have hsz : (strOf T).size ≤ 1000000 := by rw [ah]; exact hs
 have hcv := fun (w : World) s => run_bytes_of_string (P := Tryz.prog) w 9 30 5 s Tryz.underlying9 Tryz.underlying30 Tryz.underlying5
 have FW : Hid ((strOf T).size ≤ grownCap w (strOf T).size 0 5) := grownCap_ge w (strOf T).size 0 5
 go_enter Tryz.func45, Tryz.ntmps45
 go_wp2_with fail
 clear hcv
 refine (uy.decode_any _ (strOf T).size _ T _ (iy (strOf T) _ w 5) (by omega) FW.out).mono ?_
 rintro e w2 ⟨v, rfl, hown, hb2⟩
 have HB2 : Hid (Below w.heap.size w w2) := bel (((Below.refl w.heap.size w).alloc (Nat.le_refl _) _).drew) hb2
 clear hb2 FW
 obtain ⟨A, c, rfl, hc, hm, hr⟩ := bZ hown
 have HR := hid hr
 clear hown hr
 go_wp2_with fail
 refine (xw.fM A _ c (dec T) _ HR.out HRU.out (by omega)).mono ?_
 rintro e w3 ⟨v, rfl, hown, hb3⟩
 have HB3 := hid (bel HB2.out hb3)
 clear hb3 HR
 obtain ⟨A3, c3, rfl, hc3, hm3, hr3⟩ := bZ hown
 have hst := aQ 30 9 5 Tryz.underlying30 Tryz.underlying5 Tryz.underlying9 _ c3 hr3
 clear hown hr3
 go_wp2_with fail
 clear hst
 refine (HT.out _ (HU.out.below HB3.out)).mono ?_
 rintro e w4 ⟨rfl, hb4⟩
 have HB4 := hid (bel HB3.out hb4)
 clear hb4
 go_wp2_with fail
 refine (HM.out _ (HU.out.below HB4.out)).mono ?_
 rintro e w5 ⟨rfl, hb5⟩
 have mO := hid (bel HB4.out hb5)
 clear hb5
 go_wp2
 go_ret
 exact ⟨rfl, mO.out⟩
end Go.Proofs.YtcfgioklgmlclaaGreatDoor.J8
namespace Go.Proofs.YtcfgioklgmlclaaGreatDoor.uw
open Go.RowKit Go.Lib
theorem PE {W : World} {l : List (String × DataW Unit)} (h : laidMet Tryz.prog l W) (h1 : ("unicode/utf8.first", firstData) ∈ l) (h2 : ("unicode/utf8.acceptRanges", acceptData) ∈ l) : J8.uw W :=
 utf8Tabs_of_reads (ρ := Tryz.l237_ren) { Tryz.l237 with } ⟨by kernel_rfl, by kernel_rfl, by kernel_rfl, by kernel_rfl, by kernel_rfl, by kernel_rfl, by kernel_rfl⟩ (Lib.laidMet.reads h h1) (Lib.laidMet.reads h h2)
end Go.Proofs.YtcfgioklgmlclaaGreatDoor.uw
namespace Go.Proofs.YtcfgioklgmlclaaGreatDoor.Shs
open Go.RowKit Base
variable {H : Type} {enc : TypeId × Value → H}
theorem wrap {a : Assume} {C : Checked} {os : Os} {f : FuncId} {fn : Func} {s : ChangeSpec} {conds : List PathCond} {apart fresh handsOn again : Bool} {X : World → Array Value → Prop}
  (hX : ∀ (w w' : World) (args : Array Value), w.heap = w'.heap → X w args → X w' args)
  (own : ownKnob C.prog.godebug = none) (started : os.Started) (noInit : C.prog.inits.idxOf? f = none) (hfn : C.prog.funcs[f]? = some fn)
  (witness : ∃ (w : World) (tape : Tape) (i : Input), w.os = os ∧ (w.forCall tape i).Shaped C.prog ∧ i.vars = [] ∧ Input.okWide C.prog (w.forCall tape i) .any w.heap.size f i ∧
   ((s.pre enc C.prog fn conds apart (w.forCall tape i).memory i.args ∧ X (w.forCall tape i).memory i.args) ∧ sizedMet enc C.prog fn (OpenSpec.ofChange s) apart (w.forCall tape i).memory i.args) ∧ a.holds C.prog (lone (Frame.enter C.prog f i.args .normal) [] (w.forCall tape i)))
  (contract : ∀ (W : World) (base : Nat) (args : Array Value) (ds gs : List (DataW H)) (before : List MemPlace),
   (∀ (j : Nat) t v, fn.params[j]? = some t → args[j]? = some v → Value.okWide C.prog W .any base t v) →
   DataW.Whole enc C.prog fn.params.toList s.vars apart W args.toList ds gs before →
   conds.all (PathCond.test C.prog ⟨fn.params.toList, ds, s.plain.varTypes C.prog, gs⟩) = true →
   (DataW.weightsEach C.prog (fn.params.toList ++ s.plain.varTypes C.prog) (ds ++ gs)).all (· ≤ reachBytes) = true → X W args → W.ShapedOpen C.prog →
   a.holds C.prog (lone (Frame.enter C.prog f args .normal) [] W) →
   Calls C.prog f args W fun e W' => ∃ v, e = .returned v ∧ s.post enc C.prog fn apart fresh handsOn again W args v W') :
  ReturnsInHanded a C os f .any (fun w args => (s.pre enc C.prog fn conds apart w args ∧ X w args) ∧ sizedMet enc C.prog fn (OpenSpec.ofChange s) apart w args) (s.post enc C.prog fn apart fresh handsOn again) := by
 refine returnsInHanded_of_calls own started noInit witness ?_
 intro w tape i _ hsh _ hok hpre hholds
 obtain ⟨_, _, _, fn', hfn', _, _, _, _, hval⟩ := hok
 have e : fn' = fn := Option.some.inj (hfn'.symm.trans hfn)
 subst e
 obtain ⟨⟨⟨ds, gs, before, hw, hc⟩, hx⟩, hz⟩ := hpre
 have hw' := DataW.Whole.of_heap (w' := w.forCall tape i) (by rfl) hw
 refine (contract (w.forCall tape i) w.heap.size i.args ds gs before hval hw' hc (hz.weights hw) (hX _ _ _ (by rfl) hx) hsh hholds).mono fun e W' ⟨v, he, hp⟩ => ?_
 subst he
 exact ChangeSpec.post_blind hp
theorem Vg {w : World} (h : w.ShapedOpen Tryz.prog) : Fh.Max w := Go.Proofs.cell_of_shapedOpen_int (zero := #[.int .i64 0]) (t := 3) h (of_decide_eq_true (by kernel_rfl)) (by kernel_rfl) rfl (by kernel_rfl) (by kernel_rfl) Tryz.underlying3
end Go.Proofs.YtcfgioklgmlclaaGreatDoor.Shs
