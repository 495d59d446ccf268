/- Texts that belong together: rH. -/
import Derived.Test.YtmdofbccebkbiaaGreatDoorMA
import Derived.Lib.IndexMore
set_option linter.unusedSimpArgs false
set_option linter.unusedVariables false
set_option maxRecDepth 100000
set_option maxHeartbeats 64000000
namespace Go.Proofs.YtmdofbccebkbiaaGreatDoor.rH
open Go.RowKit Base dM mX
def dw : List UInt8 → List (List UInt8)
 | [] => [[]]
 | c :: L => if c = 58 then [] :: dw L else match dw L with
  | [] => [[c]]
  | x :: r => (c :: x) :: r
theorem jB : ∀ L : List UInt8, dw L ≠ []
 | [] => by simp [dw]
 | c :: L => by
  unfold dw
  split
  ·simp
  ·split <;> simp
theorem dU (L : List UInt8) : dw (58 :: L) = [] :: dw L := by rw [dw, if_pos rfl]
theorem iJ {c : UInt8} (h : c ≠ 58) (L : List UInt8) : ∃ x r, dw L = x :: r ∧ dw (c :: L) = (c :: x) :: r := by
 cases e : dw L with
 | nil => exact absurd e (jB L)
 | cons x r => exact ⟨x, r, rfl, by rw [dw, if_neg h, e]⟩
theorem wB : ∀ (p : List UInt8), (∀ c ∈ p, c ≠ 58) → dw p = [p]
 | [], _ => rfl
 | c :: p, h => by
  obtain ⟨x, r, e, e2⟩ := iJ (h c (by simp)) p
  rw [wB p fun d hd => h d (by simp [hd])] at e
  injection e with e3 e4
  rw [e2, ← e3, ← e4]
theorem uQ : ∀ (p L : List UInt8), (∀ c ∈ p, c ≠ 58) → dw (p ++ 58 :: L) = p :: dw L
 | [], L, _ => dU L
 | c :: p, L, h => by
  obtain ⟨x, r, e, e2⟩ := iJ (h c (by simp)) (p ++ 58 :: L)
  rw [uQ p L fun d hd => h d (by simp [hd])] at e
  injection e with e3 e4
  rw [List.cons_append, e2, ← e3, ← e4]
theorem ES : ∀ (L : List UInt8), ∃ p, (∀ c ∈ p, c ≠ 58) ∧ ((L = p ∧ dw L = [p]) ∨ ∃ M, L = p ++ 58 :: M ∧ dw L = p :: dw M)
 | [] => ⟨[], by simp, .inl ⟨rfl, rfl⟩⟩
 | c :: L => by
  by_cases h : c = 58
  ·subst h
   exact ⟨[], by simp, .inr ⟨L, rfl, dU L⟩⟩
  ·obtain ⟨p, hp, hL⟩ := ES L
   have hp' : ∀ d ∈ c :: p, d ≠ 58 := by
    intro d hd
    rcases List.mem_cons.1 hd with rfl | hd
    ·exact h
    ·exact hp d hd
   refine ⟨c :: p, hp', ?_⟩
   rcases hL with ⟨rfl, _⟩ | ⟨M, rfl, _⟩
   ·exact .inl ⟨rfl, wB _ hp'⟩
   ·exact .inr ⟨M, rfl, uQ (c :: p) M hp'⟩
theorem yB (L : List UInt8) : (dw L).length ≤ L.length + 1 := by
 induction L with
 | nil => simp [dw]
 | cons c L ih =>
  by_cases h : c = 58
  ·subst h; rw [dU]; simp; omega
  ·obtain ⟨x, r, e, e2⟩ := iJ h L
   rw [e] at ih
   rw [e2]
   simp at ih ⊢
   omega
theorem zJ : ∀ (L : List UInt8), ∀ x ∈ dw L, x.length ≤ L.length
 | [], x, h => by simp [dw] at h; subst h; simp
 | c :: L, x, h => by
  by_cases hc : c = 58
  ·subst hc
   rw [dU] at h
   rcases List.mem_cons.1 h with rfl | h
   ·simp
   ·have := zJ L x h; simp; omega
  ·obtain ⟨y, r, e, e2⟩ := iJ hc L
   rw [e2] at h
   rcases List.mem_cons.1 h with rfl | h
   ·have := zJ L y (by rw [e]; simp); simp; omega
   ·have := zJ L x (by rw [e]; simp [h]); simp; omega
def piece (p : List UInt8) : Option Nat := if 1 ≤ p.length ∧ p.length ≤ 4 ∧ dH 16 p = true then some (val 16 p) else none
def small (p : List UInt8) : Option Nat := if 1 ≤ p.length ∧ p.length ≤ 3 ∧ ¬ (1 < p.length ∧ p.head? = some 48) ∧ dH 10 p = true ∧ val 10 p ≤ 255 then some (val 10 p) else none
def smalls : List (List UInt8) → Option (List Nat)
 | [] => some []
 | p :: r => match small p, smalls r with
  | some n, some l => some (n :: l)
  | _, _ => none
def two : List Nat → Option (List Nat)
 | [a, b, c, d] => some [a * 256 + b, c * 256 + d]
 | _ => none
def jY (p : List UInt8) : Option (List Nat) := (smalls (bY p)).bind two
theorem piece_nil : piece [] = none := rfl
def gJ (e : Bool) : List (List UInt8) → Option (List Nat)
 | [] => some []
 | p :: r => if e = true ∧ r = [] ∧ p.contains 46 = true then jY p else match piece p with
  | none => none
  | some n => match gJ e r with
   | none => none
   | some l => some (n :: l)
def fD (e : Bool) (ps : List (List UInt8)) : Option (List Nat) := if ps = [[]] then some [] else gJ e ps
def wV : List UInt8 → Option (List UInt8 × List UInt8)
 | [] => none
 | [_] => none
 | a :: b :: r => if a = 58 ∧ b = 58 then some ([], r) else match wV (b :: r) with
  | none => none
  | some p => some (a :: p.1, p.2)
def fill (a b : List Nat) : List Nat := a ++ List.replicate (8 - (a.length + b.length)) 0 ++ b
def both (x y : Option (List Nat)) (l : List Nat) : Option (List Nat) := match x, y with
 | some a, some b => if l.length + a.length + b.length < 8 then some (fill (l ++ a) b) else none
 | _, _ => none
def eight (x : Option (List Nat)) (l : List Nat) : Option (List Nat) := match x with
 | some a => if l.length + a.length = 8 then some (l ++ a) else none
 | none => none
def six (s : List UInt8) : Option (List Nat) := match wV s with
 | none => eight (gJ true (dw s)) []
 | some p => both (fD false (dw p.1)) (fD true (dw p.2)) []
def Ad : List (List UInt8) → Option (List (List UInt8) × List (List UInt8))
 | [] => none
 | [_] => none
 | p :: q :: r => if p = [] then some ([], q :: r) else match Ad (q :: r) with
  | none => none
  | some x => some (p :: x.1, x.2)
def RU : List (List UInt8) → Option (List (List UInt8) × List (List UInt8))
 | [] => none
 | p :: r => match Ad r with
  | none => none
  | some x => some (p :: x.1, x.2)
theorem Hu (p : List UInt8) (hp : p ≠ []) (r : List (List UInt8)) : Ad (p :: r) = RU (p :: r) := by
 cases r with
 | nil => rfl
 | cons q r => rw [Ad, if_neg hp]; rfl
theorem Df (r : List (List UInt8)) (hr : r ≠ []) : Ad ([] :: r) = some ([], r) := by
 cases r with
 | nil => exact absurd rfl hr
 | cons q r => rw [Ad, if_pos rfl]
theorem Eu : ∀ s : List UInt8, RU (dw s) = match wV s with
  | none => none
  | some p => some (dw p.1, dw p.2)
 | [] => rfl
 | [c] => by
  by_cases h : c = 58
  ·subst h; rfl
  ·obtain ⟨x, r, e, e2⟩ := iJ h []
   rw [e2]
   simp [dw] at e
   rw [e.2]
   rfl
 | a :: b :: r => by
  have ih := Eu (b :: r)
  rw [wV]
  by_cases ha : a = 58
  ·subst ha
   rw [dU]
   by_cases hb : b = 58
   ·subst hb
    rw [if_pos ⟨rfl, rfl⟩, dU]
    show (match Ad ([] :: dw r) with | none => none | some x => some ([] :: x.1, x.2)) = _
    rw [Df _ (jB r)]
    rfl
   ·rw [if_neg (by simp [hb])]
    obtain ⟨x, t, e, e2⟩ := iJ hb r
    rw [e2] at ih ⊢
    show (match Ad ((b :: x) :: t) with | none => none | some x => some ([] :: x.1, x.2)) = _
    rw [Hu _ (by simp), ih]
    cases hc : wV (b :: r) with
    | none => rfl
    | some p => simp [dU]
  ·rw [if_neg (by simp [ha])]
   obtain ⟨x, t, e, e2⟩ := iJ ha (b :: r)
   rw [e] at ih
   rw [e2]
   replace ih : (match Ad t with | none => none | some y => some (x :: y.1, y.2)) = _ := ih
   show (match Ad t with | none => none | some y => some ((a :: x) :: y.1, y.2)) = _
   cases hc : wV (b :: r) with
   | none =>
    rw [hc] at ih
    cases hf : Ad t with
    | none => rfl
    | some y => rw [hf] at ih; simp at ih
   | some p =>
    rw [hc] at ih
    cases hf : Ad t with
    | none => rw [hf] at ih; simp at ih
    | some y =>
     rw [hf] at ih
     simp at ih ⊢
     obtain ⟨u, v, f1, f2⟩ := iJ ha p.1
     rw [f2]
     rw [f1] at ih
     injection ih.1 with g1 g2
     exact ⟨by rw [g1, g2], ih.2⟩
def R : List (List UInt8) → List Nat → Option Nat → Option (List Nat × Option Nat)
 | [], l, g => some (l, g)
 | p :: r, l, g => if p = [] ∧ r = [] then some (l, g) else if l.length = 8 then none else if p = [] then (match g with
     | some _ => none
     | none => R r l (some l.length))
  else if r = [] then (if p.contains 46 = true then (match jY p with
    | some x => if l.length ≤ 6 then some (l ++ x, g) else none
    | none => none)
   else match piece p with
    | some n => some (l ++ [n], g)
    | none => none)
  else match piece p with
   | some n => if r = [[]] then none else R r (l ++ [n]) g
   | none => none
def fin : Option (List Nat × Option Nat) → Option (List Nat)
 | none => none
 | some (l, none) => if l.length = 8 then some l else none
 | some (l, some g) => if l.length ≤ 7 then some (fill (l.take g) (l.drop g)) else none
def doc (s : List UInt8) : Option (List Nat × Option Nat) := match s with
 | [] => R (dw []) [] none
 | a :: r => if a = 58 then (match r with
     | [] => none
     | b :: r => if b = 58 then R (dw r) [] (some 0) else none)
  else R (dw (a :: r)) [] none
theorem two_len {l x : List Nat} (h : two l = some x) : x.length = 2 := by
 unfold two at h
 split at h
 ·injection h with h; subst h; rfl
 ·cases h
theorem DI {p : List UInt8} {x : List Nat} (h : jY p = some x) : x.length = 2 := by
 unfold jY at h
 cases e : smalls (bY p) with
 | none => rw [e] at h; cases h
 | some l => rw [e] at h; exact two_len h
theorem U8 (e : Bool) (p : List UInt8) (r : List (List UInt8)) (x : List Nat) (h : gJ e (p :: r) = some x) : 1 ≤ x.length := by
 unfold gJ at h
 split at h
 ·have := DI h; omega
 ·split at h
  ·cases h
  ·split at h
   ·cases h
   ·injection h with h; subst h; simp
theorem yF (e : Bool) (p q : List UInt8) (r : List (List UInt8)) : gJ e (p :: q :: r) = match piece p with
  | none => none
  | some n => match gJ e (q :: r) with
   | none => none
   | some l => some (n :: l) := by rw [gJ, if_neg (by simp)]
theorem EL (p : List UInt8) (r : List (List UInt8)) : gJ false (p :: r) = match piece p with
  | none => none
  | some n => match gJ false r with
   | none => none
   | some l => some (n :: l) := by rw [gJ, if_neg (by simp)]
theorem yg (l : List Nat) (g : Nat) : fin (some (l, some g)) = if l.length ≤ 7 then some (fill (l.take g) (l.drop g)) else none := rfl
theorem Dc (l : List Nat) : fin (some (l, none)) = if l.length = 8 then some l else none := rfl
theorem l7 (e : Bool) {ps : List (List UInt8)} (h : ps ≠ [[]]) : fD e ps = gJ e ps := if_neg h
theorem Ye : ∀ (ps : List (List UInt8)) (l : List Nat) (g : Nat), ps ≠ [] → g ≤ l.length → fin (R ps l (some g)) = match fD true ps with
  | some b => if l.length + b.length < 8 then some (fill (l.take g) (l.drop g ++ b)) else none
  | none => none
 | [], _, _, h, _ => absurd rfl h
 | [p], l, g, _, hg => by
  rw [R]
  by_cases hp : p = []
  ·subst hp
   rw [if_pos ⟨rfl, rfl⟩, yg, fD, if_pos rfl]
   simp only [List.length_nil, Nat.add_zero, List.append_nil]
   by_cases h7 : l.length ≤ 7
   ·rw [if_pos h7, if_pos (by omega)]
   ·rw [if_neg h7, if_neg (by omega)]
  ·rw [if_neg (by simp [hp]), l7 _ (by simp [hp]), if_neg hp, if_pos rfl]
   by_cases h8 : l.length = 8
   ·rw [if_pos h8]
    cases h : gJ true [p] with
    | none => rfl
    | some x => simp only []; rw [if_neg (by omega)]; rfl
   ·rw [if_neg h8, gJ]
    by_cases hd : p.contains 46 = true
    ·rw [if_pos hd, if_pos ⟨rfl, rfl, hd⟩]
     cases hq : jY p with
     | none => rfl
     | some x =>
      have := DI hq
      simp only []
      by_cases h6 : l.length ≤ 6
      ·rw [if_pos h6, yg, List.length_append, List.take_append_of_le_length hg, List.drop_append_of_le_length hg, this]
       by_cases h5 : l.length + 2 < 8
       ·rw [if_pos (by omega), if_pos h5]
       ·rw [if_neg (by omega), if_neg h5]
      ·rw [if_neg h6, if_neg (by omega)]
       rfl
    ·rw [if_neg hd, if_neg (by simp; simpa using hd)]
     cases hq : piece p with
     | none => rfl
     | some n =>
      simp only [gJ]
      rw [yg, List.length_append, List.take_append_of_le_length hg, List.drop_append_of_le_length hg]
      simp only [List.length_cons, List.length_nil, Nat.zero_add]
      by_cases h7 : l.length + 1 ≤ 7
      ·rw [if_pos h7, if_pos (by omega)]
      ·rw [if_neg h7, if_neg (by omega)]
 | p :: q :: r, l, g, _, hg => by
  rw [R, if_neg (by simp), l7 _ (by simp), yF]
  by_cases h8 : l.length = 8
  ·rw [if_pos h8]
   cases hq : piece p with
   | none => rfl
   | some n => cases gJ true (q :: r) with
    | none => rfl
    | some x => simp only []; rw [if_neg (by omega)]; rfl
  ·rw [if_neg h8]
   by_cases hp : p = []
   ·subst hp
    rw [if_pos rfl]
    rfl
   ·rw [if_neg hp, if_neg (by simp)]
    cases hq : piece p with
    | none => rfl
    | some n =>
     simp only []
     by_cases hr : q :: r = [[]]
     ·rw [if_pos hr, hr]
      rfl
     ·rw [if_neg hr, Ye (q :: r) (l ++ [n]) g (by simp) (by simp; omega), l7 _ hr]
      cases gJ true (q :: r) with
      | none => rfl
      | some x =>
       simp only [List.length_append, List.length_cons, List.length_nil, List.take_append_of_le_length hg, List.drop_append_of_le_length hg, List.append_assoc, List.cons_append, List.nil_append]
       by_cases h7 : l.length + (x.length + 1) < 8
       ·rw [if_pos (by omega), if_pos (by omega)]
       ·rw [if_neg (by omega), if_neg (by omega)]
def CB (ps : List (List UInt8)) (l : List Nat) : Option (List Nat) := match Ad ps with
 | none => eight (gJ true ps) l
 | some x => both (gJ false x.1) (fD true x.2) l
theorem Ue : ∀ (ps : List (List UInt8)) (l : List Nat), ps ≠ [] → (ps = [[]] → l = []) → fin (R ps l none) = CB ps l
 | [], _, h, _ => absurd rfl h
 | [p], l, _, hl => by
  rw [R]
  show _ = eight (gJ true [p]) l
  by_cases hp : p = []
  ·subst hp
   rw [hl rfl]
   rfl
  ·rw [if_neg (by simp [hp]), if_neg hp, if_pos rfl]
   by_cases h8 : l.length = 8
   ·rw [if_pos h8]
    cases h : gJ true [p] with
    | none => rfl
    | some x => have := U8 _ _ _ _ h; unfold eight; simp only []; rw [if_neg (by omega)]; rfl
   ·rw [if_neg h8, gJ]
    by_cases hd : p.contains 46 = true
    ·rw [if_pos hd, if_pos ⟨rfl, rfl, hd⟩]
     cases hq : jY p with
     | none => rfl
     | some x =>
      have := DI hq
      unfold eight
      simp only []
      by_cases h6 : l.length ≤ 6
      ·rw [if_pos h6, Dc, List.length_append]
      ·rw [if_neg h6, if_neg (by omega)]
       rfl
    ·rw [if_neg hd, if_neg (by simp; simpa using hd)]
     cases hq : piece p with
     | none => rfl
     | some n =>
      simp only [gJ]
      rw [Dc, List.length_append]
      rfl
 | p :: q :: r, l, _, _ => by
  rw [R, if_neg (by simp)]
  unfold CB
  by_cases hp : p = []
  ·subst hp
   rw [if_pos rfl, Df _ (by simp)]
   show _ = both (some []) (fD true (q :: r)) l
   by_cases h8 : l.length = 8
   ·rw [if_pos h8]
    cases hq : fD true (q :: r) with
    | none => rfl
    | some x =>
     show _ = if l.length + ([] : List Nat).length + x.length < 8 then some (fill (l ++ []) x) else none
     rw [if_neg (by omega)]
     rfl
   ·rw [if_neg h8]
    rw [Ye (q :: r) l l.length (by simp) (Nat.le_refl _)]
    cases hq : fD true (q :: r) with
    | none => rfl
    | some x => simp [both]
  ·rw [if_neg hp, Ad, if_neg hp]
   have key : l.length = 8 ∨ piece p = none → (match (match Ad (q :: r) with | none => none | some x => some (p :: x.1, x.2)) with
     | none => eight (gJ true (p :: q :: r)) l
     | some x => both (gJ false x.1) (fD true x.2) l) = none := by
    rintro (h8 | hq)
    ·cases Ad (q :: r) with
     | none =>
      simp only []
      cases h : gJ true (p :: q :: r) with
      | none => rfl
      | some x => have := U8 _ _ _ _ h; unfold eight; simp only []; rw [if_neg (by omega)]
     | some y =>
      simp only []
      unfold both
      split
      ·rw [if_neg (by omega)]
      ·rfl
    ·cases Ad (q :: r) with
     | none => simp only []; rw [yF, hq]; rfl
     | some y => simp only []; rw [EL, hq]; rfl
   by_cases h8 : l.length = 8
   ·rw [if_pos h8, key (.inl h8)]
    rfl
   ·rw [if_neg h8, if_neg (show ¬ (q :: r = []) by simp)]
    cases hq : piece p with
    | none => rw [key (.inr hq)]; rfl
    | some n =>
     simp only []
     by_cases hr : q :: r = [[]]
     ·rw [if_pos hr, hr]
      show _ = eight (gJ true [p, []]) l
      rw [yF, hq]
      rfl
     ·rw [if_neg hr, Ue (q :: r) (l ++ [n]) (by simp) (fun h => absurd h hr)]
      unfold CB
      cases Ad (q :: r) with
      | none =>
       simp only []
       rw [yF, hq]
       simp only []
       cases gJ true (q :: r) with
       | none => rfl
       | some x =>
        unfold eight
        simp only [List.length_append, List.length_cons, List.length_nil, List.append_assoc, List.cons_append, List.nil_append]
        by_cases h7 : l.length + (x.length + 1) = 8
        ·rw [if_pos (by omega), if_pos h7]
        ·rw [if_neg (by omega), if_neg h7]
      | some y =>
       simp only []
       rw [EL, hq]
       simp only []
       cases gJ false y.1 with
       | none => rfl
       | some x =>
        cases fD true y.2 with
        | none => rfl
        | some z =>
         unfold both
         simp only [List.length_append, List.length_cons, List.length_nil, List.append_assoc, List.cons_append, List.nil_append]
         by_cases h7 : l.length + (x.length + 1) + z.length < 8
         ·rw [if_pos (by omega), if_pos h7]
         ·rw [if_neg (by omega), if_neg h7]
theorem doc_six (s : List UInt8) : fin (doc s) = six s := by
 have H := Eu s
 have hsix : six s = match RU (dw s) with
  | none => eight (gJ true (dw s)) []
  | some p => both (fD false p.1) (fD true p.2) [] := by
  rw [H]
  unfold six
  cases wV s <;> rfl
 rw [hsix]
 clear H hsix
 cases s with
 | nil => rfl
 | cons a r =>
  unfold doc
  simp only []
  by_cases ha : a = 58
  ·subst ha
   rw [if_pos rfl, dU]
   cases r with
   | nil => rfl
   | cons b r =>
    simp only []
    by_cases hb : b = 58
    ·subst hb
     rw [if_pos rfl, dU]
     show _ = match (match Ad ([] :: dw r) with | none => none | some x => some ([] :: x.1, x.2)) with
      | none => eight (gJ true ([] :: [] :: dw r)) []
      | some p => both (fD false p.1) (fD true p.2) []
     rw [Df _ (jB r), Ye _ _ 0 (jB r) (Nat.zero_le _)]
     show _ = both (some []) (fD true (dw r)) []
     unfold both
     cases fD true (dw r) with
     | none => rfl
     | some x => simp
    ·rw [if_neg hb]
     obtain ⟨x, t, e, e2⟩ := iJ hb r
     rw [e2]
     show none = match (match Ad ((b :: x) :: t) with | none => none | some x => some ([] :: x.1, x.2)) with
      | none => eight (gJ true ([] :: (b :: x) :: t)) []
      | some p => both (fD false p.1) (fD true p.2) []
     rw [Hu _ (by simp)]
     show none = match (match (match Ad t with | none => none | some z => some ((b :: x) :: z.1, z.2)) with | none => none | some x => some ([] :: x.1, x.2)) with
      | none => eight (gJ true ([] :: (b :: x) :: t)) []
      | some p => both (fD false p.1) (fD true p.2) []
     cases Ad t with
     | none =>
      simp only []
      rw [yF, piece_nil]
      rfl
     | some y =>
      simp only []
      rw [l7 _ (by simp), EL, piece_nil]
      rfl
  ·rw [if_neg ha]
   obtain ⟨x, t, e, e2⟩ := iJ ha r
   rw [Ue _ _ (jB _) (fun _ => rfl), e2]
   unfold CB
   rw [Hu _ (by simp)]
   show (match (match Ad t with | none => none | some z => some ((a :: x) :: z.1, z.2)) with
     | none => eight (gJ true ((a :: x) :: t)) []
     | some p => both (gJ false p.1) (fD true p.2) []) = match (match Ad t with | none => none | some z => some ((a :: x) :: z.1, z.2)) with
     | none => eight (gJ true ((a :: x) :: t)) []
     | some p => both (fD false p.1) (fD true p.2) []
   cases Ad t with
   | none => rfl
   | some y =>
    simp only []
    rw [l7 false (ps := (a :: x) :: y.1) (by simp)]
end Go.Proofs.YtmdofbccebkbiaaGreatDoor.rH
