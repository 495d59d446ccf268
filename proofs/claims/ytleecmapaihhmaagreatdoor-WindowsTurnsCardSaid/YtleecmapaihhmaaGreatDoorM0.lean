/- Texts that belong together: SixP. -/
import Derived.Test.YtleecmapaihhmaaGreatDoorMA
import Derived.Lib.IndexMore
set_option linter.unusedSimpArgs false
set_option linter.unusedVariables false
namespace Go.Proofs.YtleecmapaihhmaaGreatDoor.SixP
open Go.RowKit Go.Proofs.YtleecmapaihhmaaGreatDoor.Base Go.Proofs.YtleecmapaihhmaaGreatDoor.UtfA Go.Proofs.YtleecmapaihhmaaGreatDoor.QudP

/-- The parts of a text, between colons. -/
def splc : List UInt8 → List (List UInt8)
  | [] => [[]]
  | c :: L => if c = 58 then [] :: splc L else match splc L with
    | [] => [[c]]
    | x :: r => (c :: x) :: r
theorem splc_ne : ∀ L : List UInt8, splc L ≠ []
  | [] => by simp [splc]
  | c :: L => by
    unfold splc
    split
    · simp
    · split <;> simp
theorem splc_colon (L : List UInt8) : splc (58 :: L) = [] :: splc L := by rw [splc, if_pos rfl]
theorem splc_cons {c : UInt8} (h : c ≠ 58) (L : List UInt8) : ∃ x r, splc L = x :: r ∧ splc (c :: L) = (c :: x) :: r := by
  cases e : splc L with
  | nil => exact absurd e (splc_ne L)
  | cons x r => exact ⟨x, r, rfl, by rw [splc, if_neg h, e]⟩
theorem splc_plain : ∀ (p : List UInt8), (∀ c ∈ p, c ≠ 58) → splc p = [p]
  | [], _ => rfl
  | c :: p, h => by
    obtain ⟨x, r, e, e2⟩ := splc_cons (h c (by simp)) p
    rw [splc_plain p fun d hd => h d (by simp [hd])] at e
    injection e with e3 e4
    rw [e2, ← e3, ← e4]
theorem splc_app : ∀ (p L : List UInt8), (∀ c ∈ p, c ≠ 58) → splc (p ++ 58 :: L) = p :: splc L
  | [], L, _ => splc_colon L
  | c :: p, L, h => by
    obtain ⟨x, r, e, e2⟩ := splc_cons (h c (by simp)) (p ++ 58 :: L)
    rw [splc_app p L fun d hd => h d (by simp [hd])] at e
    injection e with e3 e4
    rw [List.cons_append, e2, ← e3, ← e4]
/-- Where the first part ends. -/
theorem splc_head : ∀ (L : List UInt8), ∃ p, (∀ c ∈ p, c ≠ 58) ∧ ((L = p ∧ splc L = [p]) ∨ ∃ M, L = p ++ 58 :: M ∧ splc L = p :: splc M)
  | [] => ⟨[], by simp, .inl ⟨rfl, rfl⟩⟩
  | c :: L => by
    by_cases h : c = 58
    · subst h
      exact ⟨[], by simp, .inr ⟨L, rfl, splc_colon L⟩⟩
    · obtain ⟨p, hp, hL⟩ := splc_head L
      have hp' : ∀ d ∈ c :: p, d ≠ 58 := by
        intro d hd
        rcases List.mem_cons.1 hd with rfl | hd
        · exact h
        · exact hp d hd
      refine ⟨c :: p, hp', ?_⟩
      rcases hL with ⟨rfl, _⟩ | ⟨M, rfl, _⟩
      · exact .inl ⟨rfl, splc_plain _ hp'⟩
      · exact .inr ⟨M, rfl, splc_app (c :: p) M hp'⟩
theorem length_splc (L : List UInt8) : (splc L).length ≤ L.length + 1 := by
  induction L with
  | nil => simp [splc]
  | cons c L ih =>
    by_cases h : c = 58
    · subst h; rw [splc_colon]; simp; omega
    · obtain ⟨x, r, e, e2⟩ := splc_cons h L
      rw [e] at ih
      rw [e2]
      simp at ih ⊢
      omega
theorem splc_part : ∀ (L : List UInt8), ∀ x ∈ splc L, x.length ≤ L.length
  | [], x, h => by simp [splc] at h; subst h; simp
  | c :: L, x, h => by
    by_cases hc : c = 58
    · subst hc
      rw [splc_colon] at h
      rcases List.mem_cons.1 h with rfl | h
      · simp
      · have := splc_part L x h; simp; omega
    · obtain ⟨y, r, e, e2⟩ := splc_cons hc L
      rw [e2] at h
      rcases List.mem_cons.1 h with rfl | h
      · have := splc_part L y (by rw [e]; simp); simp; omega
      · have := splc_part L x (by rw [e]; simp [h]); simp; omega
/-- A piece: one to four digits. -/
def piece (p : List UInt8) : Option Nat := if 1 ≤ p.length ∧ p.length ≤ 4 ∧ digs 16 p = true then some (val 16 p) else none
/-- A number up to 255, without a nought ahead. -/
def small (p : List UInt8) : Option Nat := if 1 ≤ p.length ∧ p.length ≤ 3 ∧ ¬ (1 < p.length ∧ p.head? = some 48) ∧ digs 10 p = true ∧ val 10 p ≤ 255 then some (val 10 p) else none
def smalls : List (List UInt8) → Option (List Nat)
  | [] => some []
  | p :: r => match small p, smalls r with
    | some n, some l => some (n :: l)
    | _, _ => none
/-- Four numbers' two pieces. -/
def two : List Nat → Option (List Nat)
  | [a, b, c, d] => some [a * 256 + b, c * 256 + d]
  | _ => none
def quad (p : List UInt8) : Option (List Nat) := (smalls (splt p)).bind two
theorem piece_nil : piece [] = none := rfl
/-- The pieces of parts; the last one may be four numbers, where e says so. -/
def pcs (e : Bool) : List (List UInt8) → Option (List Nat)
  | [] => some []
  | p :: r => if e = true ∧ r = [] ∧ p.contains 46 = true then quad p else match piece p with
    | none => none
    | some n => match pcs e r with
      | none => none
      | some l => some (n :: l)
def sideP (e : Bool) (ps : List (List UInt8)) : Option (List Nat) := if ps = [[]] then some [] else pcs e ps
/-- What a text is cut into, ahead of and behind the first two colons. -/
def cut2 : List UInt8 → Option (List UInt8 × List UInt8)
  | [] => none
  | [_] => none
  | a :: b :: r => if a = 58 ∧ b = 58 then some ([], r) else match cut2 (b :: r) with
    | none => none
    | some p => some (a :: p.1, p.2)
/-- Eight pieces of those ahead and those behind the gap. -/
def fill (a b : List Nat) : List Nat := a ++ List.replicate (8 - (a.length + b.length)) 0 ++ b
def both (x y : Option (List Nat)) (l : List Nat) : Option (List Nat) := match x, y with
  | some a, some b => if l.length + a.length + b.length < 8 then some (fill (l ++ a) b) else none
  | _, _ => none
def eight (x : Option (List Nat)) (l : List Nat) : Option (List Nat) := match x with
  | some a => if l.length + a.length = 8 then some (l ++ a) else none
  | none => none
/-- The code's reading. -/
def six (s : List UInt8) : Option (List Nat) := match cut2 s with
  | none => eight (pcs true (splc s)) []
  | some p => both (sideP false (splc p.1)) (sideP true (splc p.2)) []
/-- The first empty part that isn't the last one. -/
def fnd : List (List UInt8) → Option (List (List UInt8) × List (List UInt8))
  | [] => none
  | [_] => none
  | p :: q :: r => if p = [] then some ([], q :: r) else match fnd (q :: r) with
    | none => none
    | some x => some (p :: x.1, x.2)
def fnd0 : List (List UInt8) → Option (List (List UInt8) × List (List UInt8))
  | [] => none
  | p :: r => match fnd r with
    | none => none
    | some x => some (p :: x.1, x.2)
theorem fnd_fnd0 (p : List UInt8) (hp : p ≠ []) (r : List (List UInt8)) : fnd (p :: r) = fnd0 (p :: r) := by
  cases r with
  | nil => rfl
  | cons q r => rw [fnd, if_neg hp]; rfl
theorem fnd_nil (r : List (List UInt8)) (hr : r ≠ []) : fnd ([] :: r) = some ([], r) := by
  cases r with
  | nil => exact absurd rfl hr
  | cons q r => rw [fnd, if_pos rfl]
theorem cut2_fnd0 : ∀ s : List UInt8, fnd0 (splc s) = match cut2 s with
    | none => none
    | some p => some (splc p.1, splc p.2)
  | [] => rfl
  | [c] => by
    by_cases h : c = 58
    · subst h; rfl
    · obtain ⟨x, r, e, e2⟩ := splc_cons h []
      rw [e2]
      simp [splc] at e
      rw [e.2]
      rfl
  | a :: b :: r => by
    have ih := cut2_fnd0 (b :: r)
    rw [cut2]
    by_cases ha : a = 58
    · subst ha
      rw [splc_colon]
      by_cases hb : b = 58
      · subst hb
        rw [if_pos ⟨rfl, rfl⟩, splc_colon]
        show (match fnd ([] :: splc r) with | none => none | some x => some ([] :: x.1, x.2)) = _
        rw [fnd_nil _ (splc_ne r)]
        rfl
      · rw [if_neg (by simp [hb])]
        obtain ⟨x, t, e, e2⟩ := splc_cons hb r
        rw [e2] at ih ⊢
        show (match fnd ((b :: x) :: t) with | none => none | some x => some ([] :: x.1, x.2)) = _
        rw [fnd_fnd0 _ (by simp), ih]
        cases hc : cut2 (b :: r) with
        | none => rfl
        | some p => simp [splc_colon]
    · rw [if_neg (by simp [ha])]
      obtain ⟨x, t, e, e2⟩ := splc_cons ha (b :: r)
      rw [e] at ih
      rw [e2]
      replace ih : (match fnd t with | none => none | some y => some (x :: y.1, y.2)) = _ := ih
      show (match fnd t with | none => none | some y => some ((a :: x) :: y.1, y.2)) = _
      cases hc : cut2 (b :: r) with
      | none =>
        rw [hc] at ih
        cases hf : fnd t with
        | none => rfl
        | some y => rw [hf] at ih; simp at ih
      | some p =>
        rw [hc] at ih
        cases hf : fnd t with
        | none => rw [hf] at ih; simp at ih
        | some y =>
          rw [hf] at ih
          simp at ih ⊢
          obtain ⟨u, v, f1, f2⟩ := splc_cons ha p.1
          rw [f2]
          rw [f1] at ih
          injection ih.1 with g1 g2
          exact ⟨by rw [g1, g2], ih.2⟩
/-- The document's reading, part by part. -/
def R : List (List UInt8) → List Nat → Option Nat → Option (List Nat × Option Nat)
  | [], l, g => some (l, g)
  | p :: r, l, g => if p = [] ∧ r = [] then some (l, g) else if l.length = 8 then none else if p = [] then (match g with
      | some _ => none
      | none => R r l (some l.length))
    else if r = [] then (if p.contains 46 = true then (match quad p with
        | some x => if l.length ≤ 6 then some (l ++ x, g) else none
        | none => none)
      else match piece p with
        | some n => some (l ++ [n], g)
        | none => none)
    else match piece p with
      | some n => if r = [[]] then none else R r (l ++ [n]) g
      | none => none
def fin : Option (List Nat × Option Nat) → Option (List Nat)
  | none => none
  | some (l, none) => if l.length = 8 then some l else none
  | some (l, some g) => if l.length ≤ 7 then some (fill (l.take g) (l.drop g)) else none
def doc (s : List UInt8) : Option (List Nat × Option Nat) := match s with
  | [] => R (splc []) [] none
  | a :: r => if a = 58 then (match r with
      | [] => none
      | b :: r => if b = 58 then R (splc r) [] (some 0) else none)
    else R (splc (a :: r)) [] none
theorem two_len {l x : List Nat} (h : two l = some x) : x.length = 2 := by
  unfold two at h
  split at h
  · injection h with h; subst h; rfl
  · cases h
theorem quad_len {p : List UInt8} {x : List Nat} (h : quad p = some x) : x.length = 2 := by
  unfold quad at h
  cases e : smalls (splt p) with
  | none => rw [e] at h; cases h
  | some l => rw [e] at h; exact two_len h
theorem pcs_one (e : Bool) (p : List UInt8) (r : List (List UInt8)) (x : List Nat) (h : pcs e (p :: r) = some x) : 1 ≤ x.length := by
  unfold pcs at h
  split at h
  · have := quad_len h; omega
  · split at h
    · cases h
    · split at h
      · cases h
      · injection h with h; subst h; simp
theorem pcs_cons (e : Bool) (p q : List UInt8) (r : List (List UInt8)) : pcs e (p :: q :: r) = match piece p with
    | none => none
    | some n => match pcs e (q :: r) with
      | none => none
      | some l => some (n :: l) := by rw [pcs, if_neg (by simp)]
theorem pcs_false (p : List UInt8) (r : List (List UInt8)) : pcs false (p :: r) = match piece p with
    | none => none
    | some n => match pcs false r with
      | none => none
      | some l => some (n :: l) := by rw [pcs, if_neg (by simp)]
theorem fin_some (l : List Nat) (g : Nat) : fin (some (l, some g)) = if l.length ≤ 7 then some (fill (l.take g) (l.drop g)) else none := rfl
theorem fin_none (l : List Nat) : fin (some (l, none)) = if l.length = 8 then some l else none := rfl
theorem sideP_neg (e : Bool) {ps : List (List UInt8)} (h : ps ≠ [[]]) : sideP e ps = pcs e ps := if_neg h
/-- What stands behind the gap. -/
theorem R_gap : ∀ (ps : List (List UInt8)) (l : List Nat) (g : Nat), ps ≠ [] → g ≤ l.length → fin (R ps l (some g)) = match sideP true ps with
    | some b => if l.length + b.length < 8 then some (fill (l.take g) (l.drop g ++ b)) else none
    | none => none
  | [], _, _, h, _ => absurd rfl h
  | [p], l, g, _, hg => by
    rw [R]
    by_cases hp : p = []
    · subst hp
      rw [if_pos ⟨rfl, rfl⟩, fin_some, sideP, if_pos rfl]
      simp only [List.length_nil, Nat.add_zero, List.append_nil]
      by_cases h7 : l.length ≤ 7
      · rw [if_pos h7, if_pos (by omega)]
      · rw [if_neg h7, if_neg (by omega)]
    · rw [if_neg (by simp [hp]), sideP_neg _ (by simp [hp]), if_neg hp, if_pos rfl]
      by_cases h8 : l.length = 8
      · rw [if_pos h8]
        cases h : pcs true [p] with
        | none => rfl
        | some x => simp only []; rw [if_neg (by omega)]; rfl
      · rw [if_neg h8, pcs]
        by_cases hd : p.contains 46 = true
        · rw [if_pos hd, if_pos ⟨rfl, rfl, hd⟩]
          cases hq : quad p with
          | none => rfl
          | some x =>
            have := quad_len hq
            simp only []
            by_cases h6 : l.length ≤ 6
            · rw [if_pos h6, fin_some, List.length_append, List.take_append_of_le_length hg, List.drop_append_of_le_length hg, this]
              by_cases h5 : l.length + 2 < 8
              · rw [if_pos (by omega), if_pos h5]
              · rw [if_neg (by omega), if_neg h5]
            · rw [if_neg h6, if_neg (by omega)]
              rfl
        · rw [if_neg hd, if_neg (by simp; simpa using hd)]
          cases hq : piece p with
          | none => rfl
          | some n =>
            simp only [pcs]
            rw [fin_some, List.length_append, List.take_append_of_le_length hg, List.drop_append_of_le_length hg]
            simp only [List.length_cons, List.length_nil, Nat.zero_add]
            by_cases h7 : l.length + 1 ≤ 7
            · rw [if_pos h7, if_pos (by omega)]
            · rw [if_neg h7, if_neg (by omega)]
  | p :: q :: r, l, g, _, hg => by
    rw [R, if_neg (by simp), sideP_neg _ (by simp), pcs_cons]
    by_cases h8 : l.length = 8
    · rw [if_pos h8]
      cases hq : piece p with
      | none => rfl
      | some n => cases pcs true (q :: r) with
        | none => rfl
        | some x => simp only []; rw [if_neg (by omega)]; rfl
    · rw [if_neg h8]
      by_cases hp : p = []
      · subst hp
        rw [if_pos rfl]
        rfl
      · rw [if_neg hp, if_neg (by simp)]
        cases hq : piece p with
        | none => rfl
        | some n =>
          simp only []
          by_cases hr : q :: r = [[]]
          · rw [if_pos hr, hr]
            rfl
          · rw [if_neg hr, R_gap (q :: r) (l ++ [n]) g (by simp) (by simp; omega), sideP_neg _ hr]
            cases pcs true (q :: r) with
            | none => rfl
            | some x =>
              simp only [List.length_append, List.length_cons, List.length_nil, List.take_append_of_le_length hg, List.drop_append_of_le_length hg, List.append_assoc, List.cons_append, List.nil_append]
              by_cases h7 : l.length + (x.length + 1) < 8
              · rw [if_pos (by omega), if_pos (by omega)]
              · rw [if_neg (by omega), if_neg (by omega)]
/-- The code's reading of what stands behind l. -/
def CB (ps : List (List UInt8)) (l : List Nat) : Option (List Nat) := match fnd ps with
  | none => eight (pcs true ps) l
  | some x => both (pcs false x.1) (sideP true x.2) l
theorem R_front : ∀ (ps : List (List UInt8)) (l : List Nat), ps ≠ [] → (ps = [[]] → l = []) → fin (R ps l none) = CB ps l
  | [], _, h, _ => absurd rfl h
  | [p], l, _, hl => by
    rw [R]
    show _ = eight (pcs true [p]) l
    by_cases hp : p = []
    · subst hp
      rw [hl rfl]
      rfl
    · rw [if_neg (by simp [hp]), if_neg hp, if_pos rfl]
      by_cases h8 : l.length = 8
      · rw [if_pos h8]
        cases h : pcs true [p] with
        | none => rfl
        | some x => have := pcs_one _ _ _ _ h; unfold eight; simp only []; rw [if_neg (by omega)]; rfl
      · rw [if_neg h8, pcs]
        by_cases hd : p.contains 46 = true
        · rw [if_pos hd, if_pos ⟨rfl, rfl, hd⟩]
          cases hq : quad p with
          | none => rfl
          | some x =>
            have := quad_len hq
            unfold eight
            simp only []
            by_cases h6 : l.length ≤ 6
            · rw [if_pos h6, fin_none, List.length_append]
            · rw [if_neg h6, if_neg (by omega)]
              rfl
        · rw [if_neg hd, if_neg (by simp; simpa using hd)]
          cases hq : piece p with
          | none => rfl
          | some n =>
            simp only [pcs]
            rw [fin_none, List.length_append]
            rfl
  | p :: q :: r, l, _, _ => by
    rw [R, if_neg (by simp)]
    unfold CB
    by_cases hp : p = []
    · subst hp
      rw [if_pos rfl, fnd_nil _ (by simp)]
      show _ = both (some []) (sideP true (q :: r)) l
      by_cases h8 : l.length = 8
      · rw [if_pos h8]
        cases hq : sideP true (q :: r) with
        | none => rfl
        | some x =>
          show _ = if l.length + ([] : List Nat).length + x.length < 8 then some (fill (l ++ []) x) else none
          rw [if_neg (by omega)]
          rfl
      · rw [if_neg h8]
        rw [R_gap (q :: r) l l.length (by simp) (Nat.le_refl _)]
        cases hq : sideP true (q :: r) with
        | none => rfl
        | some x => simp [both]
    · rw [if_neg hp, fnd, if_neg hp]
      have key : l.length = 8 ∨ piece p = none → (match (match fnd (q :: r) with | none => none | some x => some (p :: x.1, x.2)) with
          | none => eight (pcs true (p :: q :: r)) l
          | some x => both (pcs false x.1) (sideP true x.2) l) = none := by
        rintro (h8 | hq)
        · cases fnd (q :: r) with
          | none =>
            simp only []
            cases h : pcs true (p :: q :: r) with
            | none => rfl
            | some x => have := pcs_one _ _ _ _ h; unfold eight; simp only []; rw [if_neg (by omega)]
          | some y =>
            simp only []
            unfold both
            split
            · rw [if_neg (by omega)]
            · rfl
        · cases fnd (q :: r) with
          | none => simp only []; rw [pcs_cons, hq]; rfl
          | some y => simp only []; rw [pcs_false, hq]; rfl
      by_cases h8 : l.length = 8
      · rw [if_pos h8, key (.inl h8)]
        rfl
      · rw [if_neg h8, if_neg (show ¬ (q :: r = []) by simp)]
        cases hq : piece p with
        | none => rw [key (.inr hq)]; rfl
        | some n =>
          simp only []
          by_cases hr : q :: r = [[]]
          · rw [if_pos hr, hr]
            show _ = eight (pcs true [p, []]) l
            rw [pcs_cons, hq]
            rfl
          · rw [if_neg hr, R_front (q :: r) (l ++ [n]) (by simp) (fun h => absurd h hr)]
            unfold CB
            cases fnd (q :: r) with
            | none =>
              simp only []
              rw [pcs_cons, hq]
              simp only []
              cases pcs true (q :: r) with
              | none => rfl
              | some x =>
                unfold eight
                simp only [List.length_append, List.length_cons, List.length_nil, List.append_assoc, List.cons_append, List.nil_append]
                by_cases h7 : l.length + (x.length + 1) = 8
                · rw [if_pos (by omega), if_pos h7]
                · rw [if_neg (by omega), if_neg h7]
            | some y =>
              simp only []
              rw [pcs_false, hq]
              simp only []
              cases pcs false y.1 with
              | none => rfl
              | some x =>
                cases sideP true y.2 with
                | none => rfl
                | some z =>
                  unfold both
                  simp only [List.length_append, List.length_cons, List.length_nil, List.append_assoc, List.cons_append, List.nil_append]
                  by_cases h7 : l.length + (x.length + 1) + z.length < 8
                  · rw [if_pos (by omega), if_pos h7]
                  · rw [if_neg (by omega), if_neg h7]
/-- The document's reading is the code's. -/
theorem doc_six (s : List UInt8) : fin (doc s) = six s := by
  have H := cut2_fnd0 s
  have hsix : six s = match fnd0 (splc s) with
    | none => eight (pcs true (splc s)) []
    | some p => both (sideP false p.1) (sideP true p.2) [] := by
    rw [H]
    unfold six
    cases cut2 s <;> rfl
  rw [hsix]
  clear H hsix
  cases s with
  | nil => rfl
  | cons a r =>
    unfold doc
    simp only []
    by_cases ha : a = 58
    · subst ha
      rw [if_pos rfl, splc_colon]
      cases r with
      | nil => rfl
      | cons b r =>
        simp only []
        by_cases hb : b = 58
        · subst hb
          rw [if_pos rfl, splc_colon]
          show _ = match (match fnd ([] :: splc r) with | none => none | some x => some ([] :: x.1, x.2)) with
            | none => eight (pcs true ([] :: [] :: splc r)) []
            | some p => both (sideP false p.1) (sideP true p.2) []
          rw [fnd_nil _ (splc_ne r), R_gap _ _ 0 (splc_ne r) (Nat.zero_le _)]
          show _ = both (some []) (sideP true (splc r)) []
          unfold both
          cases sideP true (splc r) with
          | none => rfl
          | some x => simp
        · rw [if_neg hb]
          obtain ⟨x, t, e, e2⟩ := splc_cons hb r
          rw [e2]
          show none = match (match fnd ((b :: x) :: t) with | none => none | some x => some ([] :: x.1, x.2)) with
            | none => eight (pcs true ([] :: (b :: x) :: t)) []
            | some p => both (sideP false p.1) (sideP true p.2) []
          rw [fnd_fnd0 _ (by simp)]
          show none = match (match (match fnd t with | none => none | some z => some ((b :: x) :: z.1, z.2)) with | none => none | some x => some ([] :: x.1, x.2)) with
            | none => eight (pcs true ([] :: (b :: x) :: t)) []
            | some p => both (sideP false p.1) (sideP true p.2) []
          cases fnd t with
          | none =>
            simp only []
            rw [pcs_cons, piece_nil]
            rfl
          | some y =>
            simp only []
            rw [sideP_neg _ (by simp), pcs_false, piece_nil]
            rfl
    · rw [if_neg ha]
      obtain ⟨x, t, e, e2⟩ := splc_cons ha r
      rw [R_front _ _ (splc_ne _) (fun _ => rfl), e2]
      unfold CB
      rw [fnd_fnd0 _ (by simp)]
      show (match (match fnd t with | none => none | some z => some ((a :: x) :: z.1, z.2)) with
          | none => eight (pcs true ((a :: x) :: t)) []
          | some p => both (pcs false p.1) (sideP true p.2) []) = match (match fnd t with | none => none | some z => some ((a :: x) :: z.1, z.2)) with
          | none => eight (pcs true ((a :: x) :: t)) []
          | some p => both (sideP false p.1) (sideP true p.2) []
      cases fnd t with
      | none => rfl
      | some y =>
        simp only []
        rw [sideP_neg false (ps := (a :: x) :: y.1) (by simp)]
end Go.Proofs.YtleecmapaihhmaaGreatDoor.SixP
