/- Plain facts on utf.read and on the document's own starts: both tell the same of the first character. The document's own number. -/
import Derived.Test.YtleecmapaihhmaaDoorRefS
set_option linter.unusedSimpArgs false
set_option linter.unusedVariables false
namespace Go.Proofs.YtleecmapaihhmaaDoor.RefN
open Go.RowKit Go.Proofs.YtleecmapaihhmaaDoor.Base Go.Proofs.YtleecmapaihhmaaDoor.Base2 Go.Proofs.YtleecmapaihhmaaDoor.UtfR Go.Proofs.YtleecmapaihhmaaDoor.RefS

def inR : Int → Int → List UInt8 → Prop
  | _, _, [] => True
  | l, h, c :: t => l ≤ (c.toNat : Int) ∧ (c.toNat : Int) ≤ h ∧ inR 128 191 t
def fo (r : Int) (t : List UInt8) : Int := t.foldl (fun r c => r * 64 + (c.toNat : Int) % 64) r
theorem tail_whole : ∀ (p : List UInt8) (m k : Nat) (l h r : Int) (rest : List UInt8), inR l h p → p.length = m → tail m k l h r (p ++ rest) = (fo r p, ((k + m : Nat) : Int), true)
  | [], m, k, l, h, r, rest, _, hm => by
    simp at hm
    subst hm
    simp [tail, fo]
  | c :: p, 0, k, l, h, r, rest, _, hm => by simp at hm
  | c :: p, m + 1, k, l, h, r, rest, hi, hm => by
    obtain ⟨h1, h2, h3⟩ := hi
    rw [List.cons_append, tail, if_neg (by omega), tail_whole p m (k + 1) 128 191 _ rest h3 (by simpa using hm)]
    refine Prod.ext rfl (Prod.ext ?_ rfl)
    simp only
    omega
theorem tail_part : ∀ (p : List UInt8) (m k : Nat) (l h r : Int) (rest : List UInt8), inR l h p → p.length < m → (rest = [] ∨ ∃ c t, rest = c :: t ∧ (p = [] → ((c.toNat : Int) < l ∨ h < (c.toNat : Int))) ∧ (p ≠ [] → ((c.toNat : Int) < 128 ∨ 191 < (c.toNat : Int)))) →
    tail m k l h r (p ++ rest) = (65533, ((k + p.length : Nat) : Int), false)
  | _, 0, _, _, _, _, _, _, hm, _ => by simp at hm
  | [], m + 1, k, l, h, r, rest, _, hm, hr => by
    rcases hr with rfl | ⟨c, t, rfl, hc, _⟩
    · simp [tail]
    · rw [List.nil_append, tail, if_pos (hc rfl)]
      simp
  | c :: p, m + 1, k, l, h, r, rest, hi, hm, hr => by
    obtain ⟨h1, h2, h3⟩ := hi
    rw [List.cons_append, tail, if_neg (by omega), tail_part p m (k + 1) 128 191 _ rest h3 (by simpa using hm) (by
      rcases hr with hr | ⟨c', t', e, _, h5⟩
      · exact .inl hr
      · exact .inr ⟨c', t', e, fun _ => h5 (by simp), fun _ => h5 (by simp)⟩)]
    refine Prod.ext rfl (Prod.ext ?_ rfl)
    simp only [List.length_cons]
    omega
theorem inR_ok : ∀ t : List UInt8, inR 128 191 t ↔ okT t
  | [] => by simp [inR, okT]
  | c :: t => by
    have := inR_ok t
    unfold okT at this ⊢
    simp only [inR, List.forall_mem_cons, this, and_assoc]
theorem okT_cons (c : UInt8) (t : List UInt8) : okT (c :: t) ↔ (128 ≤ (c.toNat : Int) ∧ (c.toNat : Int) ≤ 191) ∧ okT t := by
  unfold okT
  simp only [List.forall_mem_cons]
theorem inR_first (x : Int) (hs : 2 ≤ size x) (p : List UInt8) : inR (lo x) (hi x) p ↔ okT p ∧ ¬ bad x p := by
  have hx : 194 ≤ x ∧ x ≤ 244 := by
    unfold size at hs
    (repeat' split at hs) <;> omega
  cases p with
  | nil => simp [inR, okT, bad]
  | cons c t =>
    rw [okT_cons, inR, inR_ok]
    unfold bad bad2 lo hi
    constructor
    · rintro ⟨h1, h2, h3⟩
      refine ⟨⟨?_, h3⟩, ?_⟩
      · (repeat' split at h1) <;> (repeat' split at h2) <;> omega
      · (repeat' split at h1) <;> (repeat' split at h2) <;> omega
    · rintro ⟨⟨h1, h3⟩, h2⟩
      refine ⟨?_, ?_, h3⟩
      · (repeat' split) <;> omega
      · (repeat' split) <;> omega
def first (x : Int) : Int := if x ≤ 127 then x else if x ≤ 223 then x % 32 else if x ≤ 239 then x % 16 else x % 8
theorem size_le (x : Int) : 0 ≤ size x ∧ size x ≤ 4 := by unfold size; (repeat' split) <;> omega
theorem rd_tail (x : UInt8) (T : List UInt8) (hs : 1 ≤ size x.toNat) : rd (x :: T) = tail (size x.toNat - 1).toNat 1 (lo x.toNat) (hi x.toNat) (first x.toNat) T := by
  have hx0 : 0 ≤ (x.toNat : Int) := by omega
  by_cases a : (x.toNat : Int) ≤ 127
  · have e : size x.toNat = 1 := by unfold size; rw [if_pos a]
    rw [rd, if_pos a, e]
    simp [tail, first, a]
  · by_cases b : (x.toNat : Int) ≤ 193 ∨ 245 ≤ (x.toNat : Int)
    · exfalso
      unfold size at hs
      (repeat' split at hs) <;> omega
    · rw [rd, if_neg a, if_neg b]
      unfold first
      rw [if_neg a]
      by_cases c : (x.toNat : Int) ≤ 223
      · have e : size x.toNat = 2 := by unfold size; rw [if_neg a, if_pos (by omega)]
        rw [if_pos c, if_pos c, e]
        rfl
      · rw [if_neg c, if_neg c]
        by_cases d : (x.toNat : Int) ≤ 239
        · have e : size x.toNat = 3 := by unfold size; rw [if_neg a, if_neg (by omega), if_pos (by omega)]
          rw [if_pos d, if_pos d, e]
          rfl
        · have e : size x.toNat = 4 := by unfold size; rw [if_neg a, if_neg (by omega), if_neg (by omega), if_pos (by omega)]
          rw [if_neg d, if_neg d, e]
          rfl
theorem rd_zero (x : UInt8) (T : List UInt8) (hs : size x.toNat < 1) : rd (x :: T) = (65533, 1, false) := by
  have b : ((x.toNat : Int) ≤ 193 ∨ 245 ≤ (x.toNat : Int)) ∧ ¬ (x.toNat : Int) ≤ 127 := by
    unfold size at hs
    (repeat' split at hs) <;> omega
  rw [rd, if_neg b.2, if_pos b.1]
theorem st_cases (x : UInt8) (p : List UInt8) (W : Bool) (h : st (x :: p) = (true, W)) : ¬ size x.toNat < (p.length : Int) + 1 ∧ okT p ∧ ¬ bad x.toNat p ∧ W = decide ((p.length : Int) + 1 = size x.toNat) := by
  rw [st] at h
  split at h
  · cases h
  · rename_i hn
    injection h with h1 h2
    refine ⟨fun a => hn (.inl a), ?_, fun a => hn (.inr (.inr a)), h2.symm⟩
    exact Decidable.byContradiction fun a => hn (.inr (.inl a))
theorem inR_one (x : Int) (p : List UInt8) (hs : 1 ≤ size x) (hp : (p.length : Int) + 1 ≤ size x) (h1 : okT p) (h2 : ¬ bad x p) : inR (lo x) (hi x) p := by
  by_cases a : 2 ≤ size x
  · exact (inR_first x a p).2 ⟨h1, h2⟩
  · cases p with
    | nil => trivial
    | cons c t => simp at hp; omega
theorem whole_rd (x : UInt8) (p rest : List UInt8) (h : st (x :: p) = (true, true)) : rd (x :: (p ++ rest)) = (fo (first x.toNat) p, (p.length : Int) + 1, true) := by
  obtain ⟨h1, h2, h3, h4⟩ := st_cases x p true h
  have h5 : (p.length : Int) + 1 = size x.toNat := by simpa using h4.symm
  rw [rd_tail x _ (by omega), tail_whole p _ 1 _ _ _ rest (inR_one _ p (by omega) (by omega) h2 h3) (by omega)]
  refine Prod.ext rfl (Prod.ext ?_ rfl)
  simp only
  omega
theorem part_rd (x : UInt8) (p rest : List UInt8) (h : st (x :: p) = (true, false)) (hr : rest = [] ∨ ∃ c t, rest = c :: t ∧ (st (x :: (p ++ [c]))).1 = false) : rd (x :: (p ++ rest)) = (65533, (p.length : Int) + 1, false) := by
  obtain ⟨h1, h2, h3, h4⟩ := st_cases x p false h
  have h5 : ¬ (p.length : Int) + 1 = size x.toNat := by simpa using h4.symm
  have h6 : 2 ≤ size x.toNat := by omega
  rw [rd_tail x _ (by omega), tail_part p _ 1 _ _ _ rest (inR_one _ p (by omega) (by omega) h2 h3) (by omega) (by
    rcases hr with hr | ⟨c, t, rfl, hc⟩
    · exact .inl hr
    · refine .inr ⟨c, t, rfl, ?_, ?_⟩
      · rintro rfl
        have hn : ¬ inR (lo x.toNat) (hi x.toNat) [c] := by
          intro hi
          obtain ⟨a1, a2⟩ := (inR_first _ h6 [c]).1 hi
          have : st (x :: ([] ++ [c])) = (true, decide ((([c] : List UInt8).length : Int) + 1 = size x.toNat)) := st_yes x [c] (not3 (by simp; omega) a1 a2)
          rw [this] at hc
          cases hc
        simp only [inR, and_true] at hn
        omega
      · intro hp
        have hn : ¬ okT [c] := by
          intro hok
          have a1 : okT (p ++ [c]) := by
            intro d hd
            rcases List.mem_append.1 hd with hd | hd
            · exact h2 d hd
            · exact hok d hd
          have a2 : ¬ bad x.toNat (p ++ [c]) := by
            cases p with
            | nil => exact absurd rfl hp
            | cons d p => exact h3
          have : st (x :: (p ++ [c])) = (true, decide (((p ++ [c]).length : Int) + 1 = size x.toNat)) := st_yes x _ (not3 (by simp; omega) a1 a2)
          rw [this] at hc
          cases hc
        rw [okT_cons] at hn
        have : okT [] := by intro d hd; cases hd
        simp only [this, and_true] at hn
        omega)]
  refine Prod.ext rfl (Prod.ext ?_ rfl)
  simp only
  omega
theorem none_rd (x : UInt8) (T : List UInt8) (h : (st [x]).1 = false) : rd (x :: T) = (65533, 1, false) := by
  refine rd_zero x T ?_
  rcases Int.lt_or_le (size x.toNat) 1 with h1 | h1
  · exact h1
  · have : st [x] = (true, decide ((([] : List UInt8).length : Int) + 1 = size x.toNat)) := st_yes x [] (not3 (by simp; omega) (by intro d hd; cases hd) (fun h => h))
    rw [this] at h
    cases h
end Go.Proofs.YtleecmapaihhmaaDoor.RefN
