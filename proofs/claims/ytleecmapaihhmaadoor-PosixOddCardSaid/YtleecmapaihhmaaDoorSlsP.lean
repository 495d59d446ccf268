/- Texts parted at one byte: plain. -/
import Derived.Test.YtleecmapaihhmaaDoorMA
set_option linter.unusedSimpArgs false
set_option linter.unusedVariables false
namespace Go.Proofs.YtleecmapaihhmaaDoor.SlsP
open Go.RowKit Go.Proofs.YtleecmapaihhmaaDoor.Base
/-- The parts of a text, between bytes b. -/
def spl (b : UInt8) : List UInt8 → List (List UInt8)
  | [] => [[]]
  | c :: L => if c = b then [] :: spl b L else match spl b L with
    | [] => [[c]]
    | x :: r => (c :: x) :: r
theorem spl_ne (b : UInt8) : ∀ L : List UInt8, spl b L ≠ []
  | [] => by simp [spl]
  | c :: L => by
    unfold spl
    split
    · simp
    · split <;> simp
theorem spl_at (b : UInt8) (L : List UInt8) : spl b (b :: L) = [] :: spl b L := by rw [spl, if_pos rfl]
theorem spl_not (b c : UInt8) (L : List UInt8) (h : c ≠ b) : spl b (c :: L) = match spl b L with
    | [] => [[c]]
    | x :: r => (c :: x) :: r := by rw [spl, if_neg h]
theorem spl_snoc_at (b : UInt8) : ∀ L : List UInt8, spl b (L ++ [b]) = spl b L ++ [[]]
  | [] => by simp [spl]
  | c :: L => by
    rw [List.cons_append, spl, spl, spl_snoc_at b L]
    split
    · rfl
    · have := spl_ne b L
      cases h : spl b L with
      | nil => exact absurd h this
      | cons x r => rfl
theorem spl_snoc_other (b d : UInt8) (hd : d ≠ b) : ∀ L : List UInt8, ∃ xs x, spl b L = xs ++ [x] ∧ spl b (L ++ [d]) = xs ++ [x ++ [d]]
  | [] => ⟨[], [], rfl, by simp [spl, hd]⟩
  | c :: L => by
    obtain ⟨xs, x, h1, h2⟩ := spl_snoc_other b d hd L
    rw [List.cons_append, spl, spl, h1, h2]
    split
    · exact ⟨[] :: xs, x, rfl, rfl⟩
    · cases xs with
      | nil => exact ⟨[], c :: x, rfl, rfl⟩
      | cons y ys => exact ⟨(c :: y) :: ys, x, rfl, rfl⟩
theorem length_spl (b : UInt8) : ∀ L : List UInt8, (spl b L).length ≤ L.length + 1
  | [] => by simp [spl]
  | c :: L => by
    have ih := length_spl b L
    unfold spl
    split
    · simp; omega
    · split
      · simp
      · rename_i h
        rw [h] at ih
        simp at ih ⊢
        omega
theorem spl_len (b : UInt8) : ∀ (L : List UInt8), ∀ x ∈ spl b L, x.length ≤ L.length
  | [] => by simp [spl]
  | c :: L => by
    have ih := spl_len b L
    intro x hx
    unfold spl at hx
    split at hx
    · rcases List.mem_cons.1 hx with rfl | hx
      · simp
      · have := ih x hx; simp; omega
    · split at hx
      · rename_i h
        simp at hx
        subst hx
        simp
      · rename_i y r h
        rcases List.mem_cons.1 hx with rfl | hx
        · have := ih y (by rw [h]; simp); simp; omega
        · have := ih x (by rw [h]; simp [hx]); simp; omega
theorem spl_out (b : UInt8) : ∀ (L : List UInt8), ∀ x ∈ spl b L, ∀ d ∈ x, d ∈ L ∧ d ≠ b
  | [] => by simp [spl]
  | c :: L => by
    have ih := spl_out b L
    intro x hx d hd
    unfold spl at hx
    split at hx
    · rcases List.mem_cons.1 hx with rfl | hx
      · simp at hd
      · have := ih x hx d hd; exact ⟨List.mem_cons_of_mem _ this.1, this.2⟩
    · rename_i hc
      split at hx
      · simp at hx
        subst hx
        simp at hd
        subst hd
        exact ⟨List.mem_cons_self, hc⟩
      · rename_i y r h
        rcases List.mem_cons.1 hx with rfl | hx
        · rcases List.mem_cons.1 hd with rfl | hd
          · exact ⟨List.mem_cons_self, hc⟩
          · have := ih y (by rw [h]; simp) d hd; exact ⟨List.mem_cons_of_mem _ this.1, this.2⟩
        · have := ih x (by rw [h]; simp [hx]) d hd; exact ⟨List.mem_cons_of_mem _ this.1, this.2⟩
/-- What was parted, put together again. -/
def glue (b : UInt8) (l : List (List UInt8)) : List UInt8 := l.flatMap fun x => b :: x
theorem glue_spl (b : UInt8) : ∀ L : List UInt8, glue b (spl b L) = b :: L
  | [] => by simp [spl, glue]
  | c :: L => by
    have ih := glue_spl b L
    unfold spl
    split
    · rename_i h
      subst h
      rw [glue, List.flatMap_cons]
      show _ ++ glue c (spl c L) = _
      rw [ih]
      rfl
    · split
      · rename_i h
        exact absurd h (spl_ne b L)
      · rename_i y r h
        rw [h] at ih
        simp only [glue, List.flatMap_cons, List.cons_append, List.cons.injEq, true_and] at ih ⊢
        rw [ih]
theorem spl_glue (b : UInt8) : ∀ (x : List UInt8) (r : List (List UInt8)), (∀ y ∈ x :: r, ∀ d ∈ y, d ≠ b) → spl b (x ++ glue b r) = x :: r
  | [], [], _ => by simp [glue, spl]
  | [], y :: r, h => by
    have := spl_glue b y r (fun z hz => h z (List.mem_cons_of_mem _ hz))
    rw [List.nil_append, glue, List.flatMap_cons, List.cons_append, spl_at]
    show _ :: spl b (y ++ glue b r) = _
    rw [this]
  | c :: x, r, h => by
    have hc : c ≠ b := h (c :: x) List.mem_cons_self c List.mem_cons_self
    have := spl_glue b x r (fun z hz d hd => by
      rcases List.mem_cons.1 hz with rfl | hz
      · exact h (c :: z) List.mem_cons_self d (List.mem_cons_of_mem _ hd)
      · exact h z (List.mem_cons_of_mem _ hz) d hd)
    rw [List.cons_append, spl_not b c _ hc, this]
theorem spl_inj {b : UInt8} {L M : List UInt8} (h : spl b L = spl b M) : L = M := by
  have := glue_spl b L
  rw [h, glue_spl] at this
  simpa using this.symm
theorem spl_count (b : UInt8) : ∀ L : List UInt8, (spl b L).length = L.count b + 1
  | [] => by simp [spl]
  | c :: L => by
    have ih := spl_count b L
    unfold spl
    split
    · rename_i h
      subst h
      rw [List.count_cons_self, List.length_cons, ih]
    · rename_i h
      rw [List.count_cons_of_ne (by simpa using h)]
      split
      · rename_i h
        exact absurd h (spl_ne b L)
      · rename_i y r h
        rw [h] at ih
        exact ih
theorem spl_map (a b : UInt8) (f : UInt8 → UInt8) : ∀ L : List UInt8, (∀ c ∈ L, f c = b ↔ c = a) → spl b (L.map f) = (spl a L).map (List.map f)
  | [], _ => by simp [spl]
  | c :: L, h => by
    have ih := spl_map a b f L (fun d hd => h d (List.mem_cons_of_mem _ hd))
    have hc := h c List.mem_cons_self
    rw [List.map_cons]
    unfold spl
    by_cases e : c = a
    · rw [if_pos (hc.2 e), if_pos e, ih]
      rfl
    · rw [if_neg (fun x => e (hc.1 x)), if_neg e, ih]
      cases spl a L <;> rfl
end Go.Proofs.YtleecmapaihhmaaDoor.SlsP
