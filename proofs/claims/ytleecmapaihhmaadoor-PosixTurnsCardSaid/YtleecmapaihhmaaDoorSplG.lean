/- strings.Split at one byte, whichever. -/
import Derived.Test.YtleecmapaihhmaaDoorMA
import Derived.Test.YtleecmapaihhmaaDoorShelf3
import Derived.Lib.SplitLaws
import Derived.Lib.IndexLaws
set_option linter.unusedSimpArgs false
set_option linter.unusedVariables false
namespace Go.Proofs.YtleecmapaihhmaaDoor.Spl
open Go.RowKit Go.Proofs.YtleecmapaihhmaaDoor.Base Go.Proofs.YtleecmapaihhmaaDoor.Base2 Go.Proofs.YtleecmapaihhmaaDoor.Base3

/-- The library's own variable holds some number. -/
def Max (w : World) : Prop := ∃ m, w.cell? ⟨0, 0, none⟩ = some (.int .i64 m)
theorem Max.below {w w' : World} (h : Max w) (hb : Below w.heap.size w w') : Max w' := by
  obtain ⟨m, hm⟩ := h
  exact ⟨m, (hb.cell (World.block_lt_of_cell? _ _ hm)).trans hm⟩
theorem splitK_gen (b : UInt8) (f : List UInt8 → List (List UInt8)) (f0 : f [] = [[]]) (f1 : ∀ L, f (b :: L) = [] :: f L) (f2 : ∀ c L, c ≠ b → f (c :: L) = match f L with
    | [] => [[c]]
    | x :: r => (c :: x) :: r) : ∀ (L : List UInt8) (k : Nat), L.count b ≤ k → Lib.splitK [b] 0 k L = f L
  | [], 0, _ => f0.symm
  | [], k + 1, _ => f0.symm
  | a :: l, 0, h => by
    have hb : a ≠ b := by rintro rfl; simp at h
    have ih := splitK_gen b f f0 f1 f2 l 0 (by rw [List.count_cons_of_ne (by simpa using hb)] at h; exact h)
    show [a :: l] = _
    rw [f2 a l hb, ← ih]
    rfl
  | a :: l, k + 1, h => by
    by_cases hb : a = b
    · subst hb
      have ih := splitK_gen a f f0 f1 f2 l k (by simp at h; omega)
      have e : Lib.index (a :: l) [a] = 0 := by rw [Lib.index, if_pos (by simp [List.isPrefixOf])]
      rw [f1, Lib.splitK, e, if_neg (by decide)]
      show [] :: _ = _
      rw [← ih]
      rfl
    · have hc : l.count b ≤ k + 1 := by rw [List.count_cons_of_ne (by simpa using hb)] at h; exact h
      have ih := splitK_gen b f f0 f1 f2 l (k + 1) hc
      have e : Lib.index (a :: l) [b] = if Lib.index l [b] == -1 then -1 else Lib.index l [b] + 1 := by rw [Lib.index, if_neg (by simp [List.isPrefixOf, Ne.symm hb])]
      rw [Lib.splitK] at ih ⊢
      rw [f2 a l hb, ← ih, e]
      by_cases hm : Lib.index l [b] = -1
      · rw [hm]
        rfl
      · have hge := Lib.index_ge l [b]
        obtain ⟨j, hj⟩ : ∃ j : Nat, Lib.index l [b] = j := ⟨(Lib.index l [b]).toNat, by omega⟩
        have h1 : ((j : Int) == -1) = false := beq_eq_false_iff_ne.2 (by omega)
        have h2 : ((j : Int) + 1 == -1) = false := beq_eq_false_iff_ne.2 (by omega)
        have h3 : ((j : Int) + 1).toNat = j + 1 := by omega
        simp only [hj, h1, Bool.false_eq_true, if_false, h2, h3]
        simp
/-- A slice that reads as these texts. -/
def Read (w : World) (l : List (List UInt8)) (e : Ending) (w' : World) : Prop := ∃ A n c, e = .returned (.slice A n c) ∧ n = l.length ∧ n ≤ c ∧ c ≤ maxLen ∧ Rds w' A n ((l.map strOf).map Value.string) ∧ Below w.heap.size w w'
theorem split_gen (b : UInt8) (f : List UInt8 → List (List UInt8)) (f0 : f [] = [[]]) (f1 : ∀ L, f (b :: L) = [] :: f L) (f2 : ∀ c L, c ≠ b → f (c :: L) = match f L with
    | [] => [[c]]
    | x :: r => (c :: x) :: r) (s : ByteArray) (w : World) (hs : s.size ≤ 1073741824) (hM : Max w) : Calls Tryd.prog 18 #[.string s, .string ⟨#[b]⟩] w (Read w (f s.data.toList)) := by
  obtain ⟨m, hm⟩ := hM
  refine (Tryd.strings_Split s ⟨#[b]⟩ m w (by omega) hm (Nat.le_refl _)).mono ?_
  rintro e w' ⟨rfl, rfl⟩
  have hd := Lib.splitB_data ⟨#[b]⟩ 0 (Lib.countB s ⟨#[b]⟩) s
  rw [show (⟨#[b]⟩ : ByteArray).data.toList = [b] from rfl, splitK_gen b f f0 f1 f2 _ _ (by rw [← Lib.count_one]; exact Nat.le_refl _)] at hd
  have hl := Lib.splitB_all ⟨#[b]⟩ (Nat.le_refl _) 0 _ s rfl
  have hc := Lib.countB_le ⟨#[b]⟩ (Nat.le_refl _) s.size s (Nat.le_refl _)
  generalize Lib.splitB ⟨#[b]⟩ 0 (Lib.countB s ⟨#[b]⟩) s = B at hd hl ⊢
  have hB : B = (f s.data.toList).map strOf := by
    rw [← hd, List.map_map]
    conv => lhs; rw [← List.map_id B]
    exact List.map_congr_left fun x _ => (strOf_toList x).symm
  unfold Read
  rw [← hB]
  refine ⟨_, _, _, rfl, by rw [← hl, hB, List.length_map], Nat.le_refl _, by unfold maxLen; omega, ?_, (Below.refl _ _).alloc (Nat.le_refl _) _⟩
  exact Rds.of_spot (by rw [List.length_map, hl]) (by simp) (fun j hj => by
    rw [Nat.zero_add, World.cell?_alloc_mark]
    simp)
end Go.Proofs.YtleecmapaihhmaaDoor.Spl
