/- strings.Split at one byte: between points, between colons; strings.Contains at a point; strings.Cut at two colons. -/
import Derived.Test.YtnmkkejodkjjiaaDoorSixQ
import Derived.Test.YtnmkkejodkjjiaaDoorBase3
import Derived.Test.YtnmkkejodkjjiaaDoorShelf
import Derived.Lib.SplitLaws
import Derived.Lib.IndexLaws
namespace Go.Proofs.YtnmkkejodkjjiaaDoor.Spl
open Go.RowKit Go.Proofs.YtnmkkejodkjjiaaDoor.Base Go.Proofs.YtnmkkejodkjjiaaDoor.Base2 Go.Proofs.YtnmkkejodkjjiaaDoor.Base3 Go.Proofs.YtnmkkejodkjjiaaDoor.QudP Go.Proofs.YtnmkkejodkjjiaaDoor.SixP Go.Proofs.YtnmkkejodkjjiaaDoor.SixQ

/-- The library's own variable holds some number. -/
def Max (w : World) : Prop := ∃ m, w.cell? ⟨0, 0, none⟩ = some (.int .i64 m)
theorem Max.below {w w' : World} (h : Max w) (hb : Below w.heap.size w w') : Max w' := by
  obtain ⟨m, hm⟩ := h
  exact ⟨m, (hb.cell (World.block_lt_of_cell? _ _ hm)).trans hm⟩
theorem splitK_gen (b : UInt8) (f : List UInt8 → List (List UInt8)) (f0 : f [] = [[]]) (f1 : ∀ L, f (b :: L) = [] :: f L) (f2 : ∀ c L, c ≠ b → f (c :: L) = match f L with
    | [] => [[c]]
    | x :: r => (c :: x) :: r) : ∀ (L : List UInt8) (k : Nat), L.count b ≤ k → Lib.splitK [b] 0 k L = f L
  | [], 0, _ => f0.symm
  | [], k + 1, _ => f0.symm
  | a :: l, 0, h => by
    have hb : a ≠ b := by rintro rfl; simp at h
    have ih := splitK_gen b f f0 f1 f2 l 0 (by rw [List.count_cons_of_ne (by simpa using hb)] at h; exact h)
    show [a :: l] = _
    rw [f2 a l hb, ← ih]
    rfl
  | a :: l, k + 1, h => by
    by_cases hb : a = b
    · subst hb
      have ih := splitK_gen a f f0 f1 f2 l k (by simp at h; omega)
      have e : Lib.index (a :: l) [a] = 0 := by rw [Lib.index, if_pos (by simp [List.isPrefixOf])]
      rw [f1, Lib.splitK, e, if_neg (by decide)]
      show [] :: _ = _
      rw [← ih]
      rfl
    · have hc : l.count b ≤ k + 1 := by rw [List.count_cons_of_ne (by simpa using hb)] at h; exact h
      have ih := splitK_gen b f f0 f1 f2 l (k + 1) hc
      have e : Lib.index (a :: l) [b] = if Lib.index l [b] == -1 then -1 else Lib.index l [b] + 1 := by rw [Lib.index, if_neg (by simp [List.isPrefixOf, Ne.symm hb])]
      rw [Lib.splitK] at ih ⊢
      rw [f2 a l hb, ← ih, e]
      by_cases hm : Lib.index l [b] = -1
      · rw [hm]
        rfl
      · have hge := Lib.index_ge l [b]
        obtain ⟨j, hj⟩ : ∃ j : Nat, Lib.index l [b] = j := ⟨(Lib.index l [b]).toNat, by omega⟩
        have h1 : ((j : Int) == -1) = false := beq_eq_false_iff_ne.2 (by omega)
        have h2 : ((j : Int) + 1 == -1) = false := beq_eq_false_iff_ne.2 (by omega)
        have h3 : ((j : Int) + 1).toNat = j + 1 := by omega
        simp only [hj, h1, Bool.false_eq_true, if_false, h2, h3]
        simp
/-- A slice that reads as these texts. -/
def Read (w : World) (l : List (List UInt8)) (e : Ending) (w' : World) : Prop := ∃ A n c, e = .returned (.slice A n c) ∧ n = l.length ∧ n ≤ c ∧ c ≤ maxLen ∧ Rds w' A n ((l.map strOf).map Value.string) ∧ Below w.heap.size w w'
theorem split_gen (b : UInt8) (f : List UInt8 → List (List UInt8)) (f0 : f [] = [[]]) (f1 : ∀ L, f (b :: L) = [] :: f L) (f2 : ∀ c L, c ≠ b → f (c :: L) = match f L with
    | [] => [[c]]
    | x :: r => (c :: x) :: r) (s : ByteArray) (w : World) (hs : s.size ≤ 1073741824) (hM : Max w) : Calls Tryd.prog 43 #[.string s, .string ⟨#[b]⟩] w (Read w (f s.data.toList)) := by
  obtain ⟨m, hm⟩ := hM
  refine (Tryd.strings_Split s ⟨#[b]⟩ m w (by omega) hm (Nat.le_refl _)).mono ?_
  rintro e w' ⟨rfl, rfl⟩
  have hd := Lib.splitB_data ⟨#[b]⟩ 0 (Lib.countB s ⟨#[b]⟩) s
  rw [show (⟨#[b]⟩ : ByteArray).data.toList = [b] from rfl, splitK_gen b f f0 f1 f2 _ _ (by rw [← Lib.count_one]; exact Nat.le_refl _)] at hd
  have hl := Lib.splitB_all ⟨#[b]⟩ (Nat.le_refl _) 0 _ s rfl
  have hc := Lib.countB_le ⟨#[b]⟩ (Nat.le_refl _) s.size s (Nat.le_refl _)
  generalize Lib.splitB ⟨#[b]⟩ 0 (Lib.countB s ⟨#[b]⟩) s = B at hd hl ⊢
  have hB : B = (f s.data.toList).map strOf := by
    rw [← hd, List.map_map]
    conv => lhs; rw [← List.map_id B]
    exact List.map_congr_left fun x _ => (strOf_toList x).symm
  unfold Read
  rw [← hB]
  refine ⟨_, _, _, rfl, by rw [← hl, hB, List.length_map], Nat.le_refl _, by unfold maxLen; omega, ?_, (Below.refl _ _).alloc (Nat.le_refl _) _⟩
  exact Rds.of_spot (by rw [List.length_map, hl]) (by simp) (fun j hj => by
    rw [Nat.zero_add, World.cell?_alloc_mark]
    simp)
theorem split46_any (s : ByteArray) (w : World) (hs : s.size ≤ 1073741824) (hM : Max w) : Calls Tryd.prog 43 #[.string s, .string ⟨#[46]⟩] w (Read w (splt s.data.toList)) :=
  split_gen 46 splt rfl (fun L => by rw [splt, if_pos rfl]) (fun c L h => by rw [splt, if_neg h]; cases splt L <;> rfl) s w hs hM
theorem split58_any (s : ByteArray) (w : World) (hs : s.size ≤ 1073741824) (hM : Max w) : Calls Tryd.prog 43 #[.string s, .string ⟨#[58]⟩] w (Read w (splc s.data.toList)) :=
  split_gen 58 splc rfl splc_colon (fun c L h => by rw [splc, if_neg h]; cases splc L <;> rfl) s w hs hM
theorem has46 (L : List UInt8) : decide (0 ≤ Lib.indexByte L 46) = L.contains 46 := by
  have hge := Lib.indexByte_ge L 46
  by_cases h : Lib.indexByte L 46 = -1
  · have hn := Lib.indexByte_none h
    rw [decide_eq_false (by omega)]
    cases e : L.contains 46 with
    | false => rfl
    | true =>
      have hm : (46 : UInt8) ∈ L := by simpa using e
      obtain ⟨j, hj, he⟩ := List.getElem_of_mem hm
      exact absurd (List.getElem?_eq_some_iff.2 ⟨hj, he⟩) (hn j)
  · obtain ⟨o, ho⟩ : ∃ o : Nat, Lib.indexByte L 46 = o := ⟨(Lib.indexByte L 46).toNat, by omega⟩
    have hs := (Lib.indexByte_some ho).1
    rw [decide_eq_true (by omega)]
    obtain ⟨hj, he⟩ := List.getElem?_eq_some_iff.1 hs
    symm
    simpa using (show (46 : UInt8) ∈ L by rw [← he]; exact List.getElem_mem _)
theorem contains_any (s : ByteArray) (w : World) : Calls Tryd.prog 44 #[.string s, .string ⟨#[46]⟩] w fun e w' => e = .returned (.bool (s.data.toList.contains 46)) ∧ w = w' := by
  refine (Tryd.strings_Contains_one s 46 w).mono ?_
  rintro e w' ⟨rfl, rfl⟩
  exact ⟨ret_bool (has46 _), rfl⟩
theorem index_two : ∀ (s : List UInt8), Lib.cut s [58, 58] = match cut2 s with
    | some p => (p.1, p.2, true)
    | none => (s, [], false)
  | [] => rfl
  | [a] => by
    by_cases h : a = 58
    · subst h; rfl
    · have : Lib.index [a] [58, 58] = -1 := by
        rw [Lib.index, if_neg (by simp [List.isPrefixOf])]
        rfl
      unfold Lib.cut
      rw [this]
      rfl
  | a :: b :: r => by
    have ih := index_two (b :: r)
    rw [cut2]
    by_cases h : a = 58 ∧ b = 58
    · obtain ⟨rfl, rfl⟩ := h
      rw [if_pos ⟨rfl, rfl⟩]
      have : Lib.index (58 :: 58 :: r) [58, 58] = 0 := by rw [Lib.index, if_pos (by simp [List.isPrefixOf])]
      unfold Lib.cut
      rw [this]
      rfl
    · rw [if_neg h]
      have e : Lib.index (a :: b :: r) [58, 58] = if Lib.index (b :: r) [58, 58] == -1 then -1 else Lib.index (b :: r) [58, 58] + 1 := by
        rw [Lib.index, if_neg]
        simp only [List.isPrefixOf, Bool.and_eq_true, beq_iff_eq]
        rintro ⟨h1, h2, _⟩
        exact h ⟨h1.symm, h2.symm⟩
      have hge := Lib.index_ge (b :: r) [58, 58]
      unfold Lib.cut at ih ⊢
      rw [e]
      by_cases hm : Lib.index (b :: r) [58, 58] = -1
      · rw [hm] at ih ⊢
        cases hc : cut2 (b :: r) with
        | none => rfl
        | some p => rw [hc] at ih; simp at ih
      · obtain ⟨j, hj⟩ : ∃ j : Nat, Lib.index (b :: r) [58, 58] = j := ⟨(Lib.index (b :: r) [58, 58]).toNat, by omega⟩
        rw [hj] at ih ⊢
        have h1 : ((j : Int) == -1) = false := beq_eq_false_iff_ne.2 (by omega)
        rw [if_pos (by omega)] at ih
        simp only [h1, Bool.false_eq_true, if_false]
        rw [if_pos (by omega)]
        cases hc : cut2 (b :: r) with
        | none => rw [hc] at ih; simp at ih
        | some p =>
          rw [hc] at ih
          simp only [Prod.mk.injEq] at ih ⊢
          have h3 : ((j : Int) + 1).toNat = j + 1 := by omega
          rw [h3, ← ih.1, ← ih.2.1]
          refine ⟨?_, ?_, ?_⟩
          · simp
          · show List.drop (j + 2 + 1) (a :: b :: r) = List.drop (j + 2) (b :: r)
            rw [List.drop_succ_cons]
          · trivial
def cutV (s : ByteArray) : Value := match cut2 s.data.toList with
  | some p => .tuple #[.string (strOf p.1), .string (strOf p.2), .bool true]
  | none => .tuple #[.string s, .string (strOf []), .bool false]
theorem cut_any (s : ByteArray) (w : World) (hs : s.size ≤ 1073741824) (hM : Max w) : Calls Tryd.prog 22 #[.string s, .string ⟨#[58, 58]⟩] w fun e w' => e = .returned (cutV s) ∧ ∃ n, w' = w.drewN n := by
  obtain ⟨m, hm⟩ := hM
  refine (Tryd.strings_Cut s ⟨#[58, 58]⟩ m w (by omega) hm).mono ?_
  rintro e w' ⟨rfl, hn⟩
  refine ⟨?_, hn⟩
  rw [show (⟨#[58, 58]⟩ : ByteArray).data.toList = [58, 58] from rfl, index_two]
  unfold cutV
  cases cut2 s.data.toList with
  | none => exact ret3 (by show Value.string (strOf s.data.toList) = _; rw [strOf_toList]) rfl rfl
  | some p => rfl
end Go.Proofs.YtnmkkejodkjjiaaDoor.Spl
