/- A strings.Builder of the call's own: what is written to it lets all blocks of other types be. -/
import Derived.Test.YtlbgcibdpeaomaaDoorBldA
import Derived.Test.YtlbgcibdpeaomaaDoorShelf
import Derived.Test.YtlbgcibdpeaomaaDoorBase4
namespace Go.Proofs.YtlbgcibdpeaomaaDoor.BldK
open Go.RowKit Go.Proofs.YtlbgcibdpeaomaaDoor.Base Go.Proofs.YtlbgcibdpeaomaaDoor.Base2 Go.Proofs.YtlbgcibdpeaomaaDoor.BldA

/-- All blocks but that one stay, if they hold no bytes. -/
def KeepB (b : Nat) (w w' : World) : Prop := ∀ (g : Nat) (C : Array Value) (T : TypeId) (m : Nat × Nat), g ≠ b → T ≠ 5 → w.heap[g]? = some (.cells C T m) → w'.heap[g]? = some (.cells C T m)
theorem KeepB.refl (b : Nat) (w : World) : KeepB b w w := fun _ _ _ _ _ _ h => h
theorem KeepB.trans {b : Nat} {w w1 w2 : World} (h : KeepB b w w1) (h2 : KeepB b w1 w2) : KeepB b w w2 := fun g C T m hg hT e => h2 g C T m hg hT (h g C T m hg hT e)
theorem KeepB.set (b : Nat) (w : World) (i : Nat) (v : Value) : KeepB b w (w.setCell ⟨b, i, none⟩ v) := fun g C T m hg _ e => (heap_setCell_other w ⟨b, i, none⟩ g v (fun e => hg e)).trans e
theorem check_keep (B b : Nat) (bs : List Value) (w : World) (h : Lib.IsBuilder 54 5 B b bs w) :
    Calls Tryd.prog 56 #[.pointer (some ⟨b, 0, none⟩)] w fun e w' => e = .returned (.tuple #[]) ∧ (Lib.BuilderAt 54 5 B b (.pointer (some ⟨b, 0, none⟩)) bs w' ∧ Below B w w') ∧ KeepB b w w' := by
  rcases h with h | h
  · refine (check_fresh b w h.cell0 h.shape h.frozen0).mono ?_
    rintro e w' ⟨rfl, rfl⟩
    exact ⟨rfl, ⟨h.used _, (Below.refl B w).setCell (p := ⟨b, 0, none⟩) h.1 _⟩, KeepB.set b w 0 _⟩
  · refine (check_used b w h.cell0).mono ?_
    rintro e w' ⟨rfl, rfl⟩
    exact ⟨rfl, ⟨h, Below.refl B _⟩, KeepB.refl _ _⟩
set_option maxHeartbeats 2000000 in
set_option maxRecDepth 100000 in
theorem write_keep (B b : Nat) (l : List UInt8) (s : ByteArray) (w : World) (h : IsB B b l w) (hlen : l.length + s.size ≤ 140737488355328) (hBw : B ≤ w.heap.size) :
    Calls Tryd.prog 39 #[.pointer (some ⟨b, 0, none⟩), .string s] w fun e w' => e = .returned (.tuple #[.int .i64 s.size, .nilIface]) ∧ IsB B b (l ++ s.data.toList) w' ∧ Below B w w' ∧ KeepB b w w' := by
  obtain ⟨i0, hi, hz0, hz1, hz2⟩ := info_parts info_u8
  have hlb : (Lib.byteCells l).length = l.length := by simp [Lib.byteCells]
  have HLB := Base.hid hlb
  clear hlb
  go_enter Tryd.func39, Tryd.ntmps39
  go_wp2_with (refine (check_keep B b _ _ h).mono ?_)
  rintro e w1 ⟨rfl, ⟨h1, hb1⟩, hk1⟩
  have HK1 := Base.hid hk1
  clear hk1
  obtain ⟨hB, v, hbk, hown, hne⟩ := h1
  have c0 : w1.cell? ⟨b, 0, none⟩ = some (.pointer (some ⟨b, 0, none⟩)) := by rw [Lib.cell_of_heap hbk]; rfl
  have c1 : w1.cell? ⟨b, 1, none⟩ = some v := by rw [Lib.cell_of_heap hbk]; rfl
  go_wp2_with (at_builtin; refine Lib.wpList_append_own_string _ rfl _ _ 38 9 rfl B 5 i0 Tryd.underlying38 Tryd.underlying9 hi hz0 hz1 hz2 _ _ _ rfl hown s rfl ?c3 ?c4 ?c5 ?_)
  case c3 => have := HLB.out; unfold maxLen; omega
  case c4 => have := HLB.out; omega
  case c5 => have := hb1.size; omega
  intro v' w2 hown' hgrow _
  have hk2 : KeepB b w1 w2 := by
    intro g C T m hg hT e
    have hlt : g < w1.heap.size := (Array.getElem?_eq_some_iff.1 e).1
    rw [hgrow.block g hlt (fun e2 => ?_)]
    · exact e
    · rcases hown.2 with ⟨hv, _⟩ | ⟨g', cap, cur, hv, _, hh, _⟩
      · rw [hv] at e2
        cases e2
      · rw [hv] at e2
        have e3 : g' = g := by simpa [Value.ownBlock, eq_comm] using e2
        subst e3
        rw [e] at hh
        simp at hh
        exact hT hh.2.1
  have HK2 := Base.hid hk2
  clear hk2
  have hlt : b < w1.heap.size := (Array.getElem?_eq_some_iff.1 hbk).1
  have hb2 : w2.heap[b]? = some (.cells #[.pointer (some ⟨b, 0, none⟩), v] 54 (0, 0)) := by
    rw [hgrow.block b hlt (fun e => hne e.symm)]
    exact hbk
  have d0 : w2.cell? ⟨b, 0, none⟩ = some (.pointer (some ⟨b, 0, none⟩)) := by rw [Lib.cell_of_heap hb2]; rfl
  have d1 : w2.cell? ⟨b, 1, none⟩ = some v := by rw [Lib.cell_of_heap hb2]; rfl
  have f1 : w2.frozen? ⟨b, 1, none⟩ = false := Lib.frozen_of_heap hb2 1
  obtain ⟨ao, n', cap, rfl⟩ : ∃ ao n' cap, v' = .slice ao n' cap := by
    rcases hown'.2 with ⟨hv, _⟩ | ⟨g, cap, cur, hv, _⟩
    · exact ⟨_, _, _, hv⟩
    · exact ⟨_, _, _, hv⟩
  go_wp2
  go_ret2
  refine ⟨rfl, Or.inr ?_, ?_, (HK1.out.trans HK2.out).trans (KeepB.set b w2 1 _)⟩
  · have hp := Lib.BuilderAt.put (T := 54) (e := 5) hB hb2 (bs' := Lib.byteCells l ++ Lib.strCells s) (by simpa [Lib.strCells_length] using hown') (by decide)
    have e : Lib.byteCells (l ++ s.data.toList) = Lib.byteCells l ++ Lib.strCells s := by simp [Lib.byteCells, Lib.strCells]
    rw [e]
    exact hp
  · exact (hb1.grown hgrow (by have := hb1.size; omega) (fun k hk => (hown.lt k hk).1)).setCell (p := ⟨b, 1, none⟩) hB _
theorem string_any (B b : Nat) (l : List UInt8) (w : World) (h : IsB B b l w) (hBw : B ≤ w.heap.size) :
    Calls Tryd.prog 41 #[.pointer (some ⟨b, 0, none⟩)] w fun e w' => e = .returned (.string (strOf l)) ∧ Below B w w' := Tryd.Builder_String B b l w h hBw
theorem isB_below {B b : Nat} {l : List UInt8} {w w' : World} (h : IsB B b l w) (hb : Below w.heap.size w w') : IsB B b l w' := by
  rcases h with ⟨h1, v, h2, h3, h4⟩ | ⟨h1, v, h2, h3, h4⟩
  · exact Or.inl ⟨h1, v, (hb.block _ (Array.getElem?_eq_some_iff.1 h2).1).trans h2, owns_below h3 hb, h4⟩
  · exact Or.inr ⟨h1, v, (hb.block _ (Array.getElem?_eq_some_iff.1 h2).1).trans h2, owns_below h3 hb, h4⟩
end Go.Proofs.YtlbgcibdpeaomaaDoor.BldK
