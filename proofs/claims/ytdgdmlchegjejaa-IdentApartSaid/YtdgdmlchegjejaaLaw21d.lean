/- The walk of the law IdentApart: it returns true, whatever it is called with. -/
import Derived.Test.YtdgdmlchegjejaaIdnQ
import Derived.Test.YtdgdmlchegjejaaIdnW
import Derived.Test.YtdgdmlchegjejaaRegt
import Derived.Test.YtdgdmlchegjejaaRegg
import Derived.Stop.BytesEq
namespace Go.Proofs.Ytdgdmlchegjejaa.Laws
open Go.RowKit Go.Proofs.Ytdgdmlchegjejaa.Base Go.Proofs.Ytdgdmlchegjejaa.Base2 Go.Proofs.Ytdgdmlchegjejaa.IdnA Go.Proofs.Ytdgdmlchegjejaa.IdnP Go.Proofs.Ytdgdmlchegjejaa.IdnC Go.Proofs.Ytdgdmlchegjejaa.Regs

theorem cells16u {w : World} {b : Nat} {f : Nat → UInt8} (h : Arr w b fun k => (f k).toNat) : w.cell? ⟨b, 0, none⟩ = some (.int .u8 ((f 0).toNat : Int)) ∧ w.cell? ⟨b, 1, none⟩ = some (.int .u8 ((f 1).toNat : Int)) ∧ w.cell? ⟨b, 2, none⟩ = some (.int .u8 ((f 2).toNat : Int)) ∧ w.cell? ⟨b, 3, none⟩ = some (.int .u8 ((f 3).toNat : Int)) ∧ w.cell? ⟨b, 4, none⟩ = some (.int .u8 ((f 4).toNat : Int)) ∧ w.cell? ⟨b, 5, none⟩ = some (.int .u8 ((f 5).toNat : Int)) ∧ w.cell? ⟨b, 6, none⟩ = some (.int .u8 ((f 6).toNat : Int)) ∧ w.cell? ⟨b, 7, none⟩ = some (.int .u8 ((f 7).toNat : Int)) ∧ w.cell? ⟨b, 8, none⟩ = some (.int .u8 ((f 8).toNat : Int)) ∧ w.cell? ⟨b, 9, none⟩ = some (.int .u8 ((f 9).toNat : Int)) ∧ w.cell? ⟨b, 10, none⟩ = some (.int .u8 ((f 10).toNat : Int)) ∧ w.cell? ⟨b, 11, none⟩ = some (.int .u8 ((f 11).toNat : Int)) ∧ w.cell? ⟨b, 12, none⟩ = some (.int .u8 ((f 12).toNat : Int)) ∧ w.cell? ⟨b, 13, none⟩ = some (.int .u8 ((f 13).toNat : Int)) ∧ w.cell? ⟨b, 14, none⟩ = some (.int .u8 ((f 14).toNat : Int)) ∧ w.cell? ⟨b, 15, none⟩ = some (.int .u8 ((f 15).toNat : Int)) := by
  refine ⟨?_, ?_, ?_, ?_, ?_, ?_, ?_, ?_, ?_, ?_, ?_, ?_, ?_, ?_, ?_, ?_⟩ <;> exact (cell_of_row w b _ _ _ _ h).trans rfl
theorem cells16n {w : World} {b : Nat} {f : Nat → Nat} (h : Arr w b f) : w.cell? ⟨b, 0, none⟩ = some (.int .u8 ((f 0 : Nat) : Int)) ∧ w.cell? ⟨b, 1, none⟩ = some (.int .u8 ((f 1 : Nat) : Int)) ∧ w.cell? ⟨b, 2, none⟩ = some (.int .u8 ((f 2 : Nat) : Int)) ∧ w.cell? ⟨b, 3, none⟩ = some (.int .u8 ((f 3 : Nat) : Int)) ∧ w.cell? ⟨b, 4, none⟩ = some (.int .u8 ((f 4 : Nat) : Int)) ∧ w.cell? ⟨b, 5, none⟩ = some (.int .u8 ((f 5 : Nat) : Int)) ∧ w.cell? ⟨b, 6, none⟩ = some (.int .u8 ((f 6 : Nat) : Int)) ∧ w.cell? ⟨b, 7, none⟩ = some (.int .u8 ((f 7 : Nat) : Int)) ∧ w.cell? ⟨b, 8, none⟩ = some (.int .u8 ((f 8 : Nat) : Int)) ∧ w.cell? ⟨b, 9, none⟩ = some (.int .u8 ((f 9 : Nat) : Int)) ∧ w.cell? ⟨b, 10, none⟩ = some (.int .u8 ((f 10 : Nat) : Int)) ∧ w.cell? ⟨b, 11, none⟩ = some (.int .u8 ((f 11 : Nat) : Int)) ∧ w.cell? ⟨b, 12, none⟩ = some (.int .u8 ((f 12 : Nat) : Int)) ∧ w.cell? ⟨b, 13, none⟩ = some (.int .u8 ((f 13 : Nat) : Int)) ∧ w.cell? ⟨b, 14, none⟩ = some (.int .u8 ((f 14 : Nat) : Int)) ∧ w.cell? ⟨b, 15, none⟩ = some (.int .u8 ((f 15 : Nat) : Int)) := by
  refine ⟨?_, ?_, ?_, ?_, ?_, ?_, ?_, ?_, ?_, ?_, ?_, ?_, ?_, ?_, ?_, ?_⟩ <;> exact (cell_of_row w b _ _ _ _ h).trans rfl
/-- An array with the two places masked, where that has been done. -/
def ga (f : Nat → Nat) (x y : Bool) (k : Nat) : Nat := if k = 6 then (if x = true then f 6 % 16 else f 6) else if k = 8 then (if y = true then f 8 % 64 else f 8) else f k
/-- What the two boxes hold, by which stores have been done. -/
def Two (w0 : World) (ba bb : Nat) (f g : Nat → Nat) (L : Nat → Bool) (_ : Nat → Value) (w : World) : Prop :=
  Below ba w0 w ∧ Arr w ba (ga f (L 13) (L 17)) ∧ Arr w bb (ga g (L 15) (L 19))
theorem ga_none (f : Nat → Nat) : ga f false false = f := by
  funext k
  unfold ga
  split
  · next h => subst h; rfl
  · split
    · next h => subst h; rfl
    · rfl
theorem ga_six (f : Nat → Nat) (x y : Bool) : (fun k => if k = 6 then f 6 % 16 else ga f x y k) = ga f true y := by
  funext k
  unfold ga
  by_cases h : k = 6 <;> simp [h]
theorem ga_eight (f : Nat → Nat) (x y : Bool) : (fun k => if k = 8 then f 8 % 64 else ga f x y k) = ga f x true := by
  funext k
  unfold ga
  by_cases h : k = 8
  · subst h; simp
  · by_cases h6 : k = 6 <;> simp [h, h6]
theorem arr_other {w : World} {b : Nat} {g : Nat → Nat} (h : Arr w b g) (a : Addr) (v : Value) (hn : b ≠ a.block) : Arr (w.setCell a v) b g := (heap_setCell_other w a b v hn).trans h
section
variable {w0 : World} {ba bb : Nat} {f g : Nat → Nat} {L : Nat → Bool} {t : Nat → Value} {v : Value} {w : World}
theorem stab (i : Nat) (hi : (i == 13 || i == 15 || i == 17 || i == 19) = false) {w' : World} (hb : Below w.heap.size w w') (hG : Two w0 ba bb f g L t w) : Two w0 ba bb f g (did L i) (upd t i v) w' := by
  simp only [Bool.or_eq_false_iff, beq_eq_false_iff_ne] at hi
  obtain ⟨⟨⟨h1, h2⟩, h3⟩, h4⟩ := hi
  obtain ⟨k1, k2, k3⟩ := hG
  have s2 := (Array.getElem?_eq_some_iff.1 k2).1
  have s3 := (Array.getElem?_eq_some_iff.1 k3).1
  unfold Two
  rw [did_ne L (Ne.symm h1), did_ne L (Ne.symm h2), did_ne L (Ne.symm h3), did_ne L (Ne.symm h4)]
  exact ⟨k1.trans (hb.mono (by omega)), (hb.block _ s2).trans k2, (hb.block _ s3).trans k3⟩
theorem put_a6 (hne : ba < bb) (hG : Two w0 ba bb f g L t w) : Two w0 ba bb f g (did L 13) (upd t 13 v) (w.setCell ⟨ba, 6, none⟩ (.int .u8 ((f 6 % 16 : Nat) : Int))) := by
  obtain ⟨k1, k2, k3⟩ := hG
  refine ⟨k1.setCell (Nat.le_refl _) _, ?_, ?_⟩
  · have := arr_put k2 6 (f 6 % 16) (by decide)
    rw [ga_six] at this
    rw [did_self, did_ne L (by decide)]
    exact this
  · rw [did_ne L (by decide), did_ne L (by decide)]
    exact arr_other k3 _ _ (by show bb ≠ ba; omega)
theorem put_a8 (hne : ba < bb) (hG : Two w0 ba bb f g L t w) : Two w0 ba bb f g (did L 17) (upd t 17 v) (w.setCell ⟨ba, 8, none⟩ (.int .u8 ((f 8 % 64 : Nat) : Int))) := by
  obtain ⟨k1, k2, k3⟩ := hG
  refine ⟨k1.setCell (Nat.le_refl _) _, ?_, ?_⟩
  · have := arr_put k2 8 (f 8 % 64) (by decide)
    rw [ga_eight] at this
    rw [did_self, did_ne L (by decide)]
    exact this
  · rw [did_ne L (by decide), did_ne L (by decide)]
    exact arr_other k3 _ _ (by show bb ≠ ba; omega)
theorem put_b6 (hne : ba < bb) (hG : Two w0 ba bb f g L t w) : Two w0 ba bb f g (did L 15) (upd t 15 v) (w.setCell ⟨bb, 6, none⟩ (.int .u8 ((g 6 % 16 : Nat) : Int))) := by
  obtain ⟨k1, k2, k3⟩ := hG
  refine ⟨k1.setCell (Nat.le_of_lt hne) _, ?_, ?_⟩
  · rw [did_ne L (by decide), did_ne L (by decide)]
    exact arr_other k2 _ _ (by show ba ≠ bb; omega)
  · have := arr_put k3 6 (g 6 % 16) (by decide)
    rw [ga_six] at this
    rw [did_self, did_ne L (by decide)]
    exact this
theorem put_b8 (hne : ba < bb) (hG : Two w0 ba bb f g L t w) : Two w0 ba bb f g (did L 19) (upd t 19 v) (w.setCell ⟨bb, 8, none⟩ (.int .u8 ((g 8 % 64 : Nat) : Int))) := by
  obtain ⟨k1, k2, k3⟩ := hG
  refine ⟨k1.setCell (Nat.le_of_lt hne) _, ?_, ?_⟩
  · rw [did_ne L (by decide), did_ne L (by decide)]
    exact arr_other k2 _ _ (by show ba ≠ bb; omega)
  · have := arr_put k3 8 (g 8 % 64) (by decide)
    rw [ga_eight] at this
    rw [did_self, did_ne L (by decide)]
    exact this
end
theorem cells_list (F : Nat → Nat) (hF : ∀ i, F i < 256) : #[.int .u8 ((F 0 : Nat) : Int), .int .u8 ((F 1 : Nat) : Int), .int .u8 ((F 2 : Nat) : Int), .int .u8 ((F 3 : Nat) : Int), .int .u8 ((F 4 : Nat) : Int), .int .u8 ((F 5 : Nat) : Int), .int .u8 ((F 6 : Nat) : Int), .int .u8 ((F 7 : Nat) : Int), .int .u8 ((F 8 : Nat) : Int), .int .u8 ((F 9 : Nat) : Int), .int .u8 ((F 10 : Nat) : Int), .int .u8 ((F 11 : Nat) : Int), .int .u8 ((F 12 : Nat) : Int), .int .u8 ((F 13 : Nat) : Int), .int .u8 ((F 14 : Nat) : Int), .int .u8 ((F 15 : Nat) : Int)] = (((List.range 16).map fun i => UInt8.ofNat (F i)).map Extern.Stop.cell).toArray := by
  have h : ∀ i, ((F i : Nat) : Int) = ((UInt8.ofNat (F i)).toNat : Int) := fun i => by have := hF i; simp; omega
  simp only [h]
  rfl
theorem eq_arr (F G : Nat → Nat) (hF : ∀ i, F i < 256) (hG : ∀ i, G i < 256) (C : Bool) (hC : C = true ↔ ∀ i, i < 16 → F i = G i) (w : World) : (binOp .eql 39 (.agg #[.int .u8 ((F 0 : Nat) : Int), .int .u8 ((F 1 : Nat) : Int), .int .u8 ((F 2 : Nat) : Int), .int .u8 ((F 3 : Nat) : Int), .int .u8 ((F 4 : Nat) : Int), .int .u8 ((F 5 : Nat) : Int), .int .u8 ((F 6 : Nat) : Int), .int .u8 ((F 7 : Nat) : Int), .int .u8 ((F 8 : Nat) : Int), .int .u8 ((F 9 : Nat) : Int), .int .u8 ((F 10 : Nat) : Int), .int .u8 ((F 11 : Nat) : Int), .int .u8 ((F 12 : Nat) : Int), .int .u8 ((F 13 : Nat) : Int), .int .u8 ((F 14 : Nat) : Int), .int .u8 ((F 15 : Nat) : Int)]) (.agg #[.int .u8 ((G 0 : Nat) : Int), .int .u8 ((G 1 : Nat) : Int), .int .u8 ((G 2 : Nat) : Int), .int .u8 ((G 3 : Nat) : Int), .int .u8 ((G 4 : Nat) : Int), .int .u8 ((G 5 : Nat) : Int), .int .u8 ((G 6 : Nat) : Int), .int .u8 ((G 7 : Nat) : Int), .int .u8 ((G 8 : Nat) : Int), .int .u8 ((G 9 : Nat) : Int), .int .u8 ((G 10 : Nat) : Int), .int .u8 ((G 11 : Nat) : Int), .int .u8 ((G 12 : Nat) : Int), .int .u8 ((G 13 : Nat) : Int), .int .u8 ((G 14 : Nat) : Int), .int .u8 ((G 15 : Nat) : Int)])).run Try.prog w = .ok (.bool C) w := by
  rw [cells_list F hF, cells_list G hG, run_eql_bytes w 39 5 16 (by kernel_rfl) (by kernel_rfl) (fun w => by simp [Try.sizeOf5]) _ _ (by simp) (by simp)]
  congr 2
  rw [Bool.eq_iff_iff, beq_iff_eq, hC]
  constructor
  · intro h i hi
    have h1 := congrArg (fun l => l[i]?) h
    simp [hi] at h1
    have h2 := congrArg UInt8.toNat h1
    have a := hF i
    have b := hG i
    simp at h2
    omega
  · intro h
    apply List.map_congr_left
    intro i hi
    rw [h i (by simpa using hi)]
theorem ga_lt (f : Nat → UInt8) (i : Nat) : ga (fun k => (f k).toNat) true true i < 256 := by
  have h6 := (f 6).toNat_lt
  have h8 := (f 8).toNat_lt
  have hi := (f i).toNat_lt
  unfold ga
  split
  · simp; omega
  · split
    · simp; omega
    · exact hi
theorem same_of (f g : Nat → UInt8) {B : Bool} (h : B = true ↔ ∀ j, j < 16 → byt j (f j).toNat = byt j (g j).toNat) : ∃ C : Bool, B = C ∧ ∀ w, (binOp .eql 39 (.agg #[.int .u8 (((ga (fun k => (f k).toNat) true true) 0 : Nat) : Int), .int .u8 (((ga (fun k => (f k).toNat) true true) 1 : Nat) : Int), .int .u8 (((ga (fun k => (f k).toNat) true true) 2 : Nat) : Int), .int .u8 (((ga (fun k => (f k).toNat) true true) 3 : Nat) : Int), .int .u8 (((ga (fun k => (f k).toNat) true true) 4 : Nat) : Int), .int .u8 (((ga (fun k => (f k).toNat) true true) 5 : Nat) : Int), .int .u8 (((ga (fun k => (f k).toNat) true true) 6 : Nat) : Int), .int .u8 (((ga (fun k => (f k).toNat) true true) 7 : Nat) : Int), .int .u8 (((ga (fun k => (f k).toNat) true true) 8 : Nat) : Int), .int .u8 (((ga (fun k => (f k).toNat) true true) 9 : Nat) : Int), .int .u8 (((ga (fun k => (f k).toNat) true true) 10 : Nat) : Int), .int .u8 (((ga (fun k => (f k).toNat) true true) 11 : Nat) : Int), .int .u8 (((ga (fun k => (f k).toNat) true true) 12 : Nat) : Int), .int .u8 (((ga (fun k => (f k).toNat) true true) 13 : Nat) : Int), .int .u8 (((ga (fun k => (f k).toNat) true true) 14 : Nat) : Int), .int .u8 (((ga (fun k => (f k).toNat) true true) 15 : Nat) : Int)]) (.agg #[.int .u8 (((ga (fun k => (g k).toNat) true true) 0 : Nat) : Int), .int .u8 (((ga (fun k => (g k).toNat) true true) 1 : Nat) : Int), .int .u8 (((ga (fun k => (g k).toNat) true true) 2 : Nat) : Int), .int .u8 (((ga (fun k => (g k).toNat) true true) 3 : Nat) : Int), .int .u8 (((ga (fun k => (g k).toNat) true true) 4 : Nat) : Int), .int .u8 (((ga (fun k => (g k).toNat) true true) 5 : Nat) : Int), .int .u8 (((ga (fun k => (g k).toNat) true true) 6 : Nat) : Int), .int .u8 (((ga (fun k => (g k).toNat) true true) 7 : Nat) : Int), .int .u8 (((ga (fun k => (g k).toNat) true true) 8 : Nat) : Int), .int .u8 (((ga (fun k => (g k).toNat) true true) 9 : Nat) : Int), .int .u8 (((ga (fun k => (g k).toNat) true true) 10 : Nat) : Int), .int .u8 (((ga (fun k => (g k).toNat) true true) 11 : Nat) : Int), .int .u8 (((ga (fun k => (g k).toNat) true true) 12 : Nat) : Int), .int .u8 (((ga (fun k => (g k).toNat) true true) 13 : Nat) : Int), .int .u8 (((ga (fun k => (g k).toNat) true true) 14 : Nat) : Int), .int .u8 (((ga (fun k => (g k).toNat) true true) 15 : Nat) : Int)])).run Try.prog w = .ok (.bool C) w := by
  refine ⟨B, rfl, fun w => eq_arr _ _ (ga_lt f) (ga_lt g) B (h.trans ?_) w⟩
  constructor <;> intro hh j hj <;> have h1 := hh j hj <;> unfold byt at * <;> unfold ga at *
  · by_cases h6 : j = 6
    · subst h6; simp at h1 ⊢; omega
    · by_cases h8 : j = 8
      · subst h8; simp at h1 ⊢; omega
      · simpa [h6, h8] using h1
  · by_cases h6 : j = 6
    · subst h6; simp at h1 ⊢; omega
    · by_cases h8 : j = 8
      · subst h8; simp at h1 ⊢; omega
      · simpa [h6, h8] using h1
set_option linter.unusedSimpArgs false in
set_option maxHeartbeats 4000000 in
set_option maxRecDepth 100000 in
theorem IdentApart_any (z y : Nat → Int) (w : World) (hz : ∀ i, i < 16 → 0 ≤ z i ∧ z i ≤ 255) (hy : ∀ i, i < 16 → 0 ≤ y i ∧ y i ≤ 255) :
    Calls Try.prog 9 #[.agg #[.int .u8 (z 0), .int .u8 (z 1), .int .u8 (z 2), .int .u8 (z 3), .int .u8 (z 4), .int .u8 (z 5), .int .u8 (z 6), .int .u8 (z 7), .int .u8 (z 8), .int .u8 (z 9), .int .u8 (z 10), .int .u8 (z 11), .int .u8 (z 12), .int .u8 (z 13), .int .u8 (z 14), .int .u8 (z 15)], .agg #[.int .u8 (y 0), .int .u8 (y 1), .int .u8 (y 2), .int .u8 (y 3), .int .u8 (y 4), .int .u8 (y 5), .int .u8 (y 6), .int .u8 (y 7), .int .u8 (y 8), .int .u8 (y 9), .int .u8 (y 10), .int .u8 (y 11), .int .u8 (y 12), .int .u8 (y 13), .int .u8 (y 14), .int .u8 (y 15)]] w fun e w' => e = .returned (.bool true) ∧ Below w.heap.size w w' := by
  obtain ⟨f, hf⟩ : ∃ f : Nat → UInt8, ∀ i, i < 16 → z i = ((f i).toNat : Int) := ⟨fun i => UInt8.ofNat (z i).toNat, fun i hi => by have := hz i hi; simp; omega⟩
  obtain ⟨g, hg⟩ : ∃ g : Nat → UInt8, ∀ i, i < 16 → y i = ((g i).toNat : Int) := ⟨fun i => UInt8.ofNat (y i).toNat, fun i hi => by have := hy i hi; simp; omega⟩
  rw [hf 0 (by decide), hf 1 (by decide), hf 2 (by decide), hf 3 (by decide), hf 4 (by decide), hf 5 (by decide), hf 6 (by decide), hf 7 (by decide), hf 8 (by decide), hf 9 (by decide), hf 10 (by decide), hf 11 (by decide), hf 12 (by decide), hf 13 (by decide), hf 14 (by decide), hf 15 (by decide), hg 0 (by decide), hg 1 (by decide), hg 2 (by decide), hg 3 (by decide), hg 4 (by decide), hg 5 (by decide), hg 6 (by decide), hg 7 (by decide), hg 8 (by decide), hg 9 (by decide), hg 10 (by decide), hg 11 (by decide), hg 12 (by decide), hg 13 (by decide), hg 14 (by decide), hg 15 (by decide)]
  clear hf hz hg hy
  obtain ⟨B, hB⟩ : ∃ B : Bool, B = ((strOf (nm f 16)).toList == (strOf (nm g 16)).toList) := ⟨_, rfl⟩
  have HE := hid hB.symm
  have HS : Hid (B = true ↔ ∀ j, j < 16 → byt j (f j).toNat = byt j (g j).toNat) := hid (by
    rw [hB, str_beq, decide_eq_true_iff]
    exact IdnQ.nm_same f g)
  clear hB
  go_enter Try.func9, Try.ntmps9
  go_wp2_with fail
  generalize hw1 : w.alloc _ = w1
  have hbel1 : Below w.heap.size w w1 := by rw [← hw1]; exact (Below.refl _ _).alloc (Nat.le_refl _) _
  have hA1 : Arr w1 w.heap.size fun k => (f k).toNat := by
    show _ = _
    rw [← hw1]
    exact heap_alloc_new w _
  have hs1 : w1.heap.size = w.heap.size + 1 := by rw [← hw1]; simp
  clear hw1
  generalize hw2 : w1.alloc _ = w2
  have hbel : Below w.heap.size w w2 := by rw [← hw2]; exact hbel1.alloc (by omega) _
  have HB : Arr w2 (w.heap.size + 1) fun k => (g k).toNat := by
    show _ = _
    rw [← hw2, ← hs1]
    exact heap_alloc_new w1 _
  have HA : Arr w2 w.heap.size fun k => (f k).toNat := by
    show _ = _
    rw [← hw2, heap_alloc_old w1 _ (by omega)]
    exact hA1
  have hba : w.heap.size < w2.heap.size := (Array.getElem?_eq_some_iff.1 HA).1
  have hbb : w.heap.size + 1 < w2.heap.size := (Array.getElem?_eq_some_iff.1 HB).1
  clear hw2 hA1 hbel1 hs1
  refine wp_region_rel (by kernel_rfl) [is (.agg #[.int .u8 ((f 0).toNat : Int), .int .u8 ((f 1).toNat : Int), .int .u8 ((f 2).toNat : Int), .int .u8 ((f 3).toNat : Int), .int .u8 ((f 4).toNat : Int), .int .u8 ((f 5).toNat : Int), .int .u8 ((f 6).toNat : Int), .int .u8 ((f 7).toNat : Int), .int .u8 ((f 8).toNat : Int), .int .u8 ((f 9).toNat : Int), .int .u8 ((f 10).toNat : Int), .int .u8 ((f 11).toNat : Int), .int .u8 ((f 12).toNat : Int), .int .u8 ((f 13).toNat : Int), .int .u8 ((f 14).toNat : Int), .int .u8 ((f 15).toNat : Int)]), is (.string (strOf (nm f 16))), is (.agg #[.int .u8 ((g 0).toNat : Int), .int .u8 ((g 1).toNat : Int), .int .u8 ((g 2).toNat : Int), .int .u8 ((g 3).toNat : Int), .int .u8 ((g 4).toNat : Int), .int .u8 ((g 5).toNat : Int), .int .u8 ((g 6).toNat : Int), .int .u8 ((g 7).toNat : Int), .int .u8 ((g 8).toNat : Int), .int .u8 ((g 9).toNat : Int), .int .u8 ((g 10).toNat : Int), .int .u8 ((g 11).toNat : Int), .int .u8 ((g 12).toNat : Int), .int .u8 ((g 13).toNat : Int), .int .u8 ((g 14).toNat : Int), .int .u8 ((g 15).toNat : Int)]), is (.string (strOf (nm g 16))), is (.bool B), is (.bool B)] [[], [0], [], [2], [1, 3], [4]] (by kernel_rfl) ?_ ?_
  · refine ⟨?_, ?_, ?_, ?_, ?_, ?_, trivial⟩
    · intro t wq hbq hh K hK
      clear hh
      simp only [filled, upd, Have, is, any, row, pick, Act.put, List.setIfInBounds_toArray, List.set_cons_zero, List.set_cons_succ, Nat.reduceAdd, Nat.reduceEqDiff, reduceIte] at hK ⊢
      obtain ⟨a0, a1, a2, a3, a4, a5, a6, a7, a8, a9, a10, a11, a12, a13, a14, a15⟩ := cells16u ((hbq.block _ hba).trans HA)
      go_simp
      exact hK _ _ (Below.refl _ _) rfl
    · intro t wq hbq hh K hK
      have e0 := hh.1
      simp only [pick] at e0
      replace e0 : t 0 = (.agg #[.int .u8 ((f 0).toNat : Int), .int .u8 ((f 1).toNat : Int), .int .u8 ((f 2).toNat : Int), .int .u8 ((f 3).toNat : Int), .int .u8 ((f 4).toNat : Int), .int .u8 ((f 5).toNat : Int), .int .u8 ((f 6).toNat : Int), .int .u8 ((f 7).toNat : Int), .int .u8 ((f 8).toNat : Int), .int .u8 ((f 9).toNat : Int), .int .u8 ((f 10).toNat : Int), .int .u8 ((f 11).toNat : Int), .int .u8 ((f 12).toNat : Int), .int .u8 ((f 13).toNat : Int), .int .u8 ((f 14).toNat : Int), .int .u8 ((f 15).toNat : Int)]) := e0
      clear hh
      simp only [filled, upd, Have, is, any, row, pick, Act.put, List.setIfInBounds_toArray, List.set_cons_zero, List.set_cons_succ, Nat.reduceAdd, Nat.reduceEqDiff, reduceIte] at hK ⊢
      simp only [e0] at hK ⊢
      go_simp
      refine (of_any f _).mono ?_
      rintro e w5 ⟨rfl, hb5⟩
      exact hK _ _ hb5 rfl
    · intro t wq hbq hh K hK
      clear hh
      simp only [filled, upd, Have, is, any, row, pick, Act.put, List.setIfInBounds_toArray, List.set_cons_zero, List.set_cons_succ, Nat.reduceAdd, Nat.reduceEqDiff, reduceIte] at hK ⊢
      obtain ⟨a0, a1, a2, a3, a4, a5, a6, a7, a8, a9, a10, a11, a12, a13, a14, a15⟩ := cells16u ((hbq.block _ hbb).trans HB)
      go_simp
      exact hK _ _ (Below.refl _ _) rfl
    · intro t wq hbq hh K hK
      have e2 := hh.1
      simp only [pick] at e2
      replace e2 : t 2 = (.agg #[.int .u8 ((g 0).toNat : Int), .int .u8 ((g 1).toNat : Int), .int .u8 ((g 2).toNat : Int), .int .u8 ((g 3).toNat : Int), .int .u8 ((g 4).toNat : Int), .int .u8 ((g 5).toNat : Int), .int .u8 ((g 6).toNat : Int), .int .u8 ((g 7).toNat : Int), .int .u8 ((g 8).toNat : Int), .int .u8 ((g 9).toNat : Int), .int .u8 ((g 10).toNat : Int), .int .u8 ((g 11).toNat : Int), .int .u8 ((g 12).toNat : Int), .int .u8 ((g 13).toNat : Int), .int .u8 ((g 14).toNat : Int), .int .u8 ((g 15).toNat : Int)]) := e2
      clear hh
      simp only [filled, upd, Have, is, any, row, pick, Act.put, List.setIfInBounds_toArray, List.set_cons_zero, List.set_cons_succ, Nat.reduceAdd, Nat.reduceEqDiff, reduceIte] at hK ⊢
      simp only [e2] at hK ⊢
      go_simp
      refine (of_any g _).mono ?_
      rintro e w5 ⟨rfl, hb5⟩
      exact hK _ _ hb5 rfl
    · intro t wq hbq hh K hK
      have e1 := hh.1
      simp only [pick] at e1
      replace e1 : t 1 = (.string (strOf (nm f 16))) := e1
      have e3 := hh.2.1
      simp only [pick] at e3
      replace e3 : t 3 = (.string (strOf (nm g 16))) := e3
      clear hh
      simp only [filled, upd, Have, is, any, row, pick, Act.put, List.setIfInBounds_toArray, List.set_cons_zero, List.set_cons_succ, Nat.reduceAdd, Nat.reduceEqDiff, reduceIte] at hK ⊢
      simp only [e1, e3] at hK ⊢
      go_simp
      rw [HE.out]
      exact hK _ _ (Below.refl _ _) rfl
    · intro t wq hbq hh K hK
      have e4 := hh.1
      simp only [pick] at e4
      replace e4 : t 4 = (.bool B) := e4
      clear hh
      simp only [filled, upd, Have, is, any, row, pick, Act.put, List.setIfInBounds_toArray, List.set_cons_zero, List.set_cons_succ, Nat.reduceAdd, Nat.reduceEqDiff, reduceIte] at hK ⊢
      simp only [e4] at hK ⊢
      go_simp
      exact hK _ _ (Below.refl _ _) rfl
  · intro t wq hbq hh
    have f5 := have_get hh 5 (by decide)
    simp only [pick] at f5
    replace f5 : t 5 = (.bool B) := f5
    clear hh
    simp only [filled, upd, Have, is, any, row, pick, Act.put, List.setIfInBounds_toArray, List.set_cons_zero, List.set_cons_succ, Nat.reduceAdd, Nat.reduceEqDiff, reduceIte]
    simp only [f5]
    have hA0 := (hbq.block _ hba).trans HA
    have hB0 := (hbq.block _ hbb).trans HB
    replace hbq := hbel.trans (hbq.mono hbel.size)
    clear HA HB hbel
    go_wp2_with fail
    refine wp_region_inv (by kernel_rfl) (Two w w.heap.size (w.heap.size + 1) (fun k => (f k).toNat) (fun k => (g k).toNat)) [is (.pointer (some ⟨w.heap.size, 6, none⟩)), is (.int .u8 ((f 6).toNat : Int)), is (.int .u8 (((f 6).toNat % 16 : Nat) : Int)), is (.pointer (some ⟨(w.heap.size + 1), 6, none⟩)), is (.int .u8 ((g 6).toNat : Int)), is (.int .u8 (((g 6).toNat % 16 : Nat) : Int)), is (.pointer (some ⟨w.heap.size, 8, none⟩)), is (.int .u8 ((f 8).toNat : Int)), is (.int .u8 (((f 8).toNat % 64 : Nat) : Int)), is (.pointer (some ⟨(w.heap.size + 1), 8, none⟩)), is (.int .u8 ((g 8).toNat : Int)), is (.int .u8 (((g 8).toNat % 64 : Nat) : Int)), is (.pointer (some ⟨w.heap.size, 6, none⟩)), any, is (.pointer (some ⟨(w.heap.size + 1), 6, none⟩)), any, is (.pointer (some ⟨w.heap.size, 8, none⟩)), any, is (.pointer (some ⟨(w.heap.size + 1), 8, none⟩)), any] [[], [0], [1], [], [3], [4], [], [6], [7], [], [9], [10], [], [0, 1, 2, 12], [], [3, 4, 5, 14], [], [6, 7, 8, 16], [], [9, 10, 11, 18]] (by kernel_rfl) (by repeat (first | exact free_nil | refine free_is _ ?_ | refine free_any ?_)) ?_ ?_ ?_
    · exact fun t => ⟨⟨hbq.os, hbq.tape, hbq.output, hbq.size, hbq.block⟩, by rw [ga_none]; exact hA0, by rw [ga_none]; exact hB0⟩
    · refine ⟨?_, ?_, ?_, ?_, ?_, ?_, ?_, ?_, ?_, ?_, ?_, ?_, ?_, ?_, ?_, ?_, ?_, ?_, ?_, ?_, trivial⟩
      · intro L t wq hG hL hC hN hh K hK
        clear hh
        simp only [filled, upd, Have, is, any, row, pick, Act.put, List.setIfInBounds_toArray, List.set_cons_zero, List.set_cons_succ, Nat.reduceAdd, Nat.reduceEqDiff, reduceIte] at hK ⊢
        go_simp
        exact hK _ _ rfl (stab 0 (by decide) (Below.refl _ _) hG)
      · intro L t wq hG hL hC hN hh K hK
        have e0 := hh.1
        simp only [pick] at e0
        replace e0 : t 0 = (.pointer (some ⟨w.heap.size, 6, none⟩)) := e0
        clear hh
        simp only [filled, upd, Have, is, any, row, pick, Act.put, List.setIfInBounds_toArray, List.set_cons_zero, List.set_cons_succ, Nat.reduceAdd, Nat.reduceEqDiff, reduceIte] at hK ⊢
        simp only [e0] at hK ⊢
        have hz : L 13 = false := by
          cases h : L 13 with
          | false => rfl
          | true =>
            have h1 := hC 13 h 1 (by decide)
            rw [hL] at h1
            cases h1
        have hc := (arr_at hG.2.1 6 (by decide)).1
        simp only [ga, hz] at hc
        go_simp
        exact hK _ _ rfl (stab 1 (by decide) (Below.refl _ _) hG)
      · intro L t wq hG hL hC hN hh K hK
        have e1 := hh.1
        simp only [pick] at e1
        replace e1 : t 1 = (.int .u8 ((f 6).toNat : Int)) := e1
        clear hh
        simp only [filled, upd, Have, is, any, row, pick, Act.put, List.setIfInBounds_toArray, List.set_cons_zero, List.set_cons_succ, Nat.reduceAdd, Nat.reduceEqDiff, reduceIte] at hK ⊢
        simp only [e1] at hK ⊢
        have hand := IdnA.and15 (f 6)
        go_simp
        exact hK _ _ (by simp) (stab 2 (by decide) (Below.refl _ _) hG)
      · intro L t wq hG hL hC hN hh K hK
        clear hh
        simp only [filled, upd, Have, is, any, row, pick, Act.put, List.setIfInBounds_toArray, List.set_cons_zero, List.set_cons_succ, Nat.reduceAdd, Nat.reduceEqDiff, reduceIte] at hK ⊢
        go_simp
        exact hK _ _ rfl (stab 3 (by decide) (Below.refl _ _) hG)
      · intro L t wq hG hL hC hN hh K hK
        have e3 := hh.1
        simp only [pick] at e3
        replace e3 : t 3 = (.pointer (some ⟨(w.heap.size + 1), 6, none⟩)) := e3
        clear hh
        simp only [filled, upd, Have, is, any, row, pick, Act.put, List.setIfInBounds_toArray, List.set_cons_zero, List.set_cons_succ, Nat.reduceAdd, Nat.reduceEqDiff, reduceIte] at hK ⊢
        simp only [e3] at hK ⊢
        have hz : L 15 = false := by
          cases h : L 15 with
          | false => rfl
          | true =>
            have h1 := hC 15 h 4 (by decide)
            rw [hL] at h1
            cases h1
        have hc := (arr_at hG.2.2 6 (by decide)).1
        simp only [ga, hz] at hc
        go_simp
        exact hK _ _ rfl (stab 4 (by decide) (Below.refl _ _) hG)
      · intro L t wq hG hL hC hN hh K hK
        have e4 := hh.1
        simp only [pick] at e4
        replace e4 : t 4 = (.int .u8 ((g 6).toNat : Int)) := e4
        clear hh
        simp only [filled, upd, Have, is, any, row, pick, Act.put, List.setIfInBounds_toArray, List.set_cons_zero, List.set_cons_succ, Nat.reduceAdd, Nat.reduceEqDiff, reduceIte] at hK ⊢
        simp only [e4] at hK ⊢
        have hand := IdnA.and15 (g 6)
        go_simp
        exact hK _ _ (by simp) (stab 5 (by decide) (Below.refl _ _) hG)
      · intro L t wq hG hL hC hN hh K hK
        clear hh
        simp only [filled, upd, Have, is, any, row, pick, Act.put, List.setIfInBounds_toArray, List.set_cons_zero, List.set_cons_succ, Nat.reduceAdd, Nat.reduceEqDiff, reduceIte] at hK ⊢
        go_simp
        exact hK _ _ rfl (stab 6 (by decide) (Below.refl _ _) hG)
      · intro L t wq hG hL hC hN hh K hK
        have e6 := hh.1
        simp only [pick] at e6
        replace e6 : t 6 = (.pointer (some ⟨w.heap.size, 8, none⟩)) := e6
        clear hh
        simp only [filled, upd, Have, is, any, row, pick, Act.put, List.setIfInBounds_toArray, List.set_cons_zero, List.set_cons_succ, Nat.reduceAdd, Nat.reduceEqDiff, reduceIte] at hK ⊢
        simp only [e6] at hK ⊢
        have hz : L 17 = false := by
          cases h : L 17 with
          | false => rfl
          | true =>
            have h1 := hC 17 h 7 (by decide)
            rw [hL] at h1
            cases h1
        have hc := (arr_at hG.2.1 8 (by decide)).1
        simp only [ga, hz] at hc
        go_simp
        exact hK _ _ rfl (stab 7 (by decide) (Below.refl _ _) hG)
      · intro L t wq hG hL hC hN hh K hK
        have e7 := hh.1
        simp only [pick] at e7
        replace e7 : t 7 = (.int .u8 ((f 8).toNat : Int)) := e7
        clear hh
        simp only [filled, upd, Have, is, any, row, pick, Act.put, List.setIfInBounds_toArray, List.set_cons_zero, List.set_cons_succ, Nat.reduceAdd, Nat.reduceEqDiff, reduceIte] at hK ⊢
        simp only [e7] at hK ⊢
        have hand := IdnA.and63 (f 8)
        go_simp
        exact hK _ _ (by simp) (stab 8 (by decide) (Below.refl _ _) hG)
      · intro L t wq hG hL hC hN hh K hK
        clear hh
        simp only [filled, upd, Have, is, any, row, pick, Act.put, List.setIfInBounds_toArray, List.set_cons_zero, List.set_cons_succ, Nat.reduceAdd, Nat.reduceEqDiff, reduceIte] at hK ⊢
        go_simp
        exact hK _ _ rfl (stab 9 (by decide) (Below.refl _ _) hG)
      · intro L t wq hG hL hC hN hh K hK
        have e9 := hh.1
        simp only [pick] at e9
        replace e9 : t 9 = (.pointer (some ⟨(w.heap.size + 1), 8, none⟩)) := e9
        clear hh
        simp only [filled, upd, Have, is, any, row, pick, Act.put, List.setIfInBounds_toArray, List.set_cons_zero, List.set_cons_succ, Nat.reduceAdd, Nat.reduceEqDiff, reduceIte] at hK ⊢
        simp only [e9] at hK ⊢
        have hz : L 19 = false := by
          cases h : L 19 with
          | false => rfl
          | true =>
            have h1 := hC 19 h 10 (by decide)
            rw [hL] at h1
            cases h1
        have hc := (arr_at hG.2.2 8 (by decide)).1
        simp only [ga, hz] at hc
        go_simp
        exact hK _ _ rfl (stab 10 (by decide) (Below.refl _ _) hG)
      · intro L t wq hG hL hC hN hh K hK
        have e10 := hh.1
        simp only [pick] at e10
        replace e10 : t 10 = (.int .u8 ((g 8).toNat : Int)) := e10
        clear hh
        simp only [filled, upd, Have, is, any, row, pick, Act.put, List.setIfInBounds_toArray, List.set_cons_zero, List.set_cons_succ, Nat.reduceAdd, Nat.reduceEqDiff, reduceIte] at hK ⊢
        simp only [e10] at hK ⊢
        have hand := IdnA.and63 (g 8)
        go_simp
        exact hK _ _ (by simp) (stab 11 (by decide) (Below.refl _ _) hG)
      · intro L t wq hG hL hC hN hh K hK
        clear hh
        simp only [filled, upd, Have, is, any, row, pick, Act.put, List.setIfInBounds_toArray, List.set_cons_zero, List.set_cons_succ, Nat.reduceAdd, Nat.reduceEqDiff, reduceIte] at hK ⊢
        go_simp
        exact hK _ _ rfl (stab 12 (by decide) (Below.refl _ _) hG)
      · intro L t wq hG hL hC hN hh K hK
        have e0 := hh.1
        simp only [pick] at e0
        replace e0 : t 0 = (.pointer (some ⟨w.heap.size, 6, none⟩)) := e0
        have e1 := hh.2.1
        simp only [pick] at e1
        replace e1 : t 1 = (.int .u8 ((f 6).toNat : Int)) := e1
        have e2 := hh.2.2.1
        simp only [pick] at e2
        replace e2 : t 2 = (.int .u8 (((f 6).toNat % 16 : Nat) : Int)) := e2
        have e12 := hh.2.2.2.1
        simp only [pick] at e12
        replace e12 : t 12 = (.pointer (some ⟨w.heap.size, 6, none⟩)) := e12
        clear hh
        simp only [filled, upd, Have, is, any, row, pick, Act.put, List.setIfInBounds_toArray, List.set_cons_zero, List.set_cons_succ, Nat.reduceAdd, Nat.reduceEqDiff, reduceIte] at hK ⊢
        simp only [e0, e1, e2, e12] at hK ⊢
        have hc := arr_at hG.2.1 6 (by decide)
        obtain ⟨hc1, hc2⟩ := hc
        go_simp
        exact hK undef _ trivial (put_a6 (Nat.lt_succ_self _) hG)
      · intro L t wq hG hL hC hN hh K hK
        clear hh
        simp only [filled, upd, Have, is, any, row, pick, Act.put, List.setIfInBounds_toArray, List.set_cons_zero, List.set_cons_succ, Nat.reduceAdd, Nat.reduceEqDiff, reduceIte] at hK ⊢
        go_simp
        exact hK _ _ rfl (stab 14 (by decide) (Below.refl _ _) hG)
      · intro L t wq hG hL hC hN hh K hK
        have e3 := hh.1
        simp only [pick] at e3
        replace e3 : t 3 = (.pointer (some ⟨(w.heap.size + 1), 6, none⟩)) := e3
        have e4 := hh.2.1
        simp only [pick] at e4
        replace e4 : t 4 = (.int .u8 ((g 6).toNat : Int)) := e4
        have e5 := hh.2.2.1
        simp only [pick] at e5
        replace e5 : t 5 = (.int .u8 (((g 6).toNat % 16 : Nat) : Int)) := e5
        have e14 := hh.2.2.2.1
        simp only [pick] at e14
        replace e14 : t 14 = (.pointer (some ⟨(w.heap.size + 1), 6, none⟩)) := e14
        clear hh
        simp only [filled, upd, Have, is, any, row, pick, Act.put, List.setIfInBounds_toArray, List.set_cons_zero, List.set_cons_succ, Nat.reduceAdd, Nat.reduceEqDiff, reduceIte] at hK ⊢
        simp only [e3, e4, e5, e14] at hK ⊢
        have hc := arr_at hG.2.2 6 (by decide)
        obtain ⟨hc1, hc2⟩ := hc
        go_simp
        exact hK undef _ trivial (put_b6 (Nat.lt_succ_self _) hG)
      · intro L t wq hG hL hC hN hh K hK
        clear hh
        simp only [filled, upd, Have, is, any, row, pick, Act.put, List.setIfInBounds_toArray, List.set_cons_zero, List.set_cons_succ, Nat.reduceAdd, Nat.reduceEqDiff, reduceIte] at hK ⊢
        go_simp
        exact hK _ _ rfl (stab 16 (by decide) (Below.refl _ _) hG)
      · intro L t wq hG hL hC hN hh K hK
        have e6 := hh.1
        simp only [pick] at e6
        replace e6 : t 6 = (.pointer (some ⟨w.heap.size, 8, none⟩)) := e6
        have e7 := hh.2.1
        simp only [pick] at e7
        replace e7 : t 7 = (.int .u8 ((f 8).toNat : Int)) := e7
        have e8 := hh.2.2.1
        simp only [pick] at e8
        replace e8 : t 8 = (.int .u8 (((f 8).toNat % 64 : Nat) : Int)) := e8
        have e16 := hh.2.2.2.1
        simp only [pick] at e16
        replace e16 : t 16 = (.pointer (some ⟨w.heap.size, 8, none⟩)) := e16
        clear hh
        simp only [filled, upd, Have, is, any, row, pick, Act.put, List.setIfInBounds_toArray, List.set_cons_zero, List.set_cons_succ, Nat.reduceAdd, Nat.reduceEqDiff, reduceIte] at hK ⊢
        simp only [e6, e7, e8, e16] at hK ⊢
        have hc := arr_at hG.2.1 8 (by decide)
        obtain ⟨hc1, hc2⟩ := hc
        go_simp
        exact hK undef _ trivial (put_a8 (Nat.lt_succ_self _) hG)
      · intro L t wq hG hL hC hN hh K hK
        clear hh
        simp only [filled, upd, Have, is, any, row, pick, Act.put, List.setIfInBounds_toArray, List.set_cons_zero, List.set_cons_succ, Nat.reduceAdd, Nat.reduceEqDiff, reduceIte] at hK ⊢
        go_simp
        exact hK _ _ rfl (stab 18 (by decide) (Below.refl _ _) hG)
      · intro L t wq hG hL hC hN hh K hK
        have e9 := hh.1
        simp only [pick] at e9
        replace e9 : t 9 = (.pointer (some ⟨(w.heap.size + 1), 8, none⟩)) := e9
        have e10 := hh.2.1
        simp only [pick] at e10
        replace e10 : t 10 = (.int .u8 ((g 8).toNat : Int)) := e10
        have e11 := hh.2.2.1
        simp only [pick] at e11
        replace e11 : t 11 = (.int .u8 (((g 8).toNat % 64 : Nat) : Int)) := e11
        have e18 := hh.2.2.2.1
        simp only [pick] at e18
        replace e18 : t 18 = (.pointer (some ⟨(w.heap.size + 1), 8, none⟩)) := e18
        clear hh
        simp only [filled, upd, Have, is, any, row, pick, Act.put, List.setIfInBounds_toArray, List.set_cons_zero, List.set_cons_succ, Nat.reduceAdd, Nat.reduceEqDiff, reduceIte] at hK ⊢
        simp only [e9, e10, e11, e18] at hK ⊢
        have hc := arr_at hG.2.2 8 (by decide)
        obtain ⟨hc1, hc2⟩ := hc
        go_simp
        exact hK undef _ trivial (put_b8 (Nat.lt_succ_self _) hG)
    · intro Lz t wq hG hall hh
      clear hh
      simp only [filled, upd, Have, is, any, row, pick, Act.put, List.setIfInBounds_toArray, List.set_cons_zero, List.set_cons_succ, Nat.reduceAdd, Nat.reduceEqDiff, reduceIte]
      have hA := hG.2.1
      have hB := hG.2.2
      simp only [hall 13 (by decide), hall 15 (by decide), hall 17 (by decide), hall 19 (by decide)] at hA hB
      replace hbq := hG.1
      clear hG hall
      have hba : w.heap.size < wq.heap.size := (Array.getElem?_eq_some_iff.1 hA).1
      have hbb : w.heap.size + 1 < wq.heap.size := (Array.getElem?_eq_some_iff.1 hB).1
      obtain ⟨C, hBC, HC⟩ := same_of f g HS.out
      revert hA hB HC
      generalize ga (fun k => (f k).toNat) true true = F
      generalize ga (fun k => (g k).toNat) true true = G
      intro hA hB HC
      have HC := hid HC
      go_wp2_with fail
      refine (IdnW.awake_any _).mono ?_
      rintro e wx ⟨rfl, hbx⟩
      obtain ⟨a0, a1, a2, a3, a4, a5, a6, a7, a8, a9, a10, a11, a12, a13, a14, a15⟩ := cells16n ((hbx.block _ hba).trans hA)
      obtain ⟨b0, b1, b2, b3, b4, b5, b6, b7, b8, b9, b10, b11, b12, b13, b14, b15⟩ := cells16n ((hbx.block _ hbb).trans hB)
      have hq := HC.out wx
      rw [← hBC] at hq
      go_wp2
      go_ret
      exact ⟨by simp, hbq.trans (hbx.mono hbq.size)⟩
end Go.Proofs.Ytdgdmlchegjejaa.Laws
