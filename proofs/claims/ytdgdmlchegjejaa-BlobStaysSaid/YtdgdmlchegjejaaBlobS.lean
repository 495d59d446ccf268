/- Blobs: where a new one lies; rows that are written to. -/
import Derived.Test.YtdgdmlchegjejaaBlobD
namespace Go.Proofs.Ytdgdmlchegjejaa.BlobS
open Go.RowKit Go.Proofs.Ytdgdmlchegjejaa.Base Go.Proofs.Ytdgdmlchegjejaa.Base2 Go.Proofs.Ytdgdmlchegjejaa.Base3 Go.Proofs.Ytdgdmlchegjejaa.UtfL Go.Proofs.Ytdgdmlchegjejaa.BlobA Go.Proofs.Ytdgdmlchegjejaa.BlobB Go.Proofs.Ytdgdmlchegjejaa.BlobC Go.Proofs.Ytdgdmlchegjejaa.BlobD

/-- A blob whose blocks are not among those below lo. -/
def BlobIn (lo : Nat) (w : World) (g n : Nat) (L K : List UInt8) : Prop :=
  ∃ A c, lo ≤ g ∧ g < w.heap.size ∧ w.cell? ⟨g, 0, none⟩ = some (.slice A n c) ∧ w.cell? ⟨g, 1, none⟩ = some (.string (strOf K)) ∧ n ≤ c ∧ c ≤ maxLen ∧ Rds w A n (bcells L) ∧ ∀ p, A = some p → lo ≤ p.block
theorem BlobIn.at {lo : Nat} {w : World} {g n : Nat} {L K : List UInt8} (h : BlobIn lo w g n L K) : BlobAt w g n L K := by
  obtain ⟨A, c, _, h1, h2, h3, h4, h5, h6, _⟩ := h
  exact ⟨A, c, h1, h2, h3, h4, h5, h6⟩
theorem BlobIn.low {lo lo' : Nat} {w : World} {g n : Nat} {L K : List UInt8} (h : BlobIn lo w g n L K) (hl : lo' ≤ lo) : BlobIn lo' w g n L K := by
  obtain ⟨A, c, h0, h1, h2, h3, h4, h5, h6, h7⟩ := h
  exact ⟨A, c, Nat.le_trans hl h0, h1, h2, h3, h4, h5, h6, fun p hp => Nat.le_trans hl (h7 p hp)⟩
theorem BlobIn.below {lo : Nat} {w w' : World} {g n : Nat} {L K : List UInt8} (h : BlobIn lo w g n L K) (hb : Below w.heap.size w w') : BlobIn lo w' g n L K := by
  obtain ⟨A, c, h0, h1, h2, h3, h4, h5, h6, h7⟩ := h
  exact ⟨A, c, h0, Nat.lt_of_lt_of_le h1 hb.size, (hb.cell (p := ⟨g, 0, none⟩) h1).trans h2, (hb.cell (p := ⟨g, 1, none⟩) h1).trans h3, h4, h5, h6.below hb, h7⟩
/-- The blocks from lo to ahead of hi stay. -/
def Mid (lo hi : Nat) (w w' : World) : Prop := w.heap.size ≤ w'.heap.size ∧ ∀ k, lo ≤ k → k < hi → w'.heap[k]? = w.heap[k]?
theorem cell_of_block {w w' : World} {p : Addr} (h : w'.heap[p.block]? = w.heap[p.block]?) : w'.cell? p = w.cell? p := by
  unfold World.cell?
  rw [h]
theorem BlobIn.mid {lo : Nat} {w w' : World} {g n : Nat} {L K : List UInt8} (h : BlobIn lo w g n L K) (hb : Mid lo w.heap.size w w') : BlobIn lo w' g n L K := by
  obtain ⟨A, c, h0, h1, h2, h3, h4, h5, h6, h7⟩ := h
  refine ⟨A, c, h0, Nat.lt_of_lt_of_le h1 hb.1, (cell_of_block (p := ⟨g, 0, none⟩) (hb.2 g h0 h1)).trans h2, (cell_of_block (p := ⟨g, 1, none⟩) (hb.2 g h0 h1)).trans h3, h4, h5, ⟨h6.1, fun j hj => ?_⟩, h7⟩
  obtain ⟨b, off, e1, e2, e3⟩ := h6.2 j hj
  exact ⟨b, off, e1, Nat.lt_of_lt_of_le e2 hb.1, (cell_of_block (p := ⟨b, off + j, none⟩) (hb.2 b (h7 _ e1) e2)).trans e3⟩
theorem Mid.set {lo hi : Nat} {w w' : World} (h : Mid lo hi w w') (a : Addr) (v : Value) (hn : a.block < lo ∨ hi ≤ a.block) : Mid lo hi w (w'.setCell a v) :=
  ⟨Nat.le_trans h.1 (by rw [World.size_setCell]; exact Nat.le_refl _), fun k h1 h2 => (heap_setCell_other w' a k v (by omega)).trans (h.2 k h1 h2)⟩
theorem Mid.of_below {lo hi : Nat} {w w' : World} (h : Below w.heap.size w w') (hh : hi ≤ w.heap.size) : Mid lo hi w w' := ⟨h.size, fun k _ h2 => h.block k (by omega)⟩
theorem Mid.trans {lo hi : Nat} {a b c : World} (h : Mid lo hi a b) (k : Mid lo hi b c) : Mid lo hi a c := ⟨Nat.le_trans h.1 k.1, fun j h1 h2 => (k.2 j h1 h2).trans (h.2 j h1 h2)⟩
theorem owns_low {w : World} {base n c : Nat} {T : TypeId} {A : Option Addr} {xs : List Value} (h : w.ownsRow base T 1 (.slice A n c) n xs) : ∀ p, A = some p → base ≤ p.block := by
  intro p hp
  subst hp
  rcases h.2 with ⟨e, _⟩ | ⟨g, cap, cur, e, hb, _⟩
  · cases e
  · cases e
    exact hb
/-- A row of n bytes, all cells whole, that lies from lo to ahead of hi (if it has any). -/
def Orow (w : World) (A : Option Addr) (n lo hi : Nat) : Prop :=
  n = 0 ∨ ∃ g C T, A = some ⟨g, 0, none⟩ ∧ lo ≤ g ∧ g < hi ∧ w.heap[g]? = some (.cells C T (0, 0)) ∧ ∀ j, j < n → ∃ c : UInt8, C[j]? = some (.int .u8 (c.toNat : Int))
theorem Orow.of_owns {w : World} {base n c : Nat} {T : TypeId} {A : Option Addr} {L : List UInt8} (h : w.ownsRow base T 1 (.slice A n c) n (bcells L)) : Orow w A n base w.heap.size := by
  rcases h.2 with ⟨_, h0⟩ | ⟨g, cap, cur, e, hb, hg, h1, _, _, h3⟩
  · exact Or.inl h0
  · cases e
    have hl : L.length = n := by have := h.1; rw [length_bcells] at this; omega
    refine Or.inr ⟨g, cur, T, rfl, hb, (Array.getElem?_eq_some_iff.1 hg).1, hg, fun j hj => ⟨L[j]'(by omega), ?_⟩⟩
    have h4 := congrArg (fun l => l[j]?) h3
    simp only [List.getElem?_take, Nat.mul_one, hj, if_true] at h4
    rw [Array.getElem?_toList] at h4
    rw [h4]
    simp [bcells, hl, hj]
theorem Orow.mid {w w' : World} {A : Option Addr} {n lo hi : Nat} (h : Orow w A n lo hi) (hb : Mid lo hi w w') : Orow w' A n lo hi := by
  rcases h with h | ⟨g, C, T, h1, h2, h3, h4, h5⟩
  · exact Or.inl h
  · exact Or.inr ⟨g, C, T, h1, h2, h3, (hb.2 g h2 h3).trans h4, h5⟩
theorem Orow.at {w : World} {A : Option Addr} {n lo hi : Nat} (h : Orow w A n lo hi) (k : Nat) (hk : k < n) :
    ∃ g, ∃ c : UInt8, A = some ⟨g, 0, none⟩ ∧ lo ≤ g ∧ g < hi ∧ w.cell? ⟨g, k, none⟩ = some (.int .u8 (c.toNat : Int)) ∧ w.frozen? ⟨g, k, none⟩ = false ∧ ∀ d : UInt8, Orow (w.setCell ⟨g, k, none⟩ (.int .u8 (d.toNat : Int))) A n lo hi := by
  rcases h with h | ⟨g, C, T, h1, h2, h3, h4, h5⟩
  · omega
  · obtain ⟨c, hc⟩ := h5 k hk
    refine ⟨g, c, h1, h2, h3, (cell_of_row w g k _ _ _ h4).trans hc, frozen_of_row w g k _ _ h4, fun d => Or.inr ⟨g, _, T, h1, h2, h3, heap_setCell_same w g k _ _ _ h4, fun j hj => ?_⟩⟩
    by_cases e : k = j
    · subst e
      exact ⟨d, by rw [Array.getElem?_setIfInBounds_self_of_lt (Array.getElem?_eq_some_iff.1 hc).1]⟩
    · obtain ⟨c', hc'⟩ := h5 j hj
      exact ⟨c', by rw [Array.getElem?_setIfInBounds_ne e]; exact hc'⟩
set_option linter.unusedSimpArgs false in
theorem new_in (A : Option Addr) (n cap : Nat) (L : List UInt8) (s : ByteArray) (w : World) (h : Rds w A n (bcells L)) (hm : n ≤ 1073741824) (hs : s.size ≤ maxLen) :
    Calls Try.prog 14 #[.slice A n cap, .string s] w fun e w' => ∃ g, e = .returned (.pointer (some ⟨g, 0, none⟩)) ∧ w.heap.size ≤ g ∧ BlobIn w.heap.size w' g n L (kd s.data.toList) ∧ Below w.heap.size w w' := by
  have HH := hid h
  clear h
  go_enter Try.func14, Try.ntmps14
  go_wp2_with fail
  refine (clone_any A n cap L _ HH.out hm).mono ?_
  rintro e w1 ⟨v, rfl, hown, hb1⟩
  obtain ⟨A1, c1, rfl, hc1, hm1, hr1⟩ := owns_form hown
  have hlow := owns_low hown
  have HR1 := hid hr1
  clear hown hr1
  go_wp2_with fail
  refine (kind_any s _ hs).mono ?_
  rintro e w2 ⟨rfl, hb2⟩
  have HR2 := hid (HR1.out.below hb2)
  go_wp2
  go_ret
  refine ⟨w2.heap.size, rfl, Nat.le_trans hb1.size hb2.size, ⟨A1, c1, Nat.le_trans hb1.size hb2.size, by simp, ?_, ?_, hc1, hm1, HR2.out.below ((Below.refl _ _).alloc (Nat.le_refl _) _), hlow⟩, (bel hb1 hb2).alloc (Nat.le_trans hb1.size hb2.size) _⟩
  · rw [World.cell?_alloc_mark]; rfl
  · rw [World.cell?_alloc_mark]; rfl
set_option linter.unusedSimpArgs false in
set_option maxHeartbeats 1000000 in
theorem slice_in (g n : Nat) (L K : List UInt8) (vf vt : Value) (of ot : Option Int) (s : ByteArray) (w : World) (h : BlobAt w g n L K) (hn : n ≤ 1073741824) (hf : Ptr w vf of) (ht : Ptr w vt ot) (hs : s.size ≤ maxLen) :
    Calls Try.prog 15 #[.pointer (some ⟨g, 0, none⟩), vf, vt, .string s] w fun e w' => ∃ g2, e = .returned (.pointer (some ⟨g2, 0, none⟩)) ∧ w.heap.size ≤ g2 ∧
      BlobIn w.heap.size w' g2 (max (pl of 0 n) (pl ot n n) - pl of 0 n) ((L.drop (pl of 0 n)).take (max (pl of 0 n) (pl ot n n) - pl of 0 n)) (kd s.data.toList) ∧ Below w.heap.size w w' := by
  have hst := pl_le of 0 n (Nat.zero_le _)
  have hen := pl_le ot n n (Nat.le_refl _)
  obtain ⟨st, hst2⟩ : ∃ st, pl of 0 n = st := ⟨_, rfl⟩
  obtain ⟨en, hen2⟩ : ∃ en, pl ot n n = en := ⟨_, rfl⟩
  obtain ⟨mx, hmx⟩ : ∃ mx, max st en = mx := ⟨_, rfl⟩
  rw [hst2] at hst
  rw [hen2] at hen
  rw [hst2, hen2, hmx]
  have HST := hid hst2
  have HEN := hid hen2
  have HB := hid h
  have HF := hid hf
  have HT := hid ht
  have hmxn : mx ≤ n := by omega
  have hsm : st ≤ mx := by omega
  have hcase : (st ≤ en ∧ en = mx) ∨ (en < st ∧ st = mx) := by omega
  clear h hf ht hst2 hen2 hmx
  go_enter Try.func15, Try.ntmps15
  go_wp2_with fail
  refine (place_any g n L K vf of 0 _ HB.out hn HF.out).mono ?_
  rintro e w1 ⟨rfl, hb1⟩
  rw [HST.out]
  have HB1 := hid (HB.out.below hb1)
  have HT1 := hid (HT.out.below hb1)
  go_wp2_with fail
  refine (len_any g n L K _ HB1.out).mono ?_
  rintro e w2 ⟨rfl, hb2⟩
  have HB2 := hid (HB1.out.below hb2)
  have HT2 := hid (HT1.out.below hb2)
  go_wp2_with fail
  refine (place_any g n L K vt ot n _ HB2.out hn HT2.out).mono ?_
  rintro e w3 ⟨rfl, hb3⟩
  rw [HEN.out]
  have hb13 : Below w.heap.size w w3 := bel (bel hb1 hb2) hb3
  obtain ⟨A, c, x1, x2, x3, x4, x5, x6⟩ := HB2.out.below hb3
  have HX := hid x6
  clear x6 HB HF HT HB1 HT1 HB2 HT2 hb1 hb2 hb3
  have hmxc : mx ≤ c := by omega
  have hL : L.length = n := by rw [← length_bcells]; exact HX.out.1
  have HL := hid hL
  clear hL
  -- what is handed to New reads so
  have HNew : Hid (∀ (A2 : Option Addr) (c2 : Nat), Rds w3 A2 (mx - st) (bcells ((L.drop st).take (mx - st))) → Calls Try.prog 14 #[.slice A2 (mx - st) c2, .string s] w3 fun e w' => ∃ g, e = .returned (.pointer (some ⟨g, 0, none⟩)) ∧ w3.heap.size ≤ g ∧ BlobIn w3.heap.size w' g (mx - st) ((L.drop st).take (mx - st)) (kd s.data.toList) ∧ Below w3.heap.size w3 w') := fun A2 c2 h2 => new_in A2 (mx - st) c2 _ s w3 h2 (by omega) hs
  have HNew0 : Hid (mx - st = 0 → ∀ (A2 : Option Addr) (c2 : Nat), Calls Try.prog 14 #[.slice A2 0 c2, .string s] w3 fun e w' => ∃ g, e = .returned (.pointer (some ⟨g, 0, none⟩)) ∧ w3.heap.size ≤ g ∧ BlobIn w3.heap.size w' g (mx - st) ((L.drop st).take (mx - st)) (kd s.data.toList) ∧ Below w3.heap.size w3 w') := fun h A2 c2 => by
    have h2 : Rds w3 A2 (mx - st) (bcells ((L.drop st).take (mx - st))) := by rw [h, List.take_zero]; exact Rds.nil _
    have h3 := HNew.out A2 c2 h2
    have e : (Value.slice A2 0 c2) = .slice A2 (mx - st) c2 := by rw [h]
    rw [e]
    exact h3
  have hsmI : (st : Int) ≤ (mx : Int) := by omega
  have hmxI : (mx : Int) ≤ (c : Int) := by omega
  by_cases hz : st = mx
  · have hz0 : mx - st = 0 := by omega
    have HN0 := hid (HNew0.out hz0)
    clear HNew HNew0
    rcases (show (st = en) ∨ (en < st) by omega) with hse | hse
    all_goals
      have hse' : max (st : Int) (en : Int) = (st : Int) := by omega
      first | (have g1 : ¬ (en : Int) < (st : Int) := by omega) | (have g1 : (en : Int) < (st : Int) := by omega)
      first | subst hse | skip
      subst hz
      clear hcase
      cases A with
      | none =>
        have h0 : n = 0 := by
          rcases Nat.eq_zero_or_pos n with h0 | h0
          · exact h0
          · obtain ⟨_, _, e, _⟩ := HX.out.spot h0
            cases e
        have h1 : st = 0 := by omega
        first
          | (exfalso; omega)
          | (subst h0
             subst h1
             go_wp2_with fail
             refine (HN0.out _ _).mono ?_
             rintro e w4 ⟨g2, rfl, hg2, hblob, hb4⟩
             go_wp2
             go_ret
             exact ⟨g2, rfl, Nat.le_trans hb13.size hg2, hblob.low hb13.size, bel hb13 hb4⟩)
      | some ad =>
        rcases Nat.eq_zero_or_pos n with h0 | h0
        · have h1 : st = 0 := by omega
          first
            | (exfalso; omega)
            | (subst h0
               subst h1
               by_cases hc0 : c = 0
               · subst hc0
                 go_wp2_with fail
                 refine (HN0.out _ _).mono ?_
                 rintro e w4 ⟨g2, rfl, hg2, hblob, hb4⟩
                 go_wp2
                 go_ret
                 exact ⟨g2, rfl, Nat.le_trans hb13.size hg2, hblob.low hb13.size, bel hb13 hb4⟩
               · skip
                 go_wp2_with fail
                 refine (HN0.out _ _).mono ?_
                 rintro e w4 ⟨g2, rfl, hg2, hblob, hb4⟩
                 go_wp2
                 go_ret
                 exact ⟨g2, rfl, Nat.le_trans hb13.size hg2, hblob.low hb13.size, bel hb13 hb4⟩)
        · obtain ⟨b, off, e, _⟩ := HX.out.spot h0
          cases e
          by_cases hc0 : c = st
          · subst hc0
            go_wp2_with fail
            refine (HN0.out _ _).mono ?_
            rintro e w4 ⟨g2, rfl, hg2, hblob, hb4⟩
            go_wp2
            go_ret
            exact ⟨g2, rfl, Nat.le_trans hb13.size hg2, hblob.low hb13.size, bel hb13 hb4⟩
          · go_wp2_with fail
            refine (HN0.out _ _).mono ?_
            rintro e w4 ⟨g2, rfl, hg2, hblob, hb4⟩
            go_wp2
            go_ret
            exact ⟨g2, rfl, Nat.le_trans hb13.size hg2, hblob.low hb13.size, bel hb13 hb4⟩
  · have hse : en = mx := by omega
    subst hse
    have g1 : (st : Int) < (en : Int) := by omega
    have g2 : ¬ (en : Int) < (st : Int) := by omega
    obtain ⟨b, off, e, _⟩ := HX.out.spot (by omega)
    cases e
    have hcs : ¬ c = st := by omega
    have hR : Rds w3 (some ⟨b, off + st, none⟩) (en - st) (bcells ((L.drop st).take (en - st))) := by
      rw [bcells_take, bcells_drop]
      exact (HX.out.cut st (by omega)).upto _ (by omega)
    have HN1 := hid (HNew.out (some ⟨b, off + st, none⟩) (c - st) hR)
    clear HNew HNew0 hcase hR hz
    go_wp2_with fail
    refine (HN1.out).mono ?_
    rintro e w4 ⟨g2, rfl, hg2, hblob, hb4⟩
    go_wp2
    go_ret
    exact ⟨g2, rfl, Nat.le_trans hb13.size hg2, hblob.low hb13.size, bel hb13 hb4⟩
end Go.Proofs.Ytdgdmlchegjejaa.BlobS
