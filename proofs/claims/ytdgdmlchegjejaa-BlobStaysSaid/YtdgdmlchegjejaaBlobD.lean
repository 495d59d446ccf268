/- Blobs: a slice of one. -/
import Derived.Test.YtdgdmlchegjejaaBlobC
namespace Go.Proofs.Ytdgdmlchegjejaa.BlobD
open Go.RowKit Go.Proofs.Ytdgdmlchegjejaa.Base Go.Proofs.Ytdgdmlchegjejaa.Base2 Go.Proofs.Ytdgdmlchegjejaa.Base3 Go.Proofs.Ytdgdmlchegjejaa.UtfL Go.Proofs.Ytdgdmlchegjejaa.BlobA Go.Proofs.Ytdgdmlchegjejaa.BlobB Go.Proofs.Ytdgdmlchegjejaa.BlobC

/-- A place, there or not. -/
def Ptr (w : World) (v : Value) (o : Option Int) : Prop :=
  (v = .pointer none ∧ o = none) ∨ ∃ b z, v = .pointer (some ⟨b, 0, none⟩) ∧ b < w.heap.size ∧ w.cell? ⟨b, 0, none⟩ = some (.int .i64 z) ∧ -9223372036854775808 ≤ z ∧ z ≤ 9223372036854775807 ∧ o = some z
theorem Ptr.below {w w' : World} {v : Value} {o : Option Int} (h : Ptr w v o) (hb : Below w.heap.size w w') : Ptr w' v o := by
  rcases h with h | ⟨b, z, h1, h2, h3, h4⟩
  · exact Or.inl h
  · exact Or.inr ⟨b, z, h1, Nat.lt_of_lt_of_le h2 hb.size, (hb.cell (p := ⟨b, 0, none⟩) h2).trans h3, h4⟩
def pl (o : Option Int) (l n : Nat) : Nat := match o with | none => l | some z => plc z n
theorem plc_le (z : Int) (n : Nat) : plc z n ≤ n := by
  unfold plc
  split <;> omega
theorem pl_le (o : Option Int) (l n : Nat) (h : l ≤ n) : pl o l n ≤ n := by
  cases o
  · exact h
  · exact plc_le _ _
theorem place_any (g n : Nat) (L K : List UInt8) (v : Value) (o : Option Int) (l : Nat) (w : World) (h : BlobAt w g n L K) (hn : n ≤ 1073741824) (hp : Ptr w v o) :
    Calls Try.prog 38 #[.pointer (some ⟨g, 0, none⟩), v, .int .i64 (l : Int)] w fun e w' => e = .returned (.int .i64 ((pl o l n : Nat) : Int)) ∧ Below w.heap.size w w' := by
  rcases hp with ⟨rfl, rfl⟩ | ⟨b, z, rfl, h2, h3, h4, h5, rfl⟩
  · exact place_nil g n L K l w h
  · exact place_at g n b L K z l w h hn h2 h3 h4 h5
set_option linter.unusedSimpArgs false in
set_option maxHeartbeats 1000000 in
theorem slice_any (g n : Nat) (L K : List UInt8) (vf vt : Value) (of ot : Option Int) (s : ByteArray) (w : World) (h : BlobAt w g n L K) (hn : n ≤ 1073741824) (hf : Ptr w vf of) (ht : Ptr w vt ot) (hs : s.size ≤ maxLen) :
    Calls Try.prog 15 #[.pointer (some ⟨g, 0, none⟩), vf, vt, .string s] w fun e w' => ∃ g2, e = .returned (.pointer (some ⟨g2, 0, none⟩)) ∧ w.heap.size ≤ g2 ∧
      BlobAt w' g2 (max (pl of 0 n) (pl ot n n) - pl of 0 n) ((L.drop (pl of 0 n)).take (max (pl of 0 n) (pl ot n n) - pl of 0 n)) (kd s.data.toList) ∧ Below w.heap.size w w' := by
  have hst := pl_le of 0 n (Nat.zero_le _)
  have hen := pl_le ot n n (Nat.le_refl _)
  obtain ⟨st, hst2⟩ : ∃ st, pl of 0 n = st := ⟨_, rfl⟩
  obtain ⟨en, hen2⟩ : ∃ en, pl ot n n = en := ⟨_, rfl⟩
  obtain ⟨mx, hmx⟩ : ∃ mx, max st en = mx := ⟨_, rfl⟩
  rw [hst2] at hst
  rw [hen2] at hen
  rw [hst2, hen2, hmx]
  have HST := hid hst2
  have HEN := hid hen2
  have HB := hid h
  have HF := hid hf
  have HT := hid ht
  have hmxn : mx ≤ n := by omega
  have hsm : st ≤ mx := by omega
  have hcase : (st ≤ en ∧ en = mx) ∨ (en < st ∧ st = mx) := by omega
  clear h hf ht hst2 hen2 hmx
  go_enter Try.func15, Try.ntmps15
  go_wp2_with fail
  refine (place_any g n L K vf of 0 _ HB.out hn HF.out).mono ?_
  rintro e w1 ⟨rfl, hb1⟩
  rw [HST.out]
  have HB1 := hid (HB.out.below hb1)
  have HT1 := hid (HT.out.below hb1)
  go_wp2_with fail
  refine (len_any g n L K _ HB1.out).mono ?_
  rintro e w2 ⟨rfl, hb2⟩
  have HB2 := hid (HB1.out.below hb2)
  have HT2 := hid (HT1.out.below hb2)
  go_wp2_with fail
  refine (place_any g n L K vt ot n _ HB2.out hn HT2.out).mono ?_
  rintro e w3 ⟨rfl, hb3⟩
  rw [HEN.out]
  have hb13 : Below w.heap.size w w3 := bel (bel hb1 hb2) hb3
  obtain ⟨A, c, x1, x2, x3, x4, x5, x6⟩ := HB2.out.below hb3
  have HX := hid x6
  clear x6 HB HF HT HB1 HT1 HB2 HT2 hb1 hb2 hb3
  have hmxc : mx ≤ c := by omega
  have hL : L.length = n := by rw [← length_bcells]; exact HX.out.1
  have HL := hid hL
  clear hL
  -- what is handed to New reads so
  have HNew : Hid (∀ (A2 : Option Addr) (c2 : Nat), Rds w3 A2 (mx - st) (bcells ((L.drop st).take (mx - st))) → Calls Try.prog 14 #[.slice A2 (mx - st) c2, .string s] w3 fun e w' => ∃ g, e = .returned (.pointer (some ⟨g, 0, none⟩)) ∧ w3.heap.size ≤ g ∧ BlobAt w' g (mx - st) ((L.drop st).take (mx - st)) (kd s.data.toList) ∧ Below w3.heap.size w3 w') := fun A2 c2 h2 => new_any A2 (mx - st) c2 _ s w3 h2 (by omega) hs
  have HNew0 : Hid (mx - st = 0 → ∀ (A2 : Option Addr) (c2 : Nat), Calls Try.prog 14 #[.slice A2 0 c2, .string s] w3 fun e w' => ∃ g, e = .returned (.pointer (some ⟨g, 0, none⟩)) ∧ w3.heap.size ≤ g ∧ BlobAt w' g (mx - st) ((L.drop st).take (mx - st)) (kd s.data.toList) ∧ Below w3.heap.size w3 w') := fun h A2 c2 => by
    have h2 : Rds w3 A2 (mx - st) (bcells ((L.drop st).take (mx - st))) := by rw [h, List.take_zero]; exact Rds.nil _
    have h3 := HNew.out A2 c2 h2
    have e : (Value.slice A2 0 c2) = .slice A2 (mx - st) c2 := by rw [h]
    rw [e]
    exact h3
  have hsmI : (st : Int) ≤ (mx : Int) := by omega
  have hmxI : (mx : Int) ≤ (c : Int) := by omega
  by_cases hz : st = mx
  · have hz0 : mx - st = 0 := by omega
    have HN0 := hid (HNew0.out hz0)
    clear HNew HNew0
    rcases (show (st = en) ∨ (en < st) by omega) with hse | hse
    all_goals
      have hse' : max (st : Int) (en : Int) = (st : Int) := by omega
      first | (have g1 : ¬ (en : Int) < (st : Int) := by omega) | (have g1 : (en : Int) < (st : Int) := by omega)
      first | subst hse | skip
      subst hz
      clear hcase
      cases A with
      | none =>
        have h0 : n = 0 := by
          rcases Nat.eq_zero_or_pos n with h0 | h0
          · exact h0
          · obtain ⟨_, _, e, _⟩ := HX.out.spot h0
            cases e
        have h1 : st = 0 := by omega
        first
          | (exfalso; omega)
          | (subst h0
             subst h1
             go_wp2_with fail
             refine (HN0.out _ _).mono ?_
             rintro e w4 ⟨g2, rfl, hg2, hblob, hb4⟩
             go_wp2
             go_ret
             exact ⟨g2, rfl, Nat.le_trans hb13.size hg2, hblob, bel hb13 hb4⟩)
      | some ad =>
        rcases Nat.eq_zero_or_pos n with h0 | h0
        · have h1 : st = 0 := by omega
          first
            | (exfalso; omega)
            | (subst h0
               subst h1
               by_cases hc0 : c = 0
               · subst hc0
                 go_wp2_with fail
                 refine (HN0.out _ _).mono ?_
                 rintro e w4 ⟨g2, rfl, hg2, hblob, hb4⟩
                 go_wp2
                 go_ret
                 exact ⟨g2, rfl, Nat.le_trans hb13.size hg2, hblob, bel hb13 hb4⟩
               · skip
                 go_wp2_with fail
                 refine (HN0.out _ _).mono ?_
                 rintro e w4 ⟨g2, rfl, hg2, hblob, hb4⟩
                 go_wp2
                 go_ret
                 exact ⟨g2, rfl, Nat.le_trans hb13.size hg2, hblob, bel hb13 hb4⟩)
        · obtain ⟨b, off, e, _⟩ := HX.out.spot h0
          cases e
          by_cases hc0 : c = st
          · subst hc0
            go_wp2_with fail
            refine (HN0.out _ _).mono ?_
            rintro e w4 ⟨g2, rfl, hg2, hblob, hb4⟩
            go_wp2
            go_ret
            exact ⟨g2, rfl, Nat.le_trans hb13.size hg2, hblob, bel hb13 hb4⟩
          · go_wp2_with fail
            refine (HN0.out _ _).mono ?_
            rintro e w4 ⟨g2, rfl, hg2, hblob, hb4⟩
            go_wp2
            go_ret
            exact ⟨g2, rfl, Nat.le_trans hb13.size hg2, hblob, bel hb13 hb4⟩
  · have hse : en = mx := by omega
    subst hse
    have g1 : (st : Int) < (en : Int) := by omega
    have g2 : ¬ (en : Int) < (st : Int) := by omega
    obtain ⟨b, off, e, _⟩ := HX.out.spot (by omega)
    cases e
    have hcs : ¬ c = st := by omega
    have hR : Rds w3 (some ⟨b, off + st, none⟩) (en - st) (bcells ((L.drop st).take (en - st))) := by
      rw [bcells_take, bcells_drop]
      exact (HX.out.cut st (by omega)).upto _ (by omega)
    have HN1 := hid (HNew.out (some ⟨b, off + st, none⟩) (c - st) hR)
    clear HNew HNew0 hcase hR hz
    go_wp2_with fail
    refine (HN1.out).mono ?_
    rintro e w4 ⟨g2, rfl, hg2, hblob, hb4⟩
    go_wp2
    go_ret
    exact ⟨g2, rfl, Nat.le_trans hb13.size hg2, hblob, bel hb13 hb4⟩
end Go.Proofs.Ytdgdmlchegjejaa.BlobD
