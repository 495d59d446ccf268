/- Answers: a reader: numbers and texts, one behind the other. -/
import Derived.Test.YtafnekilnbhhlaaAnsW
import Derived.Laws.BitsAllLaws
namespace Go.Proofs.Ytafnekilnbhhlaa.AnsR
open Go.RowKit Go.Proofs.Ytafnekilnbhhlaa.Base Go.Proofs.Ytafnekilnbhhlaa.Base2 Go.Proofs.Ytafnekilnbhhlaa.Base3 Go.Proofs.Ytafnekilnbhhlaa.AnsP

def tk (m : Nat) (L : List UInt8) : List UInt8 := if m ≤ L.length then L.take m else []
def dp (m : Nat) (L : List UInt8) : List UInt8 := if m ≤ L.length then L.drop m else []
def bd (m : Nat) (L : List UInt8) (b : Bool) : Bool := b || decide (L.length < m)
theorem tk_len (m : Nat) (L : List UInt8) : (tk m L).length ≤ m := by unfold tk; split <;> simp; omega
theorem dp_len (m : Nat) (L : List UInt8) : (dp m L).length ≤ L.length := by unfold dp; split <;> simp
theorem tk_le (m : Nat) (L : List UInt8) : (tk m L).length ≤ L.length := by unfold tk; split <;> simp; omega
theorem val_tk (m : Nat) (L : List UInt8) : val (tk m L) < 256 ^ m := Nat.lt_of_lt_of_le (val_lt _) (Nat.pow_le_pow_right (by omega) (tk_len m L))
/-- The block g is a reader of L. -/
def IsR (g : Nat) (L : List UInt8) (b : Bool) (w : World) : Prop := ∃ A n c, w.heap[g]? = some (.cells #[.slice A n c, .bool b] 79 (0, 0)) ∧ Rds w A n (bcells L) ∧ n ≤ c ∧ c ≤ maxLen ∧ ∀ ad, A = some ad → ad.block < g
theorem IsR.lt {g : Nat} {L : List UInt8} {b : Bool} {w : World} (h : IsR g L b w) : g < w.heap.size := by obtain ⟨_, _, _, h, _⟩ := h; exact (Array.getElem?_eq_some_iff.1 h).1
theorem IsR.below {g : Nat} {L : List UInt8} {b : Bool} {w w' : World} (h : IsR g L b w) (hb : Below w.heap.size w w') : IsR g L b w' := by
  have hl := h.lt
  obtain ⟨A, n, c, h1, h2, h3, h4⟩ := h
  exact ⟨A, n, c, (hb.block g hl).trans h1, h2.below hb, h3, h4⟩
/-- A reader stays when a younger block is written. -/
theorem IsR.set {g k i : Nat} {L : List UInt8} {b : Bool} {w : World} (h : IsR g L b w) (hk : g < k) (x : Value) : IsR g L b (w.setCell ⟨k, i, none⟩ x) := by
  obtain ⟨A, n, c, h1, h2, h3, h4, h5⟩ := h
  refine ⟨A, n, c, (heap_setCell_other w ⟨k, i, none⟩ g x (by show g ≠ k; omega)).trans h1, ⟨h2.1, fun j hj => ?_⟩, h3, h4, h5⟩
  obtain ⟨e, off, rfl, he, hc⟩ := h2.2 j hj
  have := h5 _ rfl
  have hne : e ≠ k := by have : e < g := this; omega
  exact ⟨e, off, rfl, by simpa [World.setCell] using he, (World.cell?_of_block (heap_setCell_other w ⟨k, i, none⟩ e x hne)).trans hc⟩
theorem IsR.row {g k : Nat} {L : List UInt8} {b : Bool} {w : World} (h : IsR g L b w) (hk : g < k) (C : Array Value) : IsR g L b (w.setRow k C) := by
  obtain ⟨A, n, c, h1, h2, h3, h4, h5⟩ := h
  refine ⟨A, n, c, (setRow_other w k g C (by omega)).trans h1, ⟨h2.1, fun j hj => ?_⟩, h3, h4, h5⟩
  obtain ⟨e, off, rfl, he, hc⟩ := h2.2 j hj
  have := h5 _ rfl
  have hne : e ≠ k := by have : e < g := this; omega
  exact ⟨e, off, rfl, by simpa using he, (World.cell?_of_block (setRow_other w k e C hne)).trans hc⟩
theorem rds_set {w : World} {g i n m c : Nat} {A B : Option Addr} {b : Bool} {L : List UInt8} {x : Value} (h : w.heap[g]? = some (.cells #[.slice B m c, .bool b] 79 (0, 0))) (hr : Rds w A n (bcells L)) : Rds (w.setCell ⟨g, i, none⟩ x) A n (bcells L) := by
  refine ⟨hr.1, fun j hj => ?_⟩
  obtain ⟨k, off, rfl, hk, hc⟩ := hr.2 j hj
  have hne : k ≠ g := by
    rintro rfl
    rw [cell_of_row w k (off + j) _ _ _ h] at hc
    have hj' : j < L.length := by rw [length_bcells] at hj; exact hj
    rcases e : off + j with _ | _ | q
    · rw [e] at hc; simp [bcells] at hc
    · rw [e] at hc; simp [bcells] at hc
    · rw [e] at hc; simp at hc
  exact ⟨k, off, rfl, by simpa [World.setCell] using hk, (World.cell?_of_block (heap_setCell_other w ⟨g, i, none⟩ k x hne)).trans hc⟩
theorem rds_from {w : World} {ad : Addr} {n : Nat} {L : List UInt8} (h : Rds w (some ad) n (bcells L)) (m : Nat) (hm : m ≤ n) : Rds w (some (ad.add m)) (n - m) (bcells (L.drop m)) := by
  rcases Nat.eq_zero_or_pos n with h0 | h0
  · subst h0
    have : L = [] := List.eq_nil_of_length_eq_zero (by rw [← length_bcells]; exact h.1)
    subst this
    rw [List.drop_nil, Nat.zero_sub]
    exact Rds.nil _
  · obtain ⟨b, off, e, _, _⟩ := h.spot h0
    injection e with e
    subst e
    rw [AnsW.add_at', bcells_drop]
    exact h.cut m hm
theorem rds_upto {w : World} {ad : Addr} {n : Nat} {L : List UInt8} (h : Rds w (some ad) n (bcells L)) (m : Nat) (hm : m ≤ n) : Rds w (some ad) m (bcells (L.take m)) := by
  rcases Nat.eq_zero_or_pos n with h0 | h0
  · subst h0
    have : L = [] := List.eq_nil_of_length_eq_zero (by rw [← length_bcells]; exact h.1)
    subst this
    obtain rfl : m = 0 := by omega
    rw [List.take_nil]
    exact Rds.nil _
  · obtain ⟨b, off, e, _, _⟩ := h.spot h0
    injection e with e
    subst e
    rw [bcells_take]
    exact h.upto m hm
/-- What a reader leaves: every block but its own stays. -/
def KeepG (g : Nat) (w w' : World) : Prop := ∀ k, k < w.heap.size → k ≠ g → w'.heap[k]? = w.heap[k]?
theorem KeepG.trans {g : Nat} {w w1 w2 : World} (h : KeepG g w w1) (hb : Below g w w1) (h2 : KeepG g w1 w2) : KeepG g w w2 := fun k a b => (h2 k (Nat.lt_of_lt_of_le a hb.size) b).trans (h k a b)
theorem keep_set (g i : Nat) (x : Value) (w : World) : KeepG g w (w.setCell ⟨g, i, none⟩ x) := fun k _ b => heap_setCell_other w ⟨g, i, none⟩ k x b
theorem add_block (a : Addr) (m : Nat) : (a.add m).block = a.block := by unfold Addr.add; split <;> rfl
theorem newr_any (A : Option Addr) (n cap : Nat) (L : List UInt8) (w : World) (h : Rds w A n (bcells L)) (hm : n ≤ 1073741824) :
    Calls Try.prog 20 #[.slice A n cap] w fun e w' => ∃ g, e = .returned (.pointer (some ⟨g, 0, none⟩)) ∧ w.heap.size ≤ g ∧ IsR g L false w' ∧ Below w.heap.size w w' := by
  have HH := hid h
  clear h
  go_enter Try.func20, Try.ntmps20
  go_wp2_with fail
  refine (BlobA0.clone_any A n cap L _ HH.out hm).mono ?_
  rintro e w1 ⟨v, rfl, hown, hb1⟩
  obtain ⟨A1, c1, rfl, hc1, hm1, hr1⟩ := owns_form hown
  have HR1 := hid hr1
  have HU1 : Hid (∀ ad, A1 = some ad → ad.block < w1.heap.size) := by
    rintro ad rfl
    rcases hown.2 with ⟨e, _⟩ | ⟨k, cap, cur, e, _, hh, _⟩
    · cases e
    · injection e with e
      injection e with e
      subst e
      exact (Array.getElem?_eq_some_iff.1 hh).1
  clear hown hr1
  go_wp2
  go_ret
  exact ⟨_, rfl, hb1.size, ⟨A1, n, c1, heap_alloc_new w1 _, HR1.out.below ((Below.refl _ _).alloc (Nat.le_refl _) _), hc1, hm1, HU1.out⟩, hb1.alloc hb1.size _⟩
set_option maxHeartbeats 2000000 in
theorem take_keep (g m : Nat) (L : List UInt8) (b : Bool) (w : World) (h : IsR g L b w) (hm : m < 18446744073709551616) (hl : L.length ≤ 1073741824) :
    Calls Try.prog 43 #[.pointer (some ⟨g, 0, none⟩), .int .u64 (m : Int)] w fun e w' => ∃ A c, e = .returned (.slice A (tk m L).length c) ∧ (tk m L).length ≤ c ∧ c ≤ maxLen ∧ Rds w' A (tk m L).length (bcells (tk m L)) ∧ IsR g (dp m L) (bd m L b) w' ∧ Below g w w' ∧ KeepG g w w' := by
  obtain ⟨A, n, c, hg, hr, hnc, hcm, hun⟩ := h
  have HUN := hid hun
  clear hun
  have hn : L.length = n := by rw [← length_bcells]; exact hr.1
  have HN := hid hn
  have HG := hid hg
  have HR := hid hr
  have HM := hid hcm
  have c0 : w.cell? ⟨g, 0, none⟩ = some (.slice A n c) := (cell_of_row w g 0 _ _ _ hg).trans rfl
  have c1 : w.cell? ⟨g, 1, none⟩ = some (.bool b) := (cell_of_row w g 1 _ _ _ hg).trans rfl
  have f0 : w.frozen? ⟨g, 0, none⟩ = false := frozen_of_row w g 0 _ _ hg
  have f1 : w.frozen? ⟨g, 1, none⟩ = false := frozen_of_row w g 1 _ _ hg
  have hlt := (Array.getElem?_eq_some_iff.1 hg).1
  rw [hn] at hl
  have hni : (n : Int) ≤ 18446744073709551615 := by omega
  clear hn hg hr hcm
  by_cases hmn : m ≤ n
  · have hmi : ¬ (n : Int) < (m : Int) := by omega
    have hmi2 : (m : Int) ≤ (n : Int) := by omega
    have hmc : m ≤ c := by omega
    have E1 : Hid (tk m L = L.take m) := by show _ = _; unfold tk; rw [if_pos (by rw [HN.out]; exact hmn)]
    have E2 : Hid (dp m L = L.drop m) := by show _ = _; unfold dp; rw [if_pos (by rw [HN.out]; exact hmn)]
    have E3 : Hid (bd m L b = b) := by show _ = _; unfold bd; rw [decide_eq_false (by rw [HN.out]; omega), Bool.or_false]
    have E4 : Hid ((L.take m).length = m) := by show _ = _; rw [List.length_take, HN.out]; omega
    cases A with
    | none =>
      have hn0 : n = 0 := by
        rcases Nat.eq_zero_or_pos n with h0 | h0
        · exact h0
        · obtain ⟨_, _, e, _⟩ := HR.out.spot h0
          cases e
      have hm0 : m = 0 := by omega
      subst hn0 hm0
      have hL : L = [] := List.eq_nil_of_length_eq_zero HN.out
      subst hL
      go_enter Try.func43, Try.ntmps43
      go_wp2
      go_ret
      rw [E1.out, E2.out, E3.out]
      exact ⟨none, c, rfl, Nat.zero_le _, HM.out, Rds.nil _, ⟨none, 0, c, heap_setCell_same w g 0 _ _ _ HG.out, Rds.nil _, Nat.zero_le _, HM.out, fun _ e => by cases e⟩, (Below.refl _ _).setCell (p := ⟨g, 0, none⟩) (Nat.le_refl _) _, keep_set _ _ _ _⟩
    | some ad =>
      rcases Nat.lt_or_eq_of_le hmc with hlc | hlc
      · have hlc' : ¬ c = m := by omega
        have hlc2 : ¬ m = c := by omega
        have hlc3 : (m : Int) < (c : Int) := by omega
        go_enter Try.func43, Try.ntmps43
        go_wp2
        go_ret
        rw [E1.out, E2.out, E3.out, E4.out]
        exact ⟨some ad, c, rfl, hmc, HM.out, rds_set HG.out (rds_upto HR.out m hmn), ⟨_, _, _, heap_setCell_same w g 0 _ _ _ HG.out, rds_set HG.out (rds_from HR.out m hmn), by omega, by have := HM.out; omega, fun x e => by cases e; rw [add_block]; exact HUN.out ad rfl⟩, (Below.refl _ _).setCell (p := ⟨g, 0, none⟩) (Nat.le_refl _) _, keep_set _ _ _ _⟩
      · subst hlc
        have hnm : n - m = 0 := by omega
        have hd : L.drop m = [] := List.drop_eq_nil_of_le (by rw [HN.out]; omega)
        have HD := hid hd
        clear hd
        go_enter Try.func43, Try.ntmps43
        go_wp2
        go_ret
        rw [E1.out, E2.out, E3.out, E4.out, HD.out]
        exact ⟨some ad, m, rfl, Nat.le_refl _, HM.out, rds_set HG.out (rds_upto HR.out m hmn), ⟨_, _, _, heap_setCell_same w g 0 _ _ _ HG.out, by first | exact Rds.nil _ | (rw [hnm]; exact Rds.nil _), by omega, Nat.zero_le _, fun x e => by cases e; first | exact HUN.out ad rfl | (rw [add_block]; exact HUN.out ad rfl)⟩, (Below.refl _ _).setCell (p := ⟨g, 0, none⟩) (Nat.le_refl _) _, keep_set _ _ _ _⟩
  · have hmi : (n : Int) < (m : Int) := by omega
    have E1 : Hid (tk m L = []) := by show _ = _; unfold tk; rw [if_neg (by rw [HN.out]; exact hmn)]
    have E2 : Hid (dp m L = []) := by show _ = _; unfold dp; rw [if_neg (by rw [HN.out]; exact hmn)]
    have E3 : Hid (bd m L b = true) := by show _ = _; unfold bd; rw [decide_eq_true (by rw [HN.out]; omega), Bool.or_true]
    go_enter Try.func43, Try.ntmps43
    go_wp2
    go_ret
    rw [E1.out, E2.out, E3.out]
    refine ⟨none, 0, rfl, Nat.le_refl _, Nat.zero_le _, Rds.nil _, ⟨none, 0, 0, ?_, Rds.nil _, Nat.le_refl _, Nat.zero_le _, fun _ e => by cases e⟩, ((Below.refl _ _).setCell (p := ⟨g, 0, none⟩) (Nat.le_refl _) _).setCell (p := ⟨g, 1, none⟩) (Nat.le_refl _) _, fun k _ b => (heap_setCell_other _ ⟨g, 1, none⟩ k _ b).trans (heap_setCell_other _ ⟨g, 0, none⟩ k _ b)⟩
    exact heap_setCell_same _ g 1 _ _ _ (heap_setCell_same w g 0 _ _ _ HG.out)
theorem take_any (g m : Nat) (L : List UInt8) (b : Bool) (w : World) (h : IsR g L b w) (hm : m < 18446744073709551616) (hl : L.length ≤ 1073741824) :
    Calls Try.prog 43 #[.pointer (some ⟨g, 0, none⟩), .int .u64 (m : Int)] w fun e w' => ∃ A c, e = .returned (.slice A (tk m L).length c) ∧ (tk m L).length ≤ c ∧ c ≤ maxLen ∧ Rds w' A (tk m L).length (bcells (tk m L)) ∧ IsR g (dp m L) (bd m L b) w' ∧ Below g w w' :=
  (take_keep g m L b w h hm hl).mono fun _ _ ⟨A, c, a1, a2, a3, a4, a5, a6, _⟩ => ⟨A, c, a1, a2, a3, a4, a5, a6⟩
theorem or_low (x c : Nat) (hx : x < 72057594037927936) (hc : c < 256) : bits .or .u64 (((x * 256 : Nat)) : Int) (c : Int) = ((x * 256 + c : Nat) : Int) := by
  rw [u64_or_nat _ _ (by omega) (by omega)]
  have := Nat.shiftLeft_add_eq_or_of_lt (i := 8) (b := c) (by omega) x
  rw [Nat.shiftLeft_eq] at this
  rw [← this]
set_option maxHeartbeats 2000000 in
theorem number_keep (g m : Nat) (L : List UInt8) (b : Bool) (w : World) (h : IsR g L b w) (hm : m ≤ 8) (hl : L.length ≤ 1073741824) :
    Calls Try.prog 42 #[.pointer (some ⟨g, 0, none⟩), .int .u64 (m : Int)] w fun e w' => e = .returned (.int .u64 ((val (tk m L) : Nat) : Int)) ∧ IsR g (dp m L) (bd m L b) w' ∧ Below g w w' ∧ KeepG g w w' := by
  have HH := hid h
  have HL := hid hl
  have htl := tk_len m L
  obtain ⟨T, hT⟩ : ∃ T, T = tk m L := ⟨_, rfl⟩
  rw [← hT] at htl
  have HT := hid hT
  clear h hl hT
  go_enter Try.func42, Try.ntmps42
  go_wp2_with fail
  refine (take_keep g m L b _ HH.out (by omega) HL.out).mono ?_
  rw [← HT.out]
  rintro e w1 ⟨A, c, rfl, hnc, hcm, hr, hR, hb, hkg⟩
  obtain ⟨n, hn⟩ : ∃ n, n = T.length := ⟨_, rfl⟩
  rw [← hn] at htl hnc hr ⊢
  have HR := hid hr
  have HRR := hid hR
  have HB := hid hb
  have HKG := hid hkg
  have HN := hid hn
  have HCM := hid hcm
  clear hr hR hb hn hcm hkg
  go_wp2
  go_loopw [5, 12] (fun vn vk wr => ∃ k : Nat, k ≤ n ∧ vk = .int .i64 (k : Int) ∧ wr = w1 ∧ vn = .int .u64 ((val (T.take k) : Nat) : Int)) (fun _ vk _ => n - (intOf vk).toNat)
  case atStart => exact ⟨0, Nat.zero_le _, rfl, rfl, rfl⟩
  case round =>
    obtain ⟨k, hk, rfl, rfl, rfl⟩ := hrel
    obtain ⟨x, hx⟩ : ∃ x, x = val (T.take k) := ⟨_, rfl⟩
    rw [← hx]
    have HX := hid hx
    clear hx
    by_cases hlt : k < n
    · have hkl : k < T.length := by rw [← HN.out]; exact hlt
      obtain ⟨blk, off, rfl, hblk, _⟩ := HR.out.spot (by omega)
      have hbyte := HR.out.byte k hkl
      obtain ⟨d, hd⟩ : ∃ d, d = T[k] := ⟨_, rfl⟩
      rw [← hd] at hbyte
      have hX7 : x < 72057594037927936 := by
        have h1 := val_lt (T.take k)
        rw [← HX.out, List.length_take] at h1
        have h2 : (256 : Nat) ^ min k T.length ≤ 256 ^ 7 := Nat.pow_le_pow_right (by omega) (by omega)
        have h3 : (256 : Nat) ^ 7 = 72057594037927936 := by decide
        omega
      have hsh : (x : Int) * 256 = ((x * 256 : Nat) : Int) := by omega
      have hor := or_low x d.toNat hX7 d.toNat_lt
      have HV : Hid (val (T.take (k + 1)) = x * 256 + d.toNat) := by show _ = _; rw [List.take_succ_eq_append_getElem hkl, val_snoc, ← HX.out, ← hd]
      have hdi : (d.toNat : Int) < 256 := by have := d.toNat_lt; omega
      have HOR := hid hor
      have HSH := hid hsh
      clear hor hsh hkl hd
      go_wp2
      go_roundw
      case rel => exact ⟨k + 1, by omega, by go_num, by first | rfl | trivial, by rw [HV.out]; refine int_eq ?_; rw [← HOR.out, ← HSH.out]⟩
      case measure => simp [intOf]; omega
    · obtain rfl : k = n := by omega
      have HE : Hid (x = val T) := by show _ = _; rw [HX.out, HN.out, List.take_length]
      go_wp2
      go_ret
      exact ⟨ret_int (by rw [HE.out, HT.out]), HRR.out, HB.out, HKG.out⟩
theorem number_any (g m : Nat) (L : List UInt8) (b : Bool) (w : World) (h : IsR g L b w) (hm : m ≤ 8) (hl : L.length ≤ 1073741824) :
    Calls Try.prog 42 #[.pointer (some ⟨g, 0, none⟩), .int .u64 (m : Int)] w fun e w' => e = .returned (.int .u64 ((val (tk m L) : Nat) : Int)) ∧ IsR g (dp m L) (bd m L b) w' ∧ Below g w w' :=
  (number_keep g m L b w h hm hl).mono fun _ _ ⟨a1, a2, a3, _⟩ => ⟨a1, a2, a3⟩
theorem u8r_keep (g : Nat) (L : List UInt8) (b : Bool) (w : World) (h : IsR g L b w) (hl : L.length ≤ 1073741824) :
    Calls Try.prog 35 #[.pointer (some ⟨g, 0, none⟩)] w fun e w' => e = .returned (.int .u8 ((val (tk 1 L) : Nat) : Int)) ∧ IsR g (dp 1 L) (bd 1 L b) w' ∧ Below g w w' ∧ KeepG g w w' := by
  have HH := hid h
  have HL := hid hl
  have hv := val_tk 1 L
  obtain ⟨x, hx⟩ : ∃ x, x = val (tk 1 L) := ⟨_, rfl⟩
  rw [← hx] at hv ⊢
  have hv2 : (x : Int) ≤ 255 := by omega
  have HX := hid hx
  clear h hl hx
  go_enter Try.func35, Try.ntmps35
  go_wp2_with fail
  refine (number_keep g 1 L b _ HH.out (by omega) HL.out).mono ?_
  rintro e w1 ⟨rfl, hR, hb, hkg⟩
  rw [← HX.out]
  have HR := hid hR
  have HB := hid hb
  have HKG := hid hkg
  clear hR hb hkg
  go_wp2
  go_ret
  exact ⟨by first | rfl | exact ret_int (int_wrap_val (by omega) (by omega)), HR.out, HB.out, HKG.out⟩
theorem u8r_any (g : Nat) (L : List UInt8) (b : Bool) (w : World) (h : IsR g L b w) (hl : L.length ≤ 1073741824) :
    Calls Try.prog 35 #[.pointer (some ⟨g, 0, none⟩)] w fun e w' => e = .returned (.int .u8 ((val (tk 1 L) : Nat) : Int)) ∧ IsR g (dp 1 L) (bd 1 L b) w' ∧ Below g w w' :=
  (u8r_keep g L b w h hl).mono fun _ _ ⟨a1, a2, a3, _⟩ => ⟨a1, a2, a3⟩
theorem u32r_keep (g : Nat) (L : List UInt8) (b : Bool) (w : World) (h : IsR g L b w) (hl : L.length ≤ 1073741824) :
    Calls Try.prog 44 #[.pointer (some ⟨g, 0, none⟩)] w fun e w' => e = .returned (.int .u32 ((val (tk 4 L) : Nat) : Int)) ∧ IsR g (dp 4 L) (bd 4 L b) w' ∧ Below g w w' ∧ KeepG g w w' := by
  have HH := hid h
  have HL := hid hl
  have hv := val_tk 4 L
  obtain ⟨x, hx⟩ : ∃ x, x = val (tk 4 L) := ⟨_, rfl⟩
  rw [← hx] at hv ⊢
  have hv2 : (x : Int) ≤ 4294967295 := by omega
  have HX := hid hx
  clear h hl hx
  go_enter Try.func44, Try.ntmps44
  go_wp2_with fail
  refine (number_keep g 4 L b _ HH.out (by omega) HL.out).mono ?_
  rintro e w1 ⟨rfl, hR, hb, hkg⟩
  rw [← HX.out]
  have HR := hid hR
  have HB := hid hb
  have HKG := hid hkg
  clear hR hb hkg
  go_wp2
  go_ret
  exact ⟨rfl, HR.out, HB.out, HKG.out⟩
theorem u32r_any (g : Nat) (L : List UInt8) (b : Bool) (w : World) (h : IsR g L b w) (hl : L.length ≤ 1073741824) :
    Calls Try.prog 44 #[.pointer (some ⟨g, 0, none⟩)] w fun e w' => e = .returned (.int .u32 ((val (tk 4 L) : Nat) : Int)) ∧ IsR g (dp 4 L) (bd 4 L b) w' ∧ Below g w w' :=
  (u32r_keep g L b w h hl).mono fun _ _ ⟨a1, a2, a3, _⟩ => ⟨a1, a2, a3⟩
theorem wrap_i64 (x : Nat) (h : x < 18446744073709551616) : wrap64 (x : Int) = AnsW.sg x := by
  unfold wrap64
  unfold AnsW.sg
  split <;> omega
theorem i64r_keep (g : Nat) (L : List UInt8) (b : Bool) (w : World) (h : IsR g L b w) (hl : L.length ≤ 1073741824) :
    Calls Try.prog 36 #[.pointer (some ⟨g, 0, none⟩)] w fun e w' => e = .returned (.int .i64 (AnsW.sg (val (tk 8 L)))) ∧ IsR g (dp 8 L) (bd 8 L b) w' ∧ Below g w w' ∧ KeepG g w w' := by
  have HH := hid h
  have HL := hid hl
  have hv := val_tk 8 L
  obtain ⟨x, hx⟩ : ∃ x, x = val (tk 8 L) := ⟨_, rfl⟩
  rw [← hx] at hv ⊢
  have hv2 : (x : Int) ≤ 18446744073709551615 := by omega
  have HW := hid (wrap_i64 x (by omega))
  have HX := hid hx
  clear h hl hx
  go_enter Try.func36, Try.ntmps36
  go_wp2_with fail
  refine (number_keep g 8 L b _ HH.out (by omega) HL.out).mono ?_
  rintro e w1 ⟨rfl, hR, hb, hkg⟩
  rw [← HX.out]
  have HR := hid hR
  have HB := hid hb
  have HKG := hid hkg
  clear hR hb hkg
  go_wp2
  go_ret
  exact ⟨ret_int HW.out, HR.out, HB.out, HKG.out⟩
theorem i64r_any (g : Nat) (L : List UInt8) (b : Bool) (w : World) (h : IsR g L b w) (hl : L.length ≤ 1073741824) :
    Calls Try.prog 36 #[.pointer (some ⟨g, 0, none⟩)] w fun e w' => e = .returned (.int .i64 (AnsW.sg (val (tk 8 L)))) ∧ IsR g (dp 8 L) (bd 8 L b) w' ∧ Below g w w' :=
  (i64r_keep g L b w h hl).mono fun _ _ ⟨a1, a2, a3, _⟩ => ⟨a1, a2, a3⟩
/-- What a text's reading leaves. -/
def tn (L : List UInt8) : Nat := val (tk 4 L)
def tt (L : List UInt8) : List UInt8 := tk (tn L) (dp 4 L)
def td (L : List UInt8) : List UInt8 := dp (tn L) (dp 4 L)
def tb (L : List UInt8) (b : Bool) : Bool := bd (tn L) (dp 4 L) (bd 4 L b)
theorem strr_keep (g : Nat) (L : List UInt8) (b : Bool) (w : World) (h : IsR g L b w) (hl : L.length ≤ 1073741824) :
    Calls Try.prog 37 #[.pointer (some ⟨g, 0, none⟩)] w fun e w' => e = .returned (.string (strOf (tt L))) ∧ IsR g (td L) (tb L b) w' ∧ Below g w w' ∧ KeepG g w w' := by
  have HH := hid h
  have HL := hid hl
  have hv := val_tk 4 L
  obtain ⟨x, hx⟩ : ∃ x, x = val (tk 4 L) := ⟨_, rfl⟩
  rw [← hx] at hv
  have hv2 : (x : Int) ≤ 4294967295 := by omega
  have HX := hid hx
  have HE1 : Hid (tt L = tk x (dp 4 L)) := by show _ = _; unfold tt tn; rw [← hx]
  have HE2 : Hid (td L = dp x (dp 4 L)) := by show _ = _; unfold td tn; rw [← hx]
  have HE3 : Hid (tb L b = bd x (dp 4 L) (bd 4 L b)) := by show _ = _; unfold tb tn; rw [← hx]
  have HDL : Hid ((dp 4 L).length ≤ 1073741824) := Nat.le_trans (dp_len 4 L) hl
  clear h hl hx
  go_enter Try.func37, Try.ntmps37
  go_wp2_with fail
  refine (u32r_keep g L b _ HH.out HL.out).mono ?_
  rintro e w1 ⟨rfl, hR, hb, hkg⟩
  rw [← HX.out]
  have HR := hid hR
  have HB := hid hb
  have HKG := hid hkg
  clear hR hb hkg
  go_wp2_with fail
  refine (take_keep g x (dp 4 L) (bd 4 L b) _ HR.out (by omega) HDL.out).mono ?_
  rintro e w2 ⟨A, c, rfl, hnc, hcm, hr, hR, hb, hkg⟩
  have HR2 := hid hR
  have HB2 := hid hb
  have HKG2 := hid hkg
  have hs := fun W (h : Rds W A (tk x (dp 4 L)).length (bcells (tk x (dp 4 L)))) => run_string_of (P := Try.prog) 25 9 5 Try.underlying25 Try.underlying5 Try.underlying9 _ c h
  have hs2 := hs _ hr
  clear hR hb hs hr hkg
  go_wp2
  go_ret
  exact ⟨ret_str (by rw [HE1.out]), by rw [HE2.out, HE3.out]; exact HR2.out, HB.out.trans HB2.out, HKG.out.trans HB.out HKG2.out⟩
theorem strr_any (g : Nat) (L : List UInt8) (b : Bool) (w : World) (h : IsR g L b w) (hl : L.length ≤ 1073741824) :
    Calls Try.prog 37 #[.pointer (some ⟨g, 0, none⟩)] w fun e w' => e = .returned (.string (strOf (tt L))) ∧ IsR g (td L) (tb L b) w' ∧ Below g w w' :=
  (strr_keep g L b w h hl).mono fun _ _ ⟨a1, a2, a3, _⟩ => ⟨a1, a2, a3⟩
theorem left_any (g : Nat) (L : List UInt8) (b : Bool) (w : World) (h : IsR g L b w) :
    Calls Try.prog 21 #[.pointer (some ⟨g, 0, none⟩)] w fun e w' => e = .returned (.int .i64 (L.length : Int)) ∧ w' = w := by
  obtain ⟨A, n, c, hg, hr, hnc, hcm, _⟩ := h
  have hn : L.length = n := by rw [← length_bcells]; exact hr.1
  have c0 : w.cell? ⟨g, 0, none⟩ = some (.slice A n c) := (cell_of_row w g 0 _ _ _ hg).trans rfl
  have hni : (n : Int) ≤ 9223372036854775807 := by unfold maxLen at hcm; omega
  subst hn
  clear hg hr hcm
  go_enter Try.func21, Try.ntmps21
  go_wp2
  go_ret
  exact ⟨rfl, rfl⟩
theorem bad_any (g : Nat) (L : List UInt8) (b : Bool) (w : World) (h : IsR g L b w) :
    Calls Try.prog 23 #[.pointer (some ⟨g, 0, none⟩)] w fun e w' => e = .returned (.bool b) ∧ w' = w := by
  obtain ⟨A, n, c, hg, hr, hnc, hcm, _⟩ := h
  have c1 : w.cell? ⟨g, 1, none⟩ = some (.bool b) := (cell_of_row w g 1 _ _ _ hg).trans rfl
  clear hg hr hcm
  go_enter Try.func23, Try.ntmps23
  go_wp2
  go_ret
  exact ⟨rfl, rfl⟩
end Go.Proofs.Ytafnekilnbhhlaa.AnsR
