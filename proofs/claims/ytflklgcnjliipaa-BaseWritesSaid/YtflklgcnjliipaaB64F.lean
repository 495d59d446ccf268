/- The document's own Decode of layer 3: bit by bit. -/
import Derived.Test.YtflklgcnjliipaaB64P
import Derived.Test.YtflklgcnjliipaaB64R
namespace Go.Proofs.Ytflklgcnjliipaa.B64F
open Go.RowKit Go.Proofs.Ytflklgcnjliipaa.Base Go.Proofs.Ytflklgcnjliipaa.Base2 Go.Proofs.Ytflklgcnjliipaa.B64N Go.Proofs.Ytflklgcnjliipaa.B64U Go.Proofs.Ytflklgcnjliipaa.B64D Go.Proofs.Ytflklgcnjliipaa.B64P

/-- Block g is a row of the call's own that begins with these bytes. -/
def Row0 (w : World) (g : Nat) (t : TypeId) (L : List UInt8) : Prop :=
  ∃ C, w.heap[g]? = some (.cells C t (0, 0)) ∧ L.length ≤ C.size ∧ ∀ j (h : j < L.length), C[j]? = some (.int .u8 (L[j].toNat : Int))
theorem Row0.cell {w : World} {g : Nat} {t : TypeId} {L : List UInt8} (h : Row0 w g t L) (j : Nat) (hj : j < L.length) : w.cell? ⟨g, j, none⟩ = some (.int .u8 (L[j].toNat : Int)) := by
  obtain ⟨C, hh, hC, hc⟩ := h
  unfold World.cell?
  rw [hh]
  simpa using hc j hj
theorem Row0.frozen {w : World} {g : Nat} {t : TypeId} {L : List UInt8} (h : Row0 w g t L) (j : Nat) : w.frozen? ⟨g, j, none⟩ = false := by
  obtain ⟨C, hh, hC, hc⟩ := h
  unfold World.frozen?
  rw [hh]
  simp
theorem Row0.below {w w' : World} {g : Nat} {t : TypeId} {L : List UInt8} (h : Row0 w g t L) (hb : Below w.heap.size w w') : Row0 w' g t L := by
  obtain ⟨C, hh, hC, hc⟩ := h
  exact ⟨C, (hb.block g (Array.getElem?_eq_some_iff.1 hh).1).trans hh, hC, hc⟩
theorem Row0.lt {w : World} {g : Nat} {t : TypeId} {L : List UInt8} (h : Row0 w g t L) : g < w.heap.size := by
  obtain ⟨C, hh, _⟩ := h
  exact (Array.getElem?_eq_some_iff.1 hh).1
theorem Row0.set {w : World} {g : Nat} {t : TypeId} {L : List UInt8} (h : Row0 w g t L) (j : Nat) (c : UInt8) : Row0 (w.setCell ⟨g, j, none⟩ (.int .u8 (c.toNat : Int))) g t (L.set j c) := by
  obtain ⟨C, hh, hC, hc⟩ := h
  refine ⟨C.setIfInBounds j (.int .u8 (c.toNat : Int)), ?_, by simpa using hC, fun i hi => ?_⟩
  · simp [World.setCell, Array.getElem?_modify, hh]
  · have hi' : i < L.length := by simpa using hi
    by_cases e : j = i
    · subst e
      rw [Array.getElem?_setIfInBounds_self_of_lt (by omega)]
      simp
    · rw [Array.getElem?_setIfInBounds_ne e, hc i hi']
      simp [List.getElem_set, e]
theorem Row0.rds {w : World} {g : Nat} {t : TypeId} {L : List UInt8} (h : Row0 w g t L) : Rds w (some ⟨g, 0, none⟩) L.length (bcells L) := by
  refine Rds.of_spot (length_bcells L) ?_ (fun j hj => ?_)
  · obtain ⟨C, hh, _⟩ := h
    exact (Array.getElem?_eq_some_iff.1 hh).1
  · rw [length_bcells] at hj
    rw [Nat.zero_add, h.cell j hj]
    simp [bcells]
theorem row0_made {w : World} {base : Nat} {t : TypeId} {g n : Nat} {xs : List Value} (h : w.ownsRow base t 1 (.slice (some ⟨g, 0, none⟩) n n) n xs) (hx : xs = bcells (List.replicate n 0)) : Row0 w g t (List.replicate n 0) := by
  obtain ⟨_, h | ⟨g', cap, cur, e, _, hh, _, _, hs, ht⟩⟩ := h
  · cases h.1
  · injection e with e1 e2 e3
    injection e1 with e1
    injection e1 with e1
    subst e1 e3
    refine ⟨cur, hh, by simp; omega, fun j hj => ?_⟩
    have hj' : j < n := by simpa using hj
    have h2 : (cur.toList.take (n * 1))[j]? = xs[j]? := by rw [ht]
    rw [List.getElem?_take, if_pos (by omega), hx] at h2
    simp only [Array.getElem?_toList] at h2
    rw [h2]
    simp [bcells, hj']
theorem made_zero (q : Nat) : (madeCells #[Value.int .u8 0] q).toList = bcells (List.replicate q 0) := by
  apply List.ext_getElem
  · simp [madeCells, bcells]
  · intro i h1 h2
    simp [madeCells, bcells, Value.cells, Nat.mod_one]
theorem bit_or (v r : Nat) (hv : v < 256) (hr : r < 8) (h : v % 2 ^ (8 - r) = 0) : bits .or .u8 (v : Int) ((2 ^ (7 - r) : Nat) : Int) = ((v + 2 ^ (7 - r) : Nat) : Int) := by
  have H : ∀ (r : Fin 8) (v : Fin 256), v.val % 2 ^ (8 - r.val) = 0 → bits .or .u8 (v.val : Int) ((2 ^ (7 - r.val) : Nat) : Int) = ((v.val + 2 ^ (7 - r.val) : Nat) : Int) := by decide +kernel
  exact H ⟨r, hr⟩ ⟨v, hv⟩ h
theorem bit_and (x : Nat) (h : x < 64) : bits .and .i64 (x : Int) 1 = ((x % 2 : Nat) : Int) := by
  have H : ∀ x : Fin 64, bits .and .i64 (x.val : Int) 1 = ((x.val % 2 : Nat) : Int) := by decide +kernel
  exact H ⟨x, h⟩
theorem pack_false (B : List Bool) (m : Nat) : pack (B ++ [false]) m = pack B m := by
  unfold pack
  apply List.map_congr_left
  intro j _
  by_cases e : j = B.length / 8
  · subst e
    rw [(byteAt_here B false).1, b2_false, Nat.add_zero]
  · rw [byteAt_other B false j e]
theorem wrap_pow (y : Nat) (h : y < 256) : IntKind.u8.wrap (y : Int) = (y : Int) := by
  rw [IntKind.wrap_u8]
  omega
theorem bits_at (z i : Nat) (h : i < 6) : (bitsOf z).take (i + 1) = (bitsOf z).take i ++ [z / 2 ^ (5 - i) % 2 == 1] := by
  rcases (show i = 0 ∨ i = 1 ∨ i = 2 ∨ i = 3 ∨ i = 4 ∨ i = 5 by omega) with rfl | rfl | rfl | rfl | rfl | rfl <;> simp [bitsOf]
theorem unp_cases (U : List UInt8) : ((U.length = 0 ∨ U.length % 4 ≠ 0) ∧ unp U = U) ∨
    (∃ c1, 0 < U.length ∧ U.length % 4 = 0 ∧ U.getLast? = some c1 ∧ c1 ≠ 61 ∧ unp U = U) ∨
    (∃ c1 c2, 4 ≤ U.length ∧ U.length % 4 = 0 ∧ U.getLast? = some c1 ∧ c1 = 61 ∧ U[U.length - 2]? = some c2 ∧ (c2 ≠ 61 ∧ unp U = U.take (U.length - 1) ∨ c2 = 61 ∧ unp U = U.take (U.length - 2))) := by
  by_cases h4 : U.length % 4 = 0
  · have hu : unp U = strip (strip U) := by unfold unp; rw [if_pos h4]
    rcases Nat.eq_zero_or_pos U.length with h0 | h0
    · obtain rfl := List.eq_nil_of_length_eq_zero h0
      exact Or.inl ⟨Or.inl rfl, rfl⟩
    · obtain ⟨c1, h1⟩ : ∃ c1, U.getLast? = some c1 := by
        rw [List.getLast?_eq_getElem?, List.getElem?_eq_getElem (by omega)]
        exact ⟨_, rfl⟩
      by_cases e1 : c1 = 61
      · have hs1 := strip_yes U c1 h1 e1
        obtain ⟨c2, h2⟩ : ∃ c2, U[U.length - 2]? = some c2 := by
          rw [List.getElem?_eq_getElem (by omega)]
          exact ⟨_, rfl⟩
        have h2' : (U.take (U.length - 1)).getLast? = some c2 := by
          rw [List.getLast?_eq_getElem?, List.length_take, List.getElem?_take, if_pos (by omega), show min (U.length - 1) U.length - 1 = U.length - 2 by omega]
          exact h2
        refine Or.inr (Or.inr ⟨c1, c2, by omega, h4, h1, e1, h2, ?_⟩)
        by_cases e2 : c2 = 61
        · refine Or.inr ⟨e2, ?_⟩
          rw [hu, hs1, strip_yes _ c2 h2' e2, List.length_take, List.take_take]
          congr 1
          omega
        · refine Or.inl ⟨e2, ?_⟩
          rw [hu, hs1, strip_no _ c2 h2' e2]
      · refine Or.inr (Or.inl ⟨c1, h0, h4, h1, e1, ?_⟩)
        rw [hu, strip_no U c1 h1 e1, strip_no U c1 h1 e1]
  · refine Or.inl ⟨Or.inr h4, ?_⟩
    unfold unp
    rw [if_neg h4]
set_option maxHeartbeats 40000000 in
set_option maxRecDepth 100000 in
theorem ref_decode (s : ByteArray) (w : World) (hm : s.size ≤ 1000000) :
    Calls Try.prog 12 #[.string s] w fun e w' => ∃ A c, e = .returned (.tuple #[.slice A (dB s.data.toList).length c, .bool (dOk s.data.toList)]) ∧ (dB s.data.toList).length ≤ c ∧ c ≤ maxLen ∧ Rds w' A (dB s.data.toList).length (bcells (dB s.data.toList)) ∧ Below w.heap.size w w' := by
  have hl : s.data.toList.length = s.size := Array.length_toList
  have HL := hid hl
  clear hl
  obtain ⟨i0, hi, hz0, hz1, hz2⟩ := info_parts info_u8
  go_enter Try.func12, Try.ntmps12
  go_wp2
  go_loopw [4, 5, 6, 15] (fun v _ _ vk wr => ∃ (j : Nat), j ≤ s.size ∧ vk = .int .i64 j ∧ wr.ownsRow w.heap.size 5 1 v (unb (s.data.toList.take j)).length (bcells (unb (s.data.toList.take j))) ∧ Below w.heap.size w wr) (fun _ _ _ vk _ => s.size - (intOf vk).toNat)
  case atStart => exact ⟨0, Nat.zero_le _, rfl, World.ownsRow_nil _ _ _ _, Below.refl _ _⟩
  case round =>
    obtain ⟨j, hj, rfl, hown, hbel⟩ := hrel
    by_cases hlt : j < s.size
    · obtain ⟨c, hc⟩ : ∃ c, s[j] = c := ⟨_, rfl⟩
      have HS : Hid (s.data.toList.take (j + 1) = s.data.toList.take j ++ [c]) := by
        rw [← hc, List.take_succ_eq_append_getElem (by rw [HL.out]; exact hlt)]
        rfl
      have hle := unb_len (s.data.toList.take j)
      have hle2 : (s.data.toList.take j).length ≤ j := List.length_take_le _ _
      obtain ⟨m, hmm⟩ : ∃ m, m = (unb (s.data.toList.take j)).length := ⟨_, rfl⟩
      rw [← hmm] at hle hown
      have HM := hid hmm
      clear hmm
      have hc0 : (c.toNat : Int) < 256 := by have := c.toNat_lt; omega
      by_cases hb : (c.toNat : Int) = 9 ∨ (c.toNat : Int) = 10 ∨ (c.toNat : Int) = 12 ∨ (c.toNat : Int) = 13 ∨ (c.toNat : Int) = 32
      · have HB : Hid (B64N.blank c = true) := by
          show B64N.blank c = true
          unfold B64N.blank
          rcases hb with h | h | h | h | h <;> (have h' : c.toNat = _ := Int.ofNat_inj.1 h) <;> simp [h']
        have HE : Hid (unb (s.data.toList.take (j + 1)) = unb (s.data.toList.take j)) := by rw [HS.out, unb_snoc, if_pos HB.out]; exact rfl
        clear HB
        rcases hb with h | h | h | h | h
        all_goals
          first | have y1 : ¬ (c.toNat : Int) = 9 := by omega | skip
          first | have y2 : ¬ (c.toNat : Int) = 10 := by omega | skip
          first | have y3 : ¬ (c.toNat : Int) = 12 := by omega | skip
          first | have y4 : ¬ (c.toNat : Int) = 13 := by omega | skip
          first | have y5 : ¬ (c.toNat : Int) = 32 := by omega | skip
          go_wp2
          go_roundw
          case rel => exact ⟨j + 1, by omega, by go_num, by rw [HE.out, ← HM.out]; exact hown, hbel⟩
          case measure => simp [intOf]; omega
      · have b1 : ¬ (c.toNat : Int) = 9 := fun h => hb (by omega)
        have b2 : ¬ (c.toNat : Int) = 10 := fun h => hb (by omega)
        have b3 : ¬ (c.toNat : Int) = 12 := fun h => hb (by omega)
        have b4 : ¬ (c.toNat : Int) = 13 := fun h => hb (by omega)
        have b5 : ¬ (c.toNat : Int) = 32 := fun h => hb (by omega)
        have HB : Hid (B64N.blank c = false) := by
          show B64N.blank c = false
          unfold B64N.blank
          simp
          omega
        have HE : Hid (unb (s.data.toList.take (j + 1)) = unb (s.data.toList.take j) ++ [c]) := by rw [HS.out, unb_snoc, if_neg (by rw [HB.out]; decide)]; exact rfl
        clear HB hb
        have nb1 : ((c.toNat : Int) != 9) = true := by simpa using b1
        have nb2 : ((c.toNat : Int) != 10) = true := by simpa using b2
        have nb3 : ((c.toNat : Int) != 12) = true := by simpa using b3
        have nb4 : ((c.toNat : Int) != 13) = true := by simpa using b4
        have nb5 : ((c.toNat : Int) != 32) = true := by simpa using b5
        go_wp2_with (at_builtin; refine wpList_app rfl _ _ 22 rfl w.heap.size 5 i0 (.int .u8 0) 1 Try.underlying22 hi hz0 hz1 hz2 rfl _ m _ rfl hown hbel hbel.size [.int .u8 (c.toNat : Int)] 1 rfl rfl (by intro u hu; simp at hu; subst hu; rfl) (by unfold maxLen; omega) (by omega) ?_)
        intro v' w2 hown2 hbel2
        clear hown hbel
        go_wp2
        go_roundw
        case rel => exact ⟨j + 1, by omega, by go_num, by
            rw [HE.out, List.length_append, bcells_append, ← HM.out]
            exact hown2, hbel2⟩
        case measure => simp [intOf]; omega
    · obtain rfl : j = s.size := by omega
      have HE : Hid (s.data.toList.take s.size = s.data.toList) := by
        rw [← HL.out]; exact List.take_length
      rw [HE.out] at hown
      obtain ⟨U, hU⟩ : ∃ U, U = unb s.data.toList := ⟨_, rfl⟩
      obtain ⟨T, hT⟩ : ∃ T, T = txt s.data.toList := ⟨_, rfl⟩
      have hTU : T = unp U := by rw [hT, hU]; rfl
      have hun : U.length ≤ 1000000 := by rw [hU]; have := unb_len s.data.toList; have := HL.out; omega
      rw [← hU] at hown
      obtain ⟨A, cp, rfl, hcp, hcm, hrd⟩ := owns_form hown
      have HT := hid hT
      clear hown hU hT
      obtain ⟨n, hn⟩ : ∃ n, n = U.length := ⟨_, rfl⟩
      obtain ⟨m, hmT⟩ : ∃ m, m = T.length := ⟨_, rfl⟩
      have HMT := hid hmT
      have hmn : m ≤ n := by
        rw [hmT, hTU, hn]
        rcases unp_cases U with ⟨_, h⟩ | ⟨_, _, _, _, _, h⟩ | ⟨_, _, _, _, _, _, _, ⟨_, h⟩ | ⟨_, h⟩⟩ <;> rw [h] <;> simp
      have HRT : Hid (Rds wr A m (bcells T)) := by
        have h2 : T = U.take m := by
          rw [hmT, hTU]
          rcases unp_cases U with ⟨_, h⟩ | ⟨_, _, _, _, _, h⟩ | ⟨_, _, _, _, _, _, _, ⟨_, h⟩ | ⟨_, h⟩⟩ <;> rw [h] <;> simp
        rw [h2, bcells_take]
        rcases Nat.eq_zero_or_pos n with h0 | h0
        · have h3 : m = 0 := by omega
          rw [h3, List.take_zero]
          exact Rds.nil _
        · obtain ⟨g, off, rfl, _, _⟩ := hrd.spot (by omega)
          exact hrd.upto m (by omega)
      rw [← hn] at hcp hrd hun ⊢
      have HRU := hid hrd
      clear hrd
      have hmc : m ≤ cp := by omega
      have hm6 : m ≤ 1000000 := by omega
      have hq : (6 * (m : Int)).tdiv 8 = ((6 * m / 8 : Nat) : Int) := by rw [Int.tdiv_eq_ediv_of_nonneg (by omega)]; omega
      have hq2 : 6 * (m : Int) / 8 = ((6 * m / 8 : Nat) : Int) := by omega
      obtain ⟨q, hqq⟩ : ∃ q, q = 6 * m / 8 := ⟨_, rfl⟩
      have HQ := hid hqq
      have hqm : q ≤ 750000 := by omega
      rw [← hqq] at hq hq2
      clear hqq
      have hfacts : (n = 0 ∧ m = n) ∨ (¬ n = 0 ∧ ¬ n % 4 = 0 ∧ m = n) ∨ (∃ c1 g off, 0 < n ∧ n % 4 = 0 ∧ A = some ⟨g, off, none⟩ ∧ wr.cell? ⟨g, off + (n - 1), none⟩ = some (.int .u8 ((c1 : UInt8).toNat : Int)) ∧ ¬ (c1.toNat : Int) = 61 ∧ m = n) ∨
          (∃ c1 c2 g off, 4 ≤ n ∧ n % 4 = 0 ∧ A = some ⟨g, off, none⟩ ∧ wr.cell? ⟨g, off + (n - 1), none⟩ = some (.int .u8 ((c1 : UInt8).toNat : Int)) ∧ (c1.toNat : Int) = 61 ∧ wr.cell? ⟨g, off + (n - 2), none⟩ = some (.int .u8 ((c2 : UInt8).toNat : Int)) ∧ (¬ (c2.toNat : Int) = 61 ∧ (n : Int) - 1 = (m : Int) ∨ (c2.toNat : Int) = 61 ∧ (n : Int) - 2 = (m : Int))) := by
        have hn61 : ∀ c : UInt8, c ≠ 61 → ¬ (c.toNat : Int) = 61 := fun c h e => h (UInt8.toNat_inj.1 (by simpa using Int.ofNat_inj.1 e))
        rcases unp_cases U with ⟨h1, h⟩ | ⟨c1, h0, h4, h1, e1, h⟩ | ⟨c1, c2, h0, h4, h1, e1, h2, h3⟩
        · rw [← hTU] at h
          have : m = n := by rw [hmT, h, hn]
          rcases Nat.eq_zero_or_pos n with h0 | h0
          · exact Or.inl ⟨h0, this⟩
          · exact Or.inr (Or.inl ⟨by omega, by omega, this⟩)
        · rw [← hTU] at h
          have : m = n := by rw [hmT, h, hn]
          obtain ⟨g, off, rfl, _, _⟩ := HRU.out.spot (by omega)
          refine Or.inr (Or.inr (Or.inl ⟨c1, g, off, by omega, by omega, rfl, ?_, hn61 c1 e1, this⟩))
          rw [List.getLast?_eq_getElem?, List.getElem?_eq_getElem (by omega)] at h1
          have hb := HRU.out.byte (n - 1) (by omega)
          rw [hb]
          injection h1 with h1
          rw [← h1]
          congr 4
          simp only [hn]
        · obtain ⟨g, off, rfl, _, _⟩ := HRU.out.spot (by omega)
          refine Or.inr (Or.inr (Or.inr ⟨c1, c2, g, off, by omega, by omega, rfl, ?_, by rw [e1]; rfl, ?_, ?_⟩))
          · rw [List.getLast?_eq_getElem?, List.getElem?_eq_getElem (by omega)] at h1
            have hb := HRU.out.byte (n - 1) (by omega)
            rw [hb]
            injection h1 with h1
            rw [← h1]
            congr 4
            simp only [hn]
          · rw [List.getElem?_eq_getElem (by omega)] at h2
            have hb := HRU.out.byte (n - 2) (by omega)
            rw [hb]
            injection h2 with h2
            rw [← h2]
            congr 4
            simp only [hn]
          · rcases h3 with ⟨e2, h⟩ | ⟨e2, h⟩
            · rw [← hTU] at h
              have h5 : m = U.length - 1 := by rw [hmT, h]; simp
              exact Or.inl ⟨hn61 c2 e2, by omega⟩
            · rw [← hTU] at h
              have h5 : m = U.length - 2 := by rw [hmT, h]; simp
              exact Or.inr ⟨by rw [e2]; rfl, by omega⟩
      have HTU := hid hTU
      have HN := hid hn
      clear hTU hn hmT
      have hbelr := hbel
      clear hbel
      obtain ⟨w1, hw1⟩ : ∃ w1, w1 = wr := ⟨_, rfl⟩
      subst hw1
      by_cases h41 : m % 4 = 1
      · have HNo : Hid (dOk s.data.toList = false) := by
          show dOk _ = false
          unfold dOk
          rw [← HT.out, ← HMT.out]
          simp [h41]
        have HB : Hid (dB s.data.toList = []) := by
          show dB _ = []
          unfold dB
          rw [HNo.out]
          rfl
        have h41' : ((m : Int).tmod 4) = 1 := by rw [Int.tmod_eq_emod_of_nonneg (by omega)]; omega
        have h41'' : (m : Int) % 4 = 1 := by omega
        rcases hfacts with ⟨h0, rfl⟩ | ⟨h0, h4, rfl⟩ | ⟨c1, g, off, h0, h4, rfl, hk1, h61, rfl⟩ | ⟨c1, c2, g, off, h0, h4, rfl, hk1, h61, hk2, ⟨h62, hmn2⟩ | ⟨h62, hmn2⟩⟩
        · omega
        · have g1 : (0 : Int) < (m : Int) := by omega
          have g2 : ¬ (m : Int) % 4 = 0 := by omega
          go_wp2
          go_ret2
          exact ⟨none, 0, ret2 (by rw [HB.out]; rfl) (bool_eq HNo.out.symm), by rw [HB.out]; exact Nat.le_refl _, by decide, by rw [HB.out]; exact Rds.nil _, hbelr⟩
        · omega
        · have g1 : (0 : Int) < (n : Int) := by omega
          omega
        · omega
      · have h41' : ¬ ((m : Int).tmod 4) = 1 := by rw [Int.tmod_eq_emod_of_nonneg (by omega)]; omega
        have h41'' : ¬ (m : Int) % 4 = 1 := by omega
        have hmi : (m : Int) ≤ 1000000 := by omega
        rcases hfacts with ⟨h0, rfl⟩ | ⟨h0, h4, rfl⟩ | ⟨c1, g, off, h0, h4, rfl, hk1, h61, rfl⟩ | ⟨c1, c2, g, off, h0, h4, rfl, hk1, h61, hk2, ⟨h62, hmn2⟩ | ⟨h62, hmn2⟩⟩
        · have g1 : ¬ (0 : Int) < (m : Int) := by omega
          have H0 := hid h0
          clear h0
          go_wp2_with (at_make; refine wpList_make_full _ rfl _ _ 22 rfl w1.heap.size 5 i0 (.int .u8 0) 1 Try.underlying22 hi hz0 hz1 .i64 .i64 _ _ q rfl rfl rfl rfl (by rw [hz2]; omega) (by unfold maxLen; omega) (Nat.le_refl _) ?_)
          intro w3 hown3 hg3
          have hbel3 : Below w1.heap.size w1 w3 := (Below.refl _ _).grown hg3 (Nat.le_refl _) (by intro k h; cases h)
          clear hg3
          have hrow3 : Row0 w3 w1.heap.size 5 (pack [] q) := by rw [pack_nil]; exact row0_made hown3 (made_zero q)
          clear hown3 hq hq2
          generalize hgb : w1.heap.size = gb at *
          go_wp2
          go_loopw [9, 10, 11, 12, 86] (fun _ _ _ _ vk wr => ∃ j : Nat, j ≤ m ∧ vk = .int .i64 j ∧ Row0 wr gb 5 (pack (allBits (nums (T.take j))) q) ∧ Hid (∀ c ∈ T.take j, 0 ≤ num c) ∧ Below gb w1 wr) (fun _ _ _ _ vk _ => m - (intOf vk).toNat)
          case atStart => exact ⟨0, Nat.zero_le _, rfl, hrow3, (fun c hc => by simp at hc), hbel3⟩
          case round =>
            clear hrow3 hbel3
            obtain ⟨j, hj, rfl, hrow, HZ, hbel⟩ := hrel
            by_cases hlt : j < m
            · omega
            · obtain rfl : j = m := by omega
              have HE2 : Hid (T.take j = T) := by rw [HMT.out]; exact List.take_length
              rw [HE2.out] at hrow HZ
              have HNo : Hid (dOk s.data.toList = true) := by
                show dOk _ = true
                unfold dOk
                rw [← HT.out, decide_eq_true_iff]
                exact ⟨by rw [← HMT.out]; exact h41, HZ.out⟩
              have HB : Hid (pack (allBits (nums T)) q = dB s.data.toList) := by
                show _ = dB _
                unfold dB
                rw [HNo.out, if_pos rfl, ← HT.out, HQ.out, HMT.out, pack_runs T HZ.out]
              have HBL2 : Hid ((dB s.data.toList).length = q) := by rw [← HB.out]; exact pack_len _ _
              have hrr := hrow.rds
              rw [HB.out, HBL2.out] at hrr
              go_wp2
              go_ret2
              exact ⟨some ⟨gb, 0, none⟩, q, ret2 (by rw [HBL2.out]; rfl) (bool_eq HNo.out.symm), by rw [HBL2.out]; exact Nat.le_refl _, by unfold maxLen; omega, by rw [HBL2.out]; exact hrr, hbelr.trans (hbel.mono (by rw [← hgb]; exact hbelr.size))⟩
        · have g1 : (0 : Int) < (m : Int) := by omega
          have g2 : ¬ (m : Int) % 4 = 0 := by omega
          go_wp2_with (at_make; refine wpList_make_full _ rfl _ _ 22 rfl w1.heap.size 5 i0 (.int .u8 0) 1 Try.underlying22 hi hz0 hz1 .i64 .i64 _ _ q rfl rfl rfl rfl (by rw [hz2]; omega) (by unfold maxLen; omega) (Nat.le_refl _) ?_)
          intro w3 hown3 hg3
          have hbel3 : Below w1.heap.size w1 w3 := (Below.refl _ _).grown hg3 (Nat.le_refl _) (by intro k h; cases h)
          clear hg3
          have hrow3 : Row0 w3 w1.heap.size 5 (pack [] q) := by rw [pack_nil]; exact row0_made hown3 (made_zero q)
          clear hown3 hq hq2
          generalize hgb : w1.heap.size = gb at *
          go_wp2
          go_loopw [9, 10, 11, 12, 86] (fun _ _ _ _ vk wr => ∃ j : Nat, j ≤ m ∧ vk = .int .i64 j ∧ Row0 wr gb 5 (pack (allBits (nums (T.take j))) q) ∧ Hid (∀ c ∈ T.take j, 0 ≤ num c) ∧ Below gb w1 wr) (fun _ _ _ _ vk _ => m - (intOf vk).toNat)
          case atStart => exact ⟨0, Nat.zero_le _, rfl, hrow3, (fun c hc => by simp at hc), hbel3⟩
          case round =>
            clear hrow3 hbel3
            obtain ⟨j, hj, rfl, hrow, HZ, hbel⟩ := hrel
            by_cases hlt : j < m
            · obtain ⟨gg, oo, hA2, hgg, _⟩ := HRT.out.spot (by omega)
              have HRT2 := HRT.out
              rw [hA2] at HRT2
              obtain ⟨c, hx⟩ : ∃ c, c = T[j]'(by rw [← HMT.out]; exact hlt) := ⟨_, rfl⟩
              have hcell : wr.cell? ⟨gg, oo + j, none⟩ = some (.int .u8 (c.toNat : Int)) := by
                rw [hx, ← HRT2.byte j (by rw [← HMT.out]; exact hlt)]
                exact hbel.cell (p := ⟨gg, oo + j, none⟩) (by show gg < gb; omega)
              clear HRT2
              cases hA2
              have HS : Hid (T.take (j + 1) = T.take j ++ [c]) := by
                rw [hx]
                exact List.take_succ_eq_append_getElem (by rw [← HMT.out]; exact hlt)
              have HIN : Hid (c ∈ T) := by rw [hx]; exact List.getElem_mem _
              clear hx
              have hrg := num_range c
              by_cases hn : num c < 0
              · have hn' : num c = -1 := by omega
                have HNN := hid hn'
                have HNo : Hid (dOk s.data.toList = false) := by
                  show dOk _ = false
                  unfold dOk
                  rw [decide_eq_false_iff_not]
                  rintro ⟨_, h⟩
                  have := h c (by rw [← HT.out]; exact HIN.out)
                  omega
                have HB : Hid (dB s.data.toList = []) := by
                  show dB _ = []
                  unfold dB
                  rw [HNo.out]
                  rfl
                clear hn hn' hrg
                go_wp2_with fail
                refine (B64R.number_any c _).mono ?_
                rintro e w4 ⟨rfl, hb4⟩
                rw [HNN.out]
                go_wp2
                go_ret2
                exact ⟨none, 0, ret2 (by rw [HB.out]; rfl) (bool_eq HNo.out.symm), by rw [HB.out]; exact Nat.le_refl _, by decide, by rw [HB.out]; exact Rds.nil _, (hbelr.trans (hbel.mono (by rw [← hgb]; exact hbelr.size))).trans (hb4.mono (by have := hbelr.size; have := hbel.size; omega))⟩
              · obtain ⟨z, hz⟩ : ∃ z : Nat, num c = (z : Int) := ⟨(num c).toNat, by omega⟩
                have hz64 : z < 64 := by omega
                have HNZ := hid hz
                have HZ2 : Hid (∀ x ∈ T.take (j + 1), 0 ≤ num x) := by
                  intro x hx
                  rw [HS.out, List.mem_append] at hx
                  rcases hx with hx | hx
                  · exact HZ.out x hx
                  · simp at hx
                    subst hx
                    omega
                have HBI : Hid (allBits (nums (T.take (j + 1))) = allBits (nums (T.take j)) ++ (bitsOf z).take 6) := by
                  show _ = _
                  rw [HS.out]
                  simp [nums, allBits, hz, bitsOf]
                have HBL : Hid ((allBits (nums (T.take j))).length = 6 * j) := by
                  show _ = _
                  rw [len_all]
                  simp [nums]
                  have := HMT.out
                  omega
                clear hn hrg hz
                go_wp2_with fail
                refine (B64R.number_any c _).mono ?_
                rintro e w4 ⟨rfl, hb4⟩
                rw [HNZ.out]
                have hrow4 := hrow.below hb4
                have hbel4 : Below gb w1 w4 := hbel.trans (hb4.mono (by have := hbel.size; omega))
                clear hrow hbel hcell
                obtain ⟨B0, hB0⟩ : ∃ B0, B0 = allBits (nums (T.take j)) := ⟨_, rfl⟩
                rw [← hB0] at hrow4 HBI HBL
                go_wp2
                go_loopw [11, 12, 96] (fun _ _ vi wr => ∃ i : Nat, i ≤ 6 ∧ vi = .int .i64 i ∧ Row0 wr gb 5 (pack (B0 ++ (bitsOf z).take i) q) ∧ Below gb w1 wr) (fun _ _ vi _ => 6 - (intOf vi).toNat)
                case atStart => exact ⟨0, by omega, rfl, by simpa using hrow4, hbel4⟩
                case round =>
                  clear hrow4 hbel4 hb4
                  obtain ⟨i, hi6, rfl, hrow, hbel⟩ := hrel
                  by_cases hlt2 : i < 6
                  · obtain ⟨P, hPP⟩ : ∃ P, P = 6 * j + i := ⟨_, rfl⟩
                    obtain ⟨B, hB⟩ : ∃ B, B = B0 ++ (bitsOf z).take i := ⟨_, rfl⟩
                    have hBP : B.length = P := by
                      rw [hB, List.length_append, HBL.out, List.length_take, len_bits]
                      omega
                    obtain ⟨b, hb⟩ : ∃ b, b = (z / 2 ^ (5 - i) % 2 == 1) := ⟨_, rfl⟩
                    have HSn : Hid (B0 ++ (bitsOf z).take (i + 1) = B ++ [b]) := by
                      show _ = _
                      rw [bits_at z i hlt2, ← List.append_assoc, ← hB, hb]
                    rw [← hB] at hrow
                    have HBP := hid hBP
                    have hP : 6 * (j : Int) + (i : Int) = (P : Int) := by omega
                    have hPm : (P : Int) ≤ 6000006 := by omega
                    have i5 : (i : Int) ≤ 5 := by omega
                    have i5' : (0 : Int) ≤ 5 - (i : Int) := by omega
                    have hsh : (z : Int) / 2 ^ ((5 : Int) - (i : Int)).toNat = ((z / 2 ^ (5 - i) : Nat) : Int) := by
                      rw [show ((5 : Int) - (i : Int)).toNat = 5 - i by omega]
                      simp
                    have hsh2 : (z : Int) / 2 ^ (5 - i) = ((z / 2 ^ (5 - i) : Nat) : Int) := by simp
                    have hx64 : z / 2 ^ (5 - i) < 64 := Nat.lt_of_le_of_lt (Nat.div_le_self _ _) hz64
                    have hand := bit_and _ hx64
                    obtain ⟨x, hxx⟩ : ∃ x, x = z / 2 ^ (5 - i) := ⟨_, rfl⟩
                    rw [← hxx] at hsh hsh2 hand hb
                    clear hxx hB hBP hPP hx64
                    cases hbv : b
                    · have HPF : Hid (pack (B ++ [b]) q = pack B q) := by rw [hbv]; exact pack_false B q
                      have hx0 : x % 2 = 0 := by
                        rw [hbv] at hb
                        have := hb.symm
                        simp at this
                        omega
                      have hand2 : bits .and .i64 (x : Int) 1 = 0 := by rw [hand, hx0]; rfl
                      clear hand hb hbv hx0
                      by_cases hin : (P : Int) < 8 * (q : Int)
                      all_goals
                        go_wp2
                        go_roundw
                        case rel => exact ⟨i + 1, by omega, by go_num, by rw [HSn.out, HPF.out]; exact hrow, hbel⟩
                        case measure => simp [intOf]; omega
                    · have hx1 : x % 2 = 1 := by
                        rw [hbv] at hb
                        have := hb.symm
                        simpa using this
                      have hand2 : bits .and .i64 (x : Int) 1 = 1 := by rw [hand, hx1]; rfl
                      by_cases hin : (P : Int) < 8 * (q : Int)
                      · obtain ⟨hh1, hh2⟩ := byteAt_here B true
                        have hlt256 := byteAt_lt B (B.length / 8)
                        have hlt256' := byteAt_lt (B ++ [true]) (B.length / 8)
                        have HPS : Hid (pack (B ++ [b]) q = (pack B q).set (P / 8) (UInt8.ofNat (byteAt B (P / 8) + 2 ^ (7 - P % 8)))) := by
                          show _ = _
                          rw [hbv, pack_snoc, HBP.out]
                          rfl
                        rw [hh1] at hlt256'
                        rw [HBP.out] at hh2 hlt256 hlt256'
                        have hr8 : P % 8 < 8 := Nat.mod_lt _ (by decide)
                        have hor := bit_or (byteAt B (P / 8)) (P % 8) hlt256 hr8 hh2
                        have hval : ((UInt8.ofNat (byteAt B (P / 8) + 2 ^ (7 - P % 8))).toNat : Int) = ((byteAt B (P / 8) + 2 ^ (7 - P % 8) : Nat) : Int) := by
                          rw [show b2 true (2 ^ (7 - P % 8)) = 2 ^ (7 - P % 8) from rfl] at hlt256'
                          exact ofNat_small _ hlt256'
                        have hp8 : P / 8 < q := by omega
                        have hcl : wr.cell? ⟨gb, P / 8, none⟩ = some (.int .u8 ((byteAt B (P / 8) : Nat) : Int)) := by
                          rw [hrow.cell (P / 8) (by rw [pack_len]; exact hp8)]
                          simp only [pack, List.getElem_map, List.getElem_range]
                          rw [ofNat_small _ hlt256]
                        have hfz : wr.frozen? ⟨gb, P / 8, none⟩ = false := hrow.frozen (P / 8)
                        have hpow : (2 : Int) ^ ((7 : Int) - ((P % 8 : Nat) : Int)).toNat = ((2 ^ (7 - P % 8) : Nat) : Int) := by
                          rw [show ((7 : Int) - ((P % 8 : Nat) : Int)).toNat = 7 - P % 8 by omega]
                          simp
                        have hpow2 : (2 : Int) ^ (7 - P % 8) = ((2 ^ (7 - P % 8) : Nat) : Int) := by simp
                        have hy : 2 ^ (7 - P % 8) < 256 := by
                          have : 2 ^ (7 - P % 8) ≤ 2 ^ 7 := Nat.pow_le_pow_right (by decide) (by omega)
                          omega
                        have e8 : (P : Int).tdiv 8 = ((P / 8 : Nat) : Int) := by rw [Int.tdiv_eq_ediv_of_nonneg (by omega)]; omega
                        have e8' : (P : Int) / 8 = ((P / 8 : Nat) : Int) := by omega
                        have f8 : (P : Int).tmod 8 = ((P % 8 : Nat) : Int) := by rw [Int.tmod_eq_emod_of_nonneg (by omega)]; omega
                        have f8' : (P : Int) % 8 = ((P % 8 : Nat) : Int) := by omega
                        obtain ⟨p8, hp8e⟩ : ∃ p8, p8 = P / 8 := ⟨_, rfl⟩
                        obtain ⟨r8, hr8e⟩ : ∃ r8, r8 = P % 8 := ⟨_, rfl⟩
                        rw [← hp8e, ← hr8e] at hor hval HPS
                        rw [← hr8e] at hr8 hpow hpow2 hy f8 f8'
                        rw [← hp8e] at hp8 hcl hfz e8 e8'
                        obtain ⟨v, hv⟩ : ∃ v, v = byteAt B p8 := ⟨_, rfl⟩
                        obtain ⟨y, hyy⟩ : ∃ y, y = 2 ^ (7 - r8) := ⟨_, rfl⟩
                        rw [← hv, ← hyy] at hor hval HPS
                        rw [← hv] at hcl
                        rw [← hyy] at hpow hpow2 hy
                        have hwp := wrap_pow y hy
                        have HV := hid hval
                        have hr7 : (r8 : Int) ≤ 7 := by omega
                        have hr7' : (0 : Int) ≤ 7 - (r8 : Int) := by omega
                        have hp8' : (p8 : Int) < (q : Int) := by omega
                        clear hand hb hbv hx1 hh1 hh2 hlt256 hlt256' hval hp8e hr8e hv hyy
                        go_wp2
                        go_roundw
                        case rel => exact ⟨i + 1, by omega, by go_num, by
                            have h2 := hrow.set p8 (UInt8.ofNat (v + y))
                            rw [HV.out, Int.natCast_add] at h2
                            rw [HSn.out, HPS.out]
                            exact h2, hbel.setCell (p := ⟨gb, p8, none⟩) (Nat.le_refl _) _⟩
                        case measure => simp [intOf]; omega
                      · have HPO : Hid (pack (B ++ [b]) q = pack B q) := pack_over B b q (by rw [HBP.out]; omega)
                        clear hand hb hbv hx1
                        go_wp2
                        go_roundw
                        case rel => exact ⟨i + 1, by omega, by go_num, by rw [HSn.out, HPO.out]; exact hrow, hbel⟩
                        case measure => simp [intOf]; omega
                  · obtain rfl : i = 6 := by omega
                    go_wp2
                    go_roundw
                    case rel => exact ⟨j + 1, by omega, by go_num, by rw [HBI.out]; exact hrow, HZ2, hbel⟩
                    case measure => simp [intOf]; omega
            · obtain rfl : j = m := by omega
              have HE2 : Hid (T.take j = T) := by rw [HMT.out]; exact List.take_length
              rw [HE2.out] at hrow HZ
              have HNo : Hid (dOk s.data.toList = true) := by
                show dOk _ = true
                unfold dOk
                rw [← HT.out, decide_eq_true_iff]
                exact ⟨by rw [← HMT.out]; exact h41, HZ.out⟩
              have HB : Hid (pack (allBits (nums T)) q = dB s.data.toList) := by
                show _ = dB _
                unfold dB
                rw [HNo.out, if_pos rfl, ← HT.out, HQ.out, HMT.out, pack_runs T HZ.out]
              have HBL2 : Hid ((dB s.data.toList).length = q) := by rw [← HB.out]; exact pack_len _ _
              have hrr := hrow.rds
              rw [HB.out, HBL2.out] at hrr
              go_wp2
              go_ret2
              exact ⟨some ⟨gb, 0, none⟩, q, ret2 (by rw [HBL2.out]; rfl) (bool_eq HNo.out.symm), by rw [HBL2.out]; exact Nat.le_refl _, by unfold maxLen; omega, by rw [HBL2.out]; exact hrr, hbelr.trans (hbel.mono (by rw [← hgb]; exact hbelr.size))⟩
        · have g1 : (0 : Int) < (m : Int) := by omega
          have g2 : (m : Int) % 4 = 0 := by omega
          have g3 : ((m : Int) - 1).toNat = m - 1 := by omega
          have g4 : ((m : Int) - 1) = ((m - 1 : Nat) : Int) := by omega
          go_wp2_with (at_make; refine wpList_make_full _ rfl _ _ 22 rfl w1.heap.size 5 i0 (.int .u8 0) 1 Try.underlying22 hi hz0 hz1 .i64 .i64 _ _ q rfl rfl rfl rfl (by rw [hz2]; omega) (by unfold maxLen; omega) (Nat.le_refl _) ?_)
          intro w3 hown3 hg3
          have hbel3 : Below w1.heap.size w1 w3 := (Below.refl _ _).grown hg3 (Nat.le_refl _) (by intro k h; cases h)
          clear hg3
          have hrow3 : Row0 w3 w1.heap.size 5 (pack [] q) := by rw [pack_nil]; exact row0_made hown3 (made_zero q)
          clear hown3 hq hq2
          generalize hgb : w1.heap.size = gb at *
          go_wp2
          go_loopw [9, 10, 11, 12, 86] (fun _ _ _ _ vk wr => ∃ j : Nat, j ≤ m ∧ vk = .int .i64 j ∧ Row0 wr gb 5 (pack (allBits (nums (T.take j))) q) ∧ Hid (∀ c ∈ T.take j, 0 ≤ num c) ∧ Below gb w1 wr) (fun _ _ _ _ vk _ => m - (intOf vk).toNat)
          case atStart => exact ⟨0, Nat.zero_le _, rfl, hrow3, (fun c hc => by simp at hc), hbel3⟩
          case round =>
            clear hrow3 hbel3
            obtain ⟨j, hj, rfl, hrow, HZ, hbel⟩ := hrel
            by_cases hlt : j < m
            · obtain ⟨gg, oo, hA2, hgg, _⟩ := HRT.out.spot (by omega)
              have HRT2 := HRT.out
              rw [hA2] at HRT2
              obtain ⟨c, hx⟩ : ∃ c, c = T[j]'(by rw [← HMT.out]; exact hlt) := ⟨_, rfl⟩
              have hcell : wr.cell? ⟨gg, oo + j, none⟩ = some (.int .u8 (c.toNat : Int)) := by
                rw [hx, ← HRT2.byte j (by rw [← HMT.out]; exact hlt)]
                exact hbel.cell (p := ⟨gg, oo + j, none⟩) (by show gg < gb; omega)
              clear HRT2
              cases hA2
              have HS : Hid (T.take (j + 1) = T.take j ++ [c]) := by
                rw [hx]
                exact List.take_succ_eq_append_getElem (by rw [← HMT.out]; exact hlt)
              have HIN : Hid (c ∈ T) := by rw [hx]; exact List.getElem_mem _
              clear hx
              have hrg := num_range c
              by_cases hn : num c < 0
              · have hn' : num c = -1 := by omega
                have HNN := hid hn'
                have HNo : Hid (dOk s.data.toList = false) := by
                  show dOk _ = false
                  unfold dOk
                  rw [decide_eq_false_iff_not]
                  rintro ⟨_, h⟩
                  have := h c (by rw [← HT.out]; exact HIN.out)
                  omega
                have HB : Hid (dB s.data.toList = []) := by
                  show dB _ = []
                  unfold dB
                  rw [HNo.out]
                  rfl
                clear hn hn' hrg
                go_wp2_with fail
                refine (B64R.number_any c _).mono ?_
                rintro e w4 ⟨rfl, hb4⟩
                rw [HNN.out]
                go_wp2
                go_ret2
                exact ⟨none, 0, ret2 (by rw [HB.out]; rfl) (bool_eq HNo.out.symm), by rw [HB.out]; exact Nat.le_refl _, by decide, by rw [HB.out]; exact Rds.nil _, (hbelr.trans (hbel.mono (by rw [← hgb]; exact hbelr.size))).trans (hb4.mono (by have := hbelr.size; have := hbel.size; omega))⟩
              · obtain ⟨z, hz⟩ : ∃ z : Nat, num c = (z : Int) := ⟨(num c).toNat, by omega⟩
                have hz64 : z < 64 := by omega
                have HNZ := hid hz
                have HZ2 : Hid (∀ x ∈ T.take (j + 1), 0 ≤ num x) := by
                  intro x hx
                  rw [HS.out, List.mem_append] at hx
                  rcases hx with hx | hx
                  · exact HZ.out x hx
                  · simp at hx
                    subst hx
                    omega
                have HBI : Hid (allBits (nums (T.take (j + 1))) = allBits (nums (T.take j)) ++ (bitsOf z).take 6) := by
                  show _ = _
                  rw [HS.out]
                  simp [nums, allBits, hz, bitsOf]
                have HBL : Hid ((allBits (nums (T.take j))).length = 6 * j) := by
                  show _ = _
                  rw [len_all]
                  simp [nums]
                  have := HMT.out
                  omega
                clear hn hrg hz
                go_wp2_with fail
                refine (B64R.number_any c _).mono ?_
                rintro e w4 ⟨rfl, hb4⟩
                rw [HNZ.out]
                have hrow4 := hrow.below hb4
                have hbel4 : Below gb w1 w4 := hbel.trans (hb4.mono (by have := hbel.size; omega))
                clear hrow hbel hcell
                obtain ⟨B0, hB0⟩ : ∃ B0, B0 = allBits (nums (T.take j)) := ⟨_, rfl⟩
                rw [← hB0] at hrow4 HBI HBL
                go_wp2
                go_loopw [11, 12, 96] (fun _ _ vi wr => ∃ i : Nat, i ≤ 6 ∧ vi = .int .i64 i ∧ Row0 wr gb 5 (pack (B0 ++ (bitsOf z).take i) q) ∧ Below gb w1 wr) (fun _ _ vi _ => 6 - (intOf vi).toNat)
                case atStart => exact ⟨0, by omega, rfl, by simpa using hrow4, hbel4⟩
                case round =>
                  clear hrow4 hbel4 hb4
                  obtain ⟨i, hi6, rfl, hrow, hbel⟩ := hrel
                  by_cases hlt2 : i < 6
                  · obtain ⟨P, hPP⟩ : ∃ P, P = 6 * j + i := ⟨_, rfl⟩
                    obtain ⟨B, hB⟩ : ∃ B, B = B0 ++ (bitsOf z).take i := ⟨_, rfl⟩
                    have hBP : B.length = P := by
                      rw [hB, List.length_append, HBL.out, List.length_take, len_bits]
                      omega
                    obtain ⟨b, hb⟩ : ∃ b, b = (z / 2 ^ (5 - i) % 2 == 1) := ⟨_, rfl⟩
                    have HSn : Hid (B0 ++ (bitsOf z).take (i + 1) = B ++ [b]) := by
                      show _ = _
                      rw [bits_at z i hlt2, ← List.append_assoc, ← hB, hb]
                    rw [← hB] at hrow
                    have HBP := hid hBP
                    have hP : 6 * (j : Int) + (i : Int) = (P : Int) := by omega
                    have hPm : (P : Int) ≤ 6000006 := by omega
                    have i5 : (i : Int) ≤ 5 := by omega
                    have i5' : (0 : Int) ≤ 5 - (i : Int) := by omega
                    have hsh : (z : Int) / 2 ^ ((5 : Int) - (i : Int)).toNat = ((z / 2 ^ (5 - i) : Nat) : Int) := by
                      rw [show ((5 : Int) - (i : Int)).toNat = 5 - i by omega]
                      simp
                    have hsh2 : (z : Int) / 2 ^ (5 - i) = ((z / 2 ^ (5 - i) : Nat) : Int) := by simp
                    have hx64 : z / 2 ^ (5 - i) < 64 := Nat.lt_of_le_of_lt (Nat.div_le_self _ _) hz64
                    have hand := bit_and _ hx64
                    obtain ⟨x, hxx⟩ : ∃ x, x = z / 2 ^ (5 - i) := ⟨_, rfl⟩
                    rw [← hxx] at hsh hsh2 hand hb
                    clear hxx hB hBP hPP hx64
                    cases hbv : b
                    · have HPF : Hid (pack (B ++ [b]) q = pack B q) := by rw [hbv]; exact pack_false B q
                      have hx0 : x % 2 = 0 := by
                        rw [hbv] at hb
                        have := hb.symm
                        simp at this
                        omega
                      have hand2 : bits .and .i64 (x : Int) 1 = 0 := by rw [hand, hx0]; rfl
                      clear hand hb hbv hx0
                      by_cases hin : (P : Int) < 8 * (q : Int)
                      all_goals
                        go_wp2
                        go_roundw
                        case rel => exact ⟨i + 1, by omega, by go_num, by rw [HSn.out, HPF.out]; exact hrow, hbel⟩
                        case measure => simp [intOf]; omega
                    · have hx1 : x % 2 = 1 := by
                        rw [hbv] at hb
                        have := hb.symm
                        simpa using this
                      have hand2 : bits .and .i64 (x : Int) 1 = 1 := by rw [hand, hx1]; rfl
                      by_cases hin : (P : Int) < 8 * (q : Int)
                      · obtain ⟨hh1, hh2⟩ := byteAt_here B true
                        have hlt256 := byteAt_lt B (B.length / 8)
                        have hlt256' := byteAt_lt (B ++ [true]) (B.length / 8)
                        have HPS : Hid (pack (B ++ [b]) q = (pack B q).set (P / 8) (UInt8.ofNat (byteAt B (P / 8) + 2 ^ (7 - P % 8)))) := by
                          show _ = _
                          rw [hbv, pack_snoc, HBP.out]
                          rfl
                        rw [hh1] at hlt256'
                        rw [HBP.out] at hh2 hlt256 hlt256'
                        have hr8 : P % 8 < 8 := Nat.mod_lt _ (by decide)
                        have hor := bit_or (byteAt B (P / 8)) (P % 8) hlt256 hr8 hh2
                        have hval : ((UInt8.ofNat (byteAt B (P / 8) + 2 ^ (7 - P % 8))).toNat : Int) = ((byteAt B (P / 8) + 2 ^ (7 - P % 8) : Nat) : Int) := by
                          rw [show b2 true (2 ^ (7 - P % 8)) = 2 ^ (7 - P % 8) from rfl] at hlt256'
                          exact ofNat_small _ hlt256'
                        have hp8 : P / 8 < q := by omega
                        have hcl : wr.cell? ⟨gb, P / 8, none⟩ = some (.int .u8 ((byteAt B (P / 8) : Nat) : Int)) := by
                          rw [hrow.cell (P / 8) (by rw [pack_len]; exact hp8)]
                          simp only [pack, List.getElem_map, List.getElem_range]
                          rw [ofNat_small _ hlt256]
                        have hfz : wr.frozen? ⟨gb, P / 8, none⟩ = false := hrow.frozen (P / 8)
                        have hpow : (2 : Int) ^ ((7 : Int) - ((P % 8 : Nat) : Int)).toNat = ((2 ^ (7 - P % 8) : Nat) : Int) := by
                          rw [show ((7 : Int) - ((P % 8 : Nat) : Int)).toNat = 7 - P % 8 by omega]
                          simp
                        have hpow2 : (2 : Int) ^ (7 - P % 8) = ((2 ^ (7 - P % 8) : Nat) : Int) := by simp
                        have hy : 2 ^ (7 - P % 8) < 256 := by
                          have : 2 ^ (7 - P % 8) ≤ 2 ^ 7 := Nat.pow_le_pow_right (by decide) (by omega)
                          omega
                        have e8 : (P : Int).tdiv 8 = ((P / 8 : Nat) : Int) := by rw [Int.tdiv_eq_ediv_of_nonneg (by omega)]; omega
                        have e8' : (P : Int) / 8 = ((P / 8 : Nat) : Int) := by omega
                        have f8 : (P : Int).tmod 8 = ((P % 8 : Nat) : Int) := by rw [Int.tmod_eq_emod_of_nonneg (by omega)]; omega
                        have f8' : (P : Int) % 8 = ((P % 8 : Nat) : Int) := by omega
                        obtain ⟨p8, hp8e⟩ : ∃ p8, p8 = P / 8 := ⟨_, rfl⟩
                        obtain ⟨r8, hr8e⟩ : ∃ r8, r8 = P % 8 := ⟨_, rfl⟩
                        rw [← hp8e, ← hr8e] at hor hval HPS
                        rw [← hr8e] at hr8 hpow hpow2 hy f8 f8'
                        rw [← hp8e] at hp8 hcl hfz e8 e8'
                        obtain ⟨v, hv⟩ : ∃ v, v = byteAt B p8 := ⟨_, rfl⟩
                        obtain ⟨y, hyy⟩ : ∃ y, y = 2 ^ (7 - r8) := ⟨_, rfl⟩
                        rw [← hv, ← hyy] at hor hval HPS
                        rw [← hv] at hcl
                        rw [← hyy] at hpow hpow2 hy
                        have hwp := wrap_pow y hy
                        have HV := hid hval
                        have hr7 : (r8 : Int) ≤ 7 := by omega
                        have hr7' : (0 : Int) ≤ 7 - (r8 : Int) := by omega
                        have hp8' : (p8 : Int) < (q : Int) := by omega
                        clear hand hb hbv hx1 hh1 hh2 hlt256 hlt256' hval hp8e hr8e hv hyy
                        go_wp2
                        go_roundw
                        case rel => exact ⟨i + 1, by omega, by go_num, by
                            have h2 := hrow.set p8 (UInt8.ofNat (v + y))
                            rw [HV.out, Int.natCast_add] at h2
                            rw [HSn.out, HPS.out]
                            exact h2, hbel.setCell (p := ⟨gb, p8, none⟩) (Nat.le_refl _) _⟩
                        case measure => simp [intOf]; omega
                      · have HPO : Hid (pack (B ++ [b]) q = pack B q) := pack_over B b q (by rw [HBP.out]; omega)
                        clear hand hb hbv hx1
                        go_wp2
                        go_roundw
                        case rel => exact ⟨i + 1, by omega, by go_num, by rw [HSn.out, HPO.out]; exact hrow, hbel⟩
                        case measure => simp [intOf]; omega
                  · obtain rfl : i = 6 := by omega
                    go_wp2
                    go_roundw
                    case rel => exact ⟨j + 1, by omega, by go_num, by rw [HBI.out]; exact hrow, HZ2, hbel⟩
                    case measure => simp [intOf]; omega
            · obtain rfl : j = m := by omega
              have HE2 : Hid (T.take j = T) := by rw [HMT.out]; exact List.take_length
              rw [HE2.out] at hrow HZ
              have HNo : Hid (dOk s.data.toList = true) := by
                show dOk _ = true
                unfold dOk
                rw [← HT.out, decide_eq_true_iff]
                exact ⟨by rw [← HMT.out]; exact h41, HZ.out⟩
              have HB : Hid (pack (allBits (nums T)) q = dB s.data.toList) := by
                show _ = dB _
                unfold dB
                rw [HNo.out, if_pos rfl, ← HT.out, HQ.out, HMT.out, pack_runs T HZ.out]
              have HBL2 : Hid ((dB s.data.toList).length = q) := by rw [← HB.out]; exact pack_len _ _
              have hrr := hrow.rds
              rw [HB.out, HBL2.out] at hrr
              go_wp2
              go_ret2
              exact ⟨some ⟨gb, 0, none⟩, q, ret2 (by rw [HBL2.out]; rfl) (bool_eq HNo.out.symm), by rw [HBL2.out]; exact Nat.le_refl _, by unfold maxLen; omega, by rw [HBL2.out]; exact hrr, hbelr.trans (hbel.mono (by rw [← hgb]; exact hbelr.size))⟩
        · have g1 : (0 : Int) < (n : Int) := by omega
          have g2 : (n : Int) % 4 = 0 := by omega
          have g5 : ((n : Int) - 2) = ((n - 2 : Nat) : Int) := by omega
          have g6 : n - 2 < m := by omega
          have g7 : ((n - 2 : Nat) : Int) < (m : Int) := by omega
          have g8 : m ≤ n := by omega
          rw [show n - 1 = m by omega] at hk1
          have g9 : m < n := by omega
          go_wp2_with (at_make; refine wpList_make_full _ rfl _ _ 22 rfl w1.heap.size 5 i0 (.int .u8 0) 1 Try.underlying22 hi hz0 hz1 .i64 .i64 _ _ q rfl rfl rfl rfl (by rw [hz2]; omega) (by unfold maxLen; omega) (Nat.le_refl _) ?_)
          intro w3 hown3 hg3
          have hbel3 : Below w1.heap.size w1 w3 := (Below.refl _ _).grown hg3 (Nat.le_refl _) (by intro k h; cases h)
          clear hg3
          have hrow3 : Row0 w3 w1.heap.size 5 (pack [] q) := by rw [pack_nil]; exact row0_made hown3 (made_zero q)
          clear hown3 hq hq2
          generalize hgb : w1.heap.size = gb at *
          go_wp2
          go_loopw [9, 10, 11, 12, 86] (fun _ _ _ _ vk wr => ∃ j : Nat, j ≤ m ∧ vk = .int .i64 j ∧ Row0 wr gb 5 (pack (allBits (nums (T.take j))) q) ∧ Hid (∀ c ∈ T.take j, 0 ≤ num c) ∧ Below gb w1 wr) (fun _ _ _ _ vk _ => m - (intOf vk).toNat)
          case atStart => exact ⟨0, Nat.zero_le _, rfl, hrow3, (fun c hc => by simp at hc), hbel3⟩
          case round =>
            clear hrow3 hbel3
            obtain ⟨j, hj, rfl, hrow, HZ, hbel⟩ := hrel
            by_cases hlt : j < m
            · obtain ⟨gg, oo, hA2, hgg, _⟩ := HRT.out.spot (by omega)
              have HRT2 := HRT.out
              rw [hA2] at HRT2
              obtain ⟨c, hx⟩ : ∃ c, c = T[j]'(by rw [← HMT.out]; exact hlt) := ⟨_, rfl⟩
              have hcell : wr.cell? ⟨gg, oo + j, none⟩ = some (.int .u8 (c.toNat : Int)) := by
                rw [hx, ← HRT2.byte j (by rw [← HMT.out]; exact hlt)]
                exact hbel.cell (p := ⟨gg, oo + j, none⟩) (by show gg < gb; omega)
              clear HRT2
              cases hA2
              have HS : Hid (T.take (j + 1) = T.take j ++ [c]) := by
                rw [hx]
                exact List.take_succ_eq_append_getElem (by rw [← HMT.out]; exact hlt)
              have HIN : Hid (c ∈ T) := by rw [hx]; exact List.getElem_mem _
              clear hx
              have hrg := num_range c
              by_cases hn : num c < 0
              · have hn' : num c = -1 := by omega
                have HNN := hid hn'
                have HNo : Hid (dOk s.data.toList = false) := by
                  show dOk _ = false
                  unfold dOk
                  rw [decide_eq_false_iff_not]
                  rintro ⟨_, h⟩
                  have := h c (by rw [← HT.out]; exact HIN.out)
                  omega
                have HB : Hid (dB s.data.toList = []) := by
                  show dB _ = []
                  unfold dB
                  rw [HNo.out]
                  rfl
                clear hn hn' hrg
                go_wp2_with fail
                refine (B64R.number_any c _).mono ?_
                rintro e w4 ⟨rfl, hb4⟩
                rw [HNN.out]
                go_wp2
                go_ret2
                exact ⟨none, 0, ret2 (by rw [HB.out]; rfl) (bool_eq HNo.out.symm), by rw [HB.out]; exact Nat.le_refl _, by decide, by rw [HB.out]; exact Rds.nil _, (hbelr.trans (hbel.mono (by rw [← hgb]; exact hbelr.size))).trans (hb4.mono (by have := hbelr.size; have := hbel.size; omega))⟩
              · obtain ⟨z, hz⟩ : ∃ z : Nat, num c = (z : Int) := ⟨(num c).toNat, by omega⟩
                have hz64 : z < 64 := by omega
                have HNZ := hid hz
                have HZ2 : Hid (∀ x ∈ T.take (j + 1), 0 ≤ num x) := by
                  intro x hx
                  rw [HS.out, List.mem_append] at hx
                  rcases hx with hx | hx
                  · exact HZ.out x hx
                  · simp at hx
                    subst hx
                    omega
                have HBI : Hid (allBits (nums (T.take (j + 1))) = allBits (nums (T.take j)) ++ (bitsOf z).take 6) := by
                  show _ = _
                  rw [HS.out]
                  simp [nums, allBits, hz, bitsOf]
                have HBL : Hid ((allBits (nums (T.take j))).length = 6 * j) := by
                  show _ = _
                  rw [len_all]
                  simp [nums]
                  have := HMT.out
                  omega
                clear hn hrg hz
                go_wp2_with fail
                refine (B64R.number_any c _).mono ?_
                rintro e w4 ⟨rfl, hb4⟩
                rw [HNZ.out]
                have hrow4 := hrow.below hb4
                have hbel4 : Below gb w1 w4 := hbel.trans (hb4.mono (by have := hbel.size; omega))
                clear hrow hbel hcell
                obtain ⟨B0, hB0⟩ : ∃ B0, B0 = allBits (nums (T.take j)) := ⟨_, rfl⟩
                rw [← hB0] at hrow4 HBI HBL
                go_wp2
                go_loopw [11, 12, 96] (fun _ _ vi wr => ∃ i : Nat, i ≤ 6 ∧ vi = .int .i64 i ∧ Row0 wr gb 5 (pack (B0 ++ (bitsOf z).take i) q) ∧ Below gb w1 wr) (fun _ _ vi _ => 6 - (intOf vi).toNat)
                case atStart => exact ⟨0, by omega, rfl, by simpa using hrow4, hbel4⟩
                case round =>
                  clear hrow4 hbel4 hb4
                  obtain ⟨i, hi6, rfl, hrow, hbel⟩ := hrel
                  by_cases hlt2 : i < 6
                  · obtain ⟨P, hPP⟩ : ∃ P, P = 6 * j + i := ⟨_, rfl⟩
                    obtain ⟨B, hB⟩ : ∃ B, B = B0 ++ (bitsOf z).take i := ⟨_, rfl⟩
                    have hBP : B.length = P := by
                      rw [hB, List.length_append, HBL.out, List.length_take, len_bits]
                      omega
                    obtain ⟨b, hb⟩ : ∃ b, b = (z / 2 ^ (5 - i) % 2 == 1) := ⟨_, rfl⟩
                    have HSn : Hid (B0 ++ (bitsOf z).take (i + 1) = B ++ [b]) := by
                      show _ = _
                      rw [bits_at z i hlt2, ← List.append_assoc, ← hB, hb]
                    rw [← hB] at hrow
                    have HBP := hid hBP
                    have hP : 6 * (j : Int) + (i : Int) = (P : Int) := by omega
                    have hPm : (P : Int) ≤ 6000006 := by omega
                    have i5 : (i : Int) ≤ 5 := by omega
                    have i5' : (0 : Int) ≤ 5 - (i : Int) := by omega
                    have hsh : (z : Int) / 2 ^ ((5 : Int) - (i : Int)).toNat = ((z / 2 ^ (5 - i) : Nat) : Int) := by
                      rw [show ((5 : Int) - (i : Int)).toNat = 5 - i by omega]
                      simp
                    have hsh2 : (z : Int) / 2 ^ (5 - i) = ((z / 2 ^ (5 - i) : Nat) : Int) := by simp
                    have hx64 : z / 2 ^ (5 - i) < 64 := Nat.lt_of_le_of_lt (Nat.div_le_self _ _) hz64
                    have hand := bit_and _ hx64
                    obtain ⟨x, hxx⟩ : ∃ x, x = z / 2 ^ (5 - i) := ⟨_, rfl⟩
                    rw [← hxx] at hsh hsh2 hand hb
                    clear hxx hB hBP hPP hx64
                    cases hbv : b
                    · have HPF : Hid (pack (B ++ [b]) q = pack B q) := by rw [hbv]; exact pack_false B q
                      have hx0 : x % 2 = 0 := by
                        rw [hbv] at hb
                        have := hb.symm
                        simp at this
                        omega
                      have hand2 : bits .and .i64 (x : Int) 1 = 0 := by rw [hand, hx0]; rfl
                      clear hand hb hbv hx0
                      by_cases hin : (P : Int) < 8 * (q : Int)
                      all_goals
                        go_wp2
                        go_roundw
                        case rel => exact ⟨i + 1, by omega, by go_num, by rw [HSn.out, HPF.out]; exact hrow, hbel⟩
                        case measure => simp [intOf]; omega
                    · have hx1 : x % 2 = 1 := by
                        rw [hbv] at hb
                        have := hb.symm
                        simpa using this
                      have hand2 : bits .and .i64 (x : Int) 1 = 1 := by rw [hand, hx1]; rfl
                      by_cases hin : (P : Int) < 8 * (q : Int)
                      · obtain ⟨hh1, hh2⟩ := byteAt_here B true
                        have hlt256 := byteAt_lt B (B.length / 8)
                        have hlt256' := byteAt_lt (B ++ [true]) (B.length / 8)
                        have HPS : Hid (pack (B ++ [b]) q = (pack B q).set (P / 8) (UInt8.ofNat (byteAt B (P / 8) + 2 ^ (7 - P % 8)))) := by
                          show _ = _
                          rw [hbv, pack_snoc, HBP.out]
                          rfl
                        rw [hh1] at hlt256'
                        rw [HBP.out] at hh2 hlt256 hlt256'
                        have hr8 : P % 8 < 8 := Nat.mod_lt _ (by decide)
                        have hor := bit_or (byteAt B (P / 8)) (P % 8) hlt256 hr8 hh2
                        have hval : ((UInt8.ofNat (byteAt B (P / 8) + 2 ^ (7 - P % 8))).toNat : Int) = ((byteAt B (P / 8) + 2 ^ (7 - P % 8) : Nat) : Int) := by
                          rw [show b2 true (2 ^ (7 - P % 8)) = 2 ^ (7 - P % 8) from rfl] at hlt256'
                          exact ofNat_small _ hlt256'
                        have hp8 : P / 8 < q := by omega
                        have hcl : wr.cell? ⟨gb, P / 8, none⟩ = some (.int .u8 ((byteAt B (P / 8) : Nat) : Int)) := by
                          rw [hrow.cell (P / 8) (by rw [pack_len]; exact hp8)]
                          simp only [pack, List.getElem_map, List.getElem_range]
                          rw [ofNat_small _ hlt256]
                        have hfz : wr.frozen? ⟨gb, P / 8, none⟩ = false := hrow.frozen (P / 8)
                        have hpow : (2 : Int) ^ ((7 : Int) - ((P % 8 : Nat) : Int)).toNat = ((2 ^ (7 - P % 8) : Nat) : Int) := by
                          rw [show ((7 : Int) - ((P % 8 : Nat) : Int)).toNat = 7 - P % 8 by omega]
                          simp
                        have hpow2 : (2 : Int) ^ (7 - P % 8) = ((2 ^ (7 - P % 8) : Nat) : Int) := by simp
                        have hy : 2 ^ (7 - P % 8) < 256 := by
                          have : 2 ^ (7 - P % 8) ≤ 2 ^ 7 := Nat.pow_le_pow_right (by decide) (by omega)
                          omega
                        have e8 : (P : Int).tdiv 8 = ((P / 8 : Nat) : Int) := by rw [Int.tdiv_eq_ediv_of_nonneg (by omega)]; omega
                        have e8' : (P : Int) / 8 = ((P / 8 : Nat) : Int) := by omega
                        have f8 : (P : Int).tmod 8 = ((P % 8 : Nat) : Int) := by rw [Int.tmod_eq_emod_of_nonneg (by omega)]; omega
                        have f8' : (P : Int) % 8 = ((P % 8 : Nat) : Int) := by omega
                        obtain ⟨p8, hp8e⟩ : ∃ p8, p8 = P / 8 := ⟨_, rfl⟩
                        obtain ⟨r8, hr8e⟩ : ∃ r8, r8 = P % 8 := ⟨_, rfl⟩
                        rw [← hp8e, ← hr8e] at hor hval HPS
                        rw [← hr8e] at hr8 hpow hpow2 hy f8 f8'
                        rw [← hp8e] at hp8 hcl hfz e8 e8'
                        obtain ⟨v, hv⟩ : ∃ v, v = byteAt B p8 := ⟨_, rfl⟩
                        obtain ⟨y, hyy⟩ : ∃ y, y = 2 ^ (7 - r8) := ⟨_, rfl⟩
                        rw [← hv, ← hyy] at hor hval HPS
                        rw [← hv] at hcl
                        rw [← hyy] at hpow hpow2 hy
                        have hwp := wrap_pow y hy
                        have HV := hid hval
                        have hr7 : (r8 : Int) ≤ 7 := by omega
                        have hr7' : (0 : Int) ≤ 7 - (r8 : Int) := by omega
                        have hp8' : (p8 : Int) < (q : Int) := by omega
                        clear hand hb hbv hx1 hh1 hh2 hlt256 hlt256' hval hp8e hr8e hv hyy
                        go_wp2
                        go_roundw
                        case rel => exact ⟨i + 1, by omega, by go_num, by
                            have h2 := hrow.set p8 (UInt8.ofNat (v + y))
                            rw [HV.out, Int.natCast_add] at h2
                            rw [HSn.out, HPS.out]
                            exact h2, hbel.setCell (p := ⟨gb, p8, none⟩) (Nat.le_refl _) _⟩
                        case measure => simp [intOf]; omega
                      · have HPO : Hid (pack (B ++ [b]) q = pack B q) := pack_over B b q (by rw [HBP.out]; omega)
                        clear hand hb hbv hx1
                        go_wp2
                        go_roundw
                        case rel => exact ⟨i + 1, by omega, by go_num, by rw [HSn.out, HPO.out]; exact hrow, hbel⟩
                        case measure => simp [intOf]; omega
                  · obtain rfl : i = 6 := by omega
                    go_wp2
                    go_roundw
                    case rel => exact ⟨j + 1, by omega, by go_num, by rw [HBI.out]; exact hrow, HZ2, hbel⟩
                    case measure => simp [intOf]; omega
            · obtain rfl : j = m := by omega
              have HE2 : Hid (T.take j = T) := by rw [HMT.out]; exact List.take_length
              rw [HE2.out] at hrow HZ
              have HNo : Hid (dOk s.data.toList = true) := by
                show dOk _ = true
                unfold dOk
                rw [← HT.out, decide_eq_true_iff]
                exact ⟨by rw [← HMT.out]; exact h41, HZ.out⟩
              have HB : Hid (pack (allBits (nums T)) q = dB s.data.toList) := by
                show _ = dB _
                unfold dB
                rw [HNo.out, if_pos rfl, ← HT.out, HQ.out, HMT.out, pack_runs T HZ.out]
              have HBL2 : Hid ((dB s.data.toList).length = q) := by rw [← HB.out]; exact pack_len _ _
              have hrr := hrow.rds
              rw [HB.out, HBL2.out] at hrr
              go_wp2
              go_ret2
              exact ⟨some ⟨gb, 0, none⟩, q, ret2 (by rw [HBL2.out]; rfl) (bool_eq HNo.out.symm), by rw [HBL2.out]; exact Nat.le_refl _, by unfold maxLen; omega, by rw [HBL2.out]; exact hrr, hbelr.trans (hbel.mono (by rw [← hgb]; exact hbelr.size))⟩
        · have g1 : (0 : Int) < (n : Int) := by omega
          have g2 : (n : Int) % 4 = 0 := by omega
          have g4 : ((n : Int) - 1) = ((n - 1 : Nat) : Int) := by omega
          rw [show n - 2 = m by omega] at hk2
          have g5 : m < n - 1 := by omega
          have g6 : (m : Int) < ((n - 1 : Nat) : Int) := by omega
          have g7 : n - 1 < n := by omega
          go_wp2_with (at_make; refine wpList_make_full _ rfl _ _ 22 rfl w1.heap.size 5 i0 (.int .u8 0) 1 Try.underlying22 hi hz0 hz1 .i64 .i64 _ _ q rfl rfl rfl rfl (by rw [hz2]; omega) (by unfold maxLen; omega) (Nat.le_refl _) ?_)
          intro w3 hown3 hg3
          have hbel3 : Below w1.heap.size w1 w3 := (Below.refl _ _).grown hg3 (Nat.le_refl _) (by intro k h; cases h)
          clear hg3
          have hrow3 : Row0 w3 w1.heap.size 5 (pack [] q) := by rw [pack_nil]; exact row0_made hown3 (made_zero q)
          clear hown3 hq hq2
          generalize hgb : w1.heap.size = gb at *
          go_wp2
          go_loopw [9, 10, 11, 12, 86] (fun _ _ _ _ vk wr => ∃ j : Nat, j ≤ m ∧ vk = .int .i64 j ∧ Row0 wr gb 5 (pack (allBits (nums (T.take j))) q) ∧ Hid (∀ c ∈ T.take j, 0 ≤ num c) ∧ Below gb w1 wr) (fun _ _ _ _ vk _ => m - (intOf vk).toNat)
          case atStart => exact ⟨0, Nat.zero_le _, rfl, hrow3, (fun c hc => by simp at hc), hbel3⟩
          case round =>
            clear hrow3 hbel3
            obtain ⟨j, hj, rfl, hrow, HZ, hbel⟩ := hrel
            by_cases hlt : j < m
            · obtain ⟨gg, oo, hA2, hgg, _⟩ := HRT.out.spot (by omega)
              have HRT2 := HRT.out
              rw [hA2] at HRT2
              obtain ⟨c, hx⟩ : ∃ c, c = T[j]'(by rw [← HMT.out]; exact hlt) := ⟨_, rfl⟩
              have hcell : wr.cell? ⟨gg, oo + j, none⟩ = some (.int .u8 (c.toNat : Int)) := by
                rw [hx, ← HRT2.byte j (by rw [← HMT.out]; exact hlt)]
                exact hbel.cell (p := ⟨gg, oo + j, none⟩) (by show gg < gb; omega)
              clear HRT2
              cases hA2
              have HS : Hid (T.take (j + 1) = T.take j ++ [c]) := by
                rw [hx]
                exact List.take_succ_eq_append_getElem (by rw [← HMT.out]; exact hlt)
              have HIN : Hid (c ∈ T) := by rw [hx]; exact List.getElem_mem _
              clear hx
              have hrg := num_range c
              by_cases hn : num c < 0
              · have hn' : num c = -1 := by omega
                have HNN := hid hn'
                have HNo : Hid (dOk s.data.toList = false) := by
                  show dOk _ = false
                  unfold dOk
                  rw [decide_eq_false_iff_not]
                  rintro ⟨_, h⟩
                  have := h c (by rw [← HT.out]; exact HIN.out)
                  omega
                have HB : Hid (dB s.data.toList = []) := by
                  show dB _ = []
                  unfold dB
                  rw [HNo.out]
                  rfl
                clear hn hn' hrg
                go_wp2_with fail
                refine (B64R.number_any c _).mono ?_
                rintro e w4 ⟨rfl, hb4⟩
                rw [HNN.out]
                go_wp2
                go_ret2
                exact ⟨none, 0, ret2 (by rw [HB.out]; rfl) (bool_eq HNo.out.symm), by rw [HB.out]; exact Nat.le_refl _, by decide, by rw [HB.out]; exact Rds.nil _, (hbelr.trans (hbel.mono (by rw [← hgb]; exact hbelr.size))).trans (hb4.mono (by have := hbelr.size; have := hbel.size; omega))⟩
              · obtain ⟨z, hz⟩ : ∃ z : Nat, num c = (z : Int) := ⟨(num c).toNat, by omega⟩
                have hz64 : z < 64 := by omega
                have HNZ := hid hz
                have HZ2 : Hid (∀ x ∈ T.take (j + 1), 0 ≤ num x) := by
                  intro x hx
                  rw [HS.out, List.mem_append] at hx
                  rcases hx with hx | hx
                  · exact HZ.out x hx
                  · simp at hx
                    subst hx
                    omega
                have HBI : Hid (allBits (nums (T.take (j + 1))) = allBits (nums (T.take j)) ++ (bitsOf z).take 6) := by
                  show _ = _
                  rw [HS.out]
                  simp [nums, allBits, hz, bitsOf]
                have HBL : Hid ((allBits (nums (T.take j))).length = 6 * j) := by
                  show _ = _
                  rw [len_all]
                  simp [nums]
                  have := HMT.out
                  omega
                clear hn hrg hz
                go_wp2_with fail
                refine (B64R.number_any c _).mono ?_
                rintro e w4 ⟨rfl, hb4⟩
                rw [HNZ.out]
                have hrow4 := hrow.below hb4
                have hbel4 : Below gb w1 w4 := hbel.trans (hb4.mono (by have := hbel.size; omega))
                clear hrow hbel hcell
                obtain ⟨B0, hB0⟩ : ∃ B0, B0 = allBits (nums (T.take j)) := ⟨_, rfl⟩
                rw [← hB0] at hrow4 HBI HBL
                go_wp2
                go_loopw [11, 12, 96] (fun _ _ vi wr => ∃ i : Nat, i ≤ 6 ∧ vi = .int .i64 i ∧ Row0 wr gb 5 (pack (B0 ++ (bitsOf z).take i) q) ∧ Below gb w1 wr) (fun _ _ vi _ => 6 - (intOf vi).toNat)
                case atStart => exact ⟨0, by omega, rfl, by simpa using hrow4, hbel4⟩
                case round =>
                  clear hrow4 hbel4 hb4
                  obtain ⟨i, hi6, rfl, hrow, hbel⟩ := hrel
                  by_cases hlt2 : i < 6
                  · obtain ⟨P, hPP⟩ : ∃ P, P = 6 * j + i := ⟨_, rfl⟩
                    obtain ⟨B, hB⟩ : ∃ B, B = B0 ++ (bitsOf z).take i := ⟨_, rfl⟩
                    have hBP : B.length = P := by
                      rw [hB, List.length_append, HBL.out, List.length_take, len_bits]
                      omega
                    obtain ⟨b, hb⟩ : ∃ b, b = (z / 2 ^ (5 - i) % 2 == 1) := ⟨_, rfl⟩
                    have HSn : Hid (B0 ++ (bitsOf z).take (i + 1) = B ++ [b]) := by
                      show _ = _
                      rw [bits_at z i hlt2, ← List.append_assoc, ← hB, hb]
                    rw [← hB] at hrow
                    have HBP := hid hBP
                    have hP : 6 * (j : Int) + (i : Int) = (P : Int) := by omega
                    have hPm : (P : Int) ≤ 6000006 := by omega
                    have i5 : (i : Int) ≤ 5 := by omega
                    have i5' : (0 : Int) ≤ 5 - (i : Int) := by omega
                    have hsh : (z : Int) / 2 ^ ((5 : Int) - (i : Int)).toNat = ((z / 2 ^ (5 - i) : Nat) : Int) := by
                      rw [show ((5 : Int) - (i : Int)).toNat = 5 - i by omega]
                      simp
                    have hsh2 : (z : Int) / 2 ^ (5 - i) = ((z / 2 ^ (5 - i) : Nat) : Int) := by simp
                    have hx64 : z / 2 ^ (5 - i) < 64 := Nat.lt_of_le_of_lt (Nat.div_le_self _ _) hz64
                    have hand := bit_and _ hx64
                    obtain ⟨x, hxx⟩ : ∃ x, x = z / 2 ^ (5 - i) := ⟨_, rfl⟩
                    rw [← hxx] at hsh hsh2 hand hb
                    clear hxx hB hBP hPP hx64
                    cases hbv : b
                    · have HPF : Hid (pack (B ++ [b]) q = pack B q) := by rw [hbv]; exact pack_false B q
                      have hx0 : x % 2 = 0 := by
                        rw [hbv] at hb
                        have := hb.symm
                        simp at this
                        omega
                      have hand2 : bits .and .i64 (x : Int) 1 = 0 := by rw [hand, hx0]; rfl
                      clear hand hb hbv hx0
                      by_cases hin : (P : Int) < 8 * (q : Int)
                      all_goals
                        go_wp2
                        go_roundw
                        case rel => exact ⟨i + 1, by omega, by go_num, by rw [HSn.out, HPF.out]; exact hrow, hbel⟩
                        case measure => simp [intOf]; omega
                    · have hx1 : x % 2 = 1 := by
                        rw [hbv] at hb
                        have := hb.symm
                        simpa using this
                      have hand2 : bits .and .i64 (x : Int) 1 = 1 := by rw [hand, hx1]; rfl
                      by_cases hin : (P : Int) < 8 * (q : Int)
                      · obtain ⟨hh1, hh2⟩ := byteAt_here B true
                        have hlt256 := byteAt_lt B (B.length / 8)
                        have hlt256' := byteAt_lt (B ++ [true]) (B.length / 8)
                        have HPS : Hid (pack (B ++ [b]) q = (pack B q).set (P / 8) (UInt8.ofNat (byteAt B (P / 8) + 2 ^ (7 - P % 8)))) := by
                          show _ = _
                          rw [hbv, pack_snoc, HBP.out]
                          rfl
                        rw [hh1] at hlt256'
                        rw [HBP.out] at hh2 hlt256 hlt256'
                        have hr8 : P % 8 < 8 := Nat.mod_lt _ (by decide)
                        have hor := bit_or (byteAt B (P / 8)) (P % 8) hlt256 hr8 hh2
                        have hval : ((UInt8.ofNat (byteAt B (P / 8) + 2 ^ (7 - P % 8))).toNat : Int) = ((byteAt B (P / 8) + 2 ^ (7 - P % 8) : Nat) : Int) := by
                          rw [show b2 true (2 ^ (7 - P % 8)) = 2 ^ (7 - P % 8) from rfl] at hlt256'
                          exact ofNat_small _ hlt256'
                        have hp8 : P / 8 < q := by omega
                        have hcl : wr.cell? ⟨gb, P / 8, none⟩ = some (.int .u8 ((byteAt B (P / 8) : Nat) : Int)) := by
                          rw [hrow.cell (P / 8) (by rw [pack_len]; exact hp8)]
                          simp only [pack, List.getElem_map, List.getElem_range]
                          rw [ofNat_small _ hlt256]
                        have hfz : wr.frozen? ⟨gb, P / 8, none⟩ = false := hrow.frozen (P / 8)
                        have hpow : (2 : Int) ^ ((7 : Int) - ((P % 8 : Nat) : Int)).toNat = ((2 ^ (7 - P % 8) : Nat) : Int) := by
                          rw [show ((7 : Int) - ((P % 8 : Nat) : Int)).toNat = 7 - P % 8 by omega]
                          simp
                        have hpow2 : (2 : Int) ^ (7 - P % 8) = ((2 ^ (7 - P % 8) : Nat) : Int) := by simp
                        have hy : 2 ^ (7 - P % 8) < 256 := by
                          have : 2 ^ (7 - P % 8) ≤ 2 ^ 7 := Nat.pow_le_pow_right (by decide) (by omega)
                          omega
                        have e8 : (P : Int).tdiv 8 = ((P / 8 : Nat) : Int) := by rw [Int.tdiv_eq_ediv_of_nonneg (by omega)]; omega
                        have e8' : (P : Int) / 8 = ((P / 8 : Nat) : Int) := by omega
                        have f8 : (P : Int).tmod 8 = ((P % 8 : Nat) : Int) := by rw [Int.tmod_eq_emod_of_nonneg (by omega)]; omega
                        have f8' : (P : Int) % 8 = ((P % 8 : Nat) : Int) := by omega
                        obtain ⟨p8, hp8e⟩ : ∃ p8, p8 = P / 8 := ⟨_, rfl⟩
                        obtain ⟨r8, hr8e⟩ : ∃ r8, r8 = P % 8 := ⟨_, rfl⟩
                        rw [← hp8e, ← hr8e] at hor hval HPS
                        rw [← hr8e] at hr8 hpow hpow2 hy f8 f8'
                        rw [← hp8e] at hp8 hcl hfz e8 e8'
                        obtain ⟨v, hv⟩ : ∃ v, v = byteAt B p8 := ⟨_, rfl⟩
                        obtain ⟨y, hyy⟩ : ∃ y, y = 2 ^ (7 - r8) := ⟨_, rfl⟩
                        rw [← hv, ← hyy] at hor hval HPS
                        rw [← hv] at hcl
                        rw [← hyy] at hpow hpow2 hy
                        have hwp := wrap_pow y hy
                        have HV := hid hval
                        have hr7 : (r8 : Int) ≤ 7 := by omega
                        have hr7' : (0 : Int) ≤ 7 - (r8 : Int) := by omega
                        have hp8' : (p8 : Int) < (q : Int) := by omega
                        clear hand hb hbv hx1 hh1 hh2 hlt256 hlt256' hval hp8e hr8e hv hyy
                        go_wp2
                        go_roundw
                        case rel => exact ⟨i + 1, by omega, by go_num, by
                            have h2 := hrow.set p8 (UInt8.ofNat (v + y))
                            rw [HV.out, Int.natCast_add] at h2
                            rw [HSn.out, HPS.out]
                            exact h2, hbel.setCell (p := ⟨gb, p8, none⟩) (Nat.le_refl _) _⟩
                        case measure => simp [intOf]; omega
                      · have HPO : Hid (pack (B ++ [b]) q = pack B q) := pack_over B b q (by rw [HBP.out]; omega)
                        clear hand hb hbv hx1
                        go_wp2
                        go_roundw
                        case rel => exact ⟨i + 1, by omega, by go_num, by rw [HSn.out, HPO.out]; exact hrow, hbel⟩
                        case measure => simp [intOf]; omega
                  · obtain rfl : i = 6 := by omega
                    go_wp2
                    go_roundw
                    case rel => exact ⟨j + 1, by omega, by go_num, by rw [HBI.out]; exact hrow, HZ2, hbel⟩
                    case measure => simp [intOf]; omega
            · obtain rfl : j = m := by omega
              have HE2 : Hid (T.take j = T) := by rw [HMT.out]; exact List.take_length
              rw [HE2.out] at hrow HZ
              have HNo : Hid (dOk s.data.toList = true) := by
                show dOk _ = true
                unfold dOk
                rw [← HT.out, decide_eq_true_iff]
                exact ⟨by rw [← HMT.out]; exact h41, HZ.out⟩
              have HB : Hid (pack (allBits (nums T)) q = dB s.data.toList) := by
                show _ = dB _
                unfold dB
                rw [HNo.out, if_pos rfl, ← HT.out, HQ.out, HMT.out, pack_runs T HZ.out]
              have HBL2 : Hid ((dB s.data.toList).length = q) := by rw [← HB.out]; exact pack_len _ _
              have hrr := hrow.rds
              rw [HB.out, HBL2.out] at hrr
              go_wp2
              go_ret2
              exact ⟨some ⟨gb, 0, none⟩, q, ret2 (by rw [HBL2.out]; rfl) (bool_eq HNo.out.symm), by rw [HBL2.out]; exact Nat.le_refl _, by unfold maxLen; omega, by rw [HBL2.out]; exact hrr, hbelr.trans (hbel.mono (by rw [← hgb]; exact hbelr.size))⟩
end Go.Proofs.Ytflklgcnjliipaa.B64F
