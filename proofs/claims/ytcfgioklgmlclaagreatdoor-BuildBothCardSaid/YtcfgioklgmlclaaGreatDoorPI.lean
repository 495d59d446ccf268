/- Texts that belong together: B64F, B64G. -/
import Derived.Test.YtcfgioklgmlclaaGreatDoorPC
set_option linter.unusedSimpArgs false
set_option linter.unusedVariables false
set_option maxRecDepth 100000
set_option maxHeartbeats 64000000
namespace Go.Proofs.YtcfgioklgmlclaaGreatDoor.B64F
open Go.RowKit Base aP xK B64U Aw B64P
def mZ (w : World) (g : Nat) (t : TypeId) (L : List UInt8) : Prop :=
 ∃ C, w.heap[g]? = some (.cells C t (0, 0)) ∧ L.length ≤ C.size ∧ ∀ j (h : j < L.length), C[j]? = some (.int .u8 (L[j].toNat : Int))
theorem mZ.cell {w : World} {g : Nat} {t : TypeId} {L : List UInt8} (h : mZ w g t L) (j : Nat) (hj : j < L.length) : w.cell? ⟨g, j, none⟩ = some (.int .u8 (L[j].toNat : Int)) := by
 obtain ⟨C, hh, hC, hc⟩ := h
 unfold World.cell?
 rw [hh]
 simpa using hc j hj
theorem mZ.frozen {w : World} {g : Nat} {t : TypeId} {L : List UInt8} (h : mZ w g t L) (j : Nat) : w.frozen? ⟨g, j, none⟩ = false := by
 obtain ⟨C, hh, hC, hc⟩ := h
 unfold World.frozen?
 rw [hh]
 simp
theorem mZ.below {w w' : World} {g : Nat} {t : TypeId} {L : List UInt8} (h : mZ w g t L) (hb : Below w.heap.size w w') : mZ w' g t L := by
 obtain ⟨C, hh, hC, hc⟩ := h
 exact ⟨C, (hb.block g (Array.getElem?_eq_some_iff.1 hh).1).trans hh, hC, hc⟩
theorem mZ.set {w : World} {g : Nat} {t : TypeId} {L : List UInt8} (h : mZ w g t L) (j : Nat) (c : UInt8) : mZ (w.setCell ⟨g, j, none⟩ (.int .u8 (c.toNat : Int))) g t (L.set j c) := by
 obtain ⟨C, hh, hC, hc⟩ := h
 refine ⟨C.setIfInBounds j (.int .u8 (c.toNat : Int)), ?_, by simpa using hC, fun i hi => ?_⟩
 ·simp [World.setCell, Array.getElem?_modify, hh]
 ·have hi' : i < L.length := by simpa using hi
  by_cases e : j = i
  ·subst e
   rw [Array.getElem?_setIfInBounds_self_of_lt (by omega)]
   simp
  ·rw [Array.getElem?_setIfInBounds_ne e, hc i hi']
   simp [List.getElem_set, e]
theorem mZ.OW {w : World} {g : Nat} {t : TypeId} {L : List UInt8} (h : mZ w g t L) : dS w (some ⟨g, 0, none⟩) L.length (ak L) := by
 refine dS.oN (bF L) ?_ (fun j hj => ?_)
 ·obtain ⟨C, hh, _⟩ := h
  exact (Array.getElem?_eq_some_iff.1 hh).1
 ·rw [bF] at hj
  rw [Nat.zero_add, h.cell j hj]
  simp [ak]
theorem vF {w : World} {base : Nat} {t : TypeId} {g n : Nat} {xs : List Value} (h : w.ownsRow base t 1 (.slice (some ⟨g, 0, none⟩) n n) n xs) (hx : xs = ak (List.replicate n 0)) : mZ w g t (List.replicate n 0) := by
 obtain ⟨_, h | ⟨g', cap, cur, e, _, hh, _, _, hs, ht⟩⟩ := h
 ·cases h.1
 ·injection e with e1 e2 e3
  injection e1 with e1
  injection e1 with e1
  subst e1 e3
  refine ⟨cur, hh, by simp; omega, fun j hj => ?_⟩
  have hj' : j < n := by simpa using hj
  have h2 : (cur.toList.take (n * 1))[j]? = xs[j]? := by rw [ht]
  rw [List.getElem?_take, if_pos (by omega), hx] at h2
  simp only [Array.getElem?_toList] at h2
  rw [h2]
  simp [ak, hj']
theorem uQ (q : Nat) : (madeCells #[Value.int .u8 0] q).toList = ak (List.replicate q 0) := by
 apply List.ext_getElem
 ·simp [madeCells, ak]
 ·intro i h1 h2
  simp [madeCells, ak, Value.cells, Nat.mod_one]
theorem NR (v r : Nat) (hv : v < 256) (hr : r < 8) (h : v % 2 ^ (8 - r) = 0) : bits .or .u8 (v : Int) ((2 ^ (7 - r) : Nat) : Int) = ((v + 2 ^ (7 - r) : Nat) : Int) := by
 have H : ∀ (r : Fin 8) (v : Fin 256), v.val % 2 ^ (8 - r.val) = 0 → bits .or .u8 (v.val : Int) ((2 ^ (7 - r.val) : Nat) : Int) = ((v.val + 2 ^ (7 - r.val) : Nat) : Int) := by decide +kernel
 exact H ⟨r, hr⟩ ⟨v, hv⟩ h
theorem F6 (x : Nat) (h : x < 64) : bits .and .i64 (x : Int) 1 = ((x % 2 : Nat) : Int) := by
 have H : ∀ x : Fin 64, bits .and .i64 (x.val : Int) 1 = ((x.val % 2 : Nat) : Int) := by decide +kernel
 exact H ⟨x, h⟩
theorem wH (B : List Bool) (m : Nat) : pack (B ++ [false]) m = pack B m := by
 unfold pack
 apply List.map_congr_left
 intro j _
 by_cases e : j = B.length / 8
 ·subst e
  rw [(lW B false).1, CP, Nat.add_zero]
 ·rw [vU B false j e]
theorem Ee (y : Nat) (h : y < 256) : IntKind.u8.wrap (y : Int) = (y : Int) := by
 rw [IntKind.wrap_u8]
 omega
theorem F7 (z i : Nat) (h : i < 6) : (bitsOf z).take (i + 1) = (bitsOf z).take i ++ [z / 2 ^ (5 - i) % 2 == 1] := by
 rcases (show i = 0 ∨ i = 1 ∨ i = 2 ∨ i = 3 ∨ i = 4 ∨ i = 5 by omega) with rfl | rfl | rfl | rfl | rfl | rfl <;> simp [bitsOf]
theorem Fa (U : List UInt8) : ((U.length = 0 ∨ U.length % 4 ≠ 0) ∧ oO U = U) ∨
  (∃ c1, 0 < U.length ∧ U.length % 4 = 0 ∧ U.getLast? = some c1 ∧ c1 ≠ 61 ∧ oO U = U) ∨
  (∃ c1 c2, 4 ≤ U.length ∧ U.length % 4 = 0 ∧ U.getLast? = some c1 ∧ c1 = 61 ∧ U[U.length - 2]? = some c2 ∧ (c2 ≠ 61 ∧ oO U = U.take (U.length - 1) ∨ c2 = 61 ∧ oO U = U.take (U.length - 2))) := by
 by_cases h4 : U.length % 4 = 0
 ·have hu : oO U = strip (strip U) := by unfold oO; rw [if_pos h4]
  rcases Nat.eq_zero_or_pos U.length with h0 | h0
  ·obtain rfl := List.eq_nil_of_length_eq_zero h0
   exact Or.inl ⟨Or.inl rfl, rfl⟩
  ·obtain ⟨c1, h1⟩ : ∃ c1, U.getLast? = some c1 := by
    rw [List.getLast?_eq_getElem?, List.getElem?_eq_getElem (by omega)]
    exact ⟨_, rfl⟩
   by_cases e1 : c1 = 61
   ·have hs1 := E5 U c1 h1 e1
    obtain ⟨c2, h2⟩ : ∃ c2, U[U.length - 2]? = some c2 := by
     rw [List.getElem?_eq_getElem (by omega)]
     exact ⟨_, rfl⟩
    have h2' : (U.take (U.length - 1)).getLast? = some c2 := by
     rw [List.getLast?_eq_getElem?, List.length_take, List.getElem?_take, if_pos (by omega), show min (U.length - 1) U.length - 1 = U.length - 2 by omega]
     exact h2
    refine Or.inr (Or.inr ⟨c1, c2, by omega, h4, h1, e1, h2, ?_⟩)
    by_cases e2 : c2 = 61
    ·refine Or.inr ⟨e2, ?_⟩
     rw [hu, hs1, E5 _ c2 h2' e2, List.length_take, List.take_take]
     congr 1
     omega
    ·refine Or.inl ⟨e2, ?_⟩
     rw [hu, hs1, D8 _ c2 h2' e2]
   ·refine Or.inr (Or.inl ⟨c1, h0, h4, h1, e1, ?_⟩)
    rw [hu, D8 U c1 h1 e1, D8 U c1 h1 e1]
 ·refine Or.inl ⟨Or.inr h4, ?_⟩
  unfold oO
  rw [if_neg h4]
theorem VO (s : ByteArray) (w : World) (hm : s.size ≤ 1000000) :
  Calls Tryz.prog 41 #[.string s] w fun e w' => ∃ A c, e = .returned (.tuple #[.slice A (dB s.data.toList).length c, .bool (pY s.data.toList)]) ∧ (dB s.data.toList).length ≤ c ∧ c ≤ maxLen ∧ dS w' A (dB s.data.toList).length (ak (dB s.data.toList)) ∧ Below w.heap.size w w' := by
 have hl : s.data.toList.length = s.size := Array.length_toList
 have HL := hid hl
 clear hl
 obtain ⟨i0, hi, hz0, hz1, hz2⟩ := info_parts jU
 go_enter Tryz.func41, Tryz.ntmps41
 go_wp2
 go_loopw [4, 5, 6, 15] (fun v _ _ vk wr => ∃ (j : Nat), j ≤ s.size ∧ vk = .int .i64 j ∧ wr.ownsRow w.heap.size 5 1 v (BP (s.data.toList.take j)).length (ak (BP (s.data.toList.take j))) ∧ Below w.heap.size w wr) (fun _ _ _ vk _ => s.size - (intOf vk).toNat)
 case atStart => exact ⟨0, Nat.zero_le _, rfl, World.ownsRow_nil _ _ _ _, Below.refl _ _⟩
 case round =>
  obtain ⟨j, hj, rfl, hown, hbel⟩ := hrel
  by_cases hlt : j < s.size
  ·obtain ⟨c, hc⟩ : ∃ c, s[j] = c := ⟨_, rfl⟩
   have HS : Hid (s.data.toList.take (j + 1) = s.data.toList.take j ++ [c]) := by
    rw [← hc, List.take_succ_eq_append_getElem (by rw [HL.out]; exact hlt)]
    rfl
   have hle := Ea (s.data.toList.take j)
   have hle2 : (s.data.toList.take j).length ≤ j := List.length_take_le _ _
   obtain ⟨m, hmm⟩ : ∃ m, m = (BP (s.data.toList.take j)).length := ⟨_, rfl⟩
   rw [← hmm] at hle hown
   have HM := hid hmm
   clear hmm
   have hc0 : (c.toNat : Int) < 256 := by have := c.toNat_lt; omega
   by_cases hb : (c.toNat : Int) = 9 ∨ (c.toNat : Int) = 10 ∨ (c.toNat : Int) = 12 ∨ (c.toNat : Int) = 13 ∨ (c.toNat : Int) = 32
   ·have HB : Hid (xK.blank c = true) := by
     show xK.blank c = true
     unfold xK.blank
     rcases hb with h | h | h | h | h <;> (have h' : c.toNat = _ := Int.ofNat_inj.1 h) <;> simp [h']
    have HE : Hid (BP (s.data.toList.take (j + 1)) = BP (s.data.toList.take j)) := by rw [HS.out, Eb, if_pos HB.out]; exact rfl
    clear HB
    rcases hb with h | h | h | h | h
    all_goals
     first | have y1 : ¬ (c.toNat : Int) = 9 := by omega | skip
     first | have y2 : ¬ (c.toNat : Int) = 10 := by omega | skip
     first | have y3 : ¬ (c.toNat : Int) = 12 := by omega | skip
     first | have y4 : ¬ (c.toNat : Int) = 13 := by omega | skip
     first | have y5 : ¬ (c.toNat : Int) = 32 := by omega | skip
     go_wp2
     go_roundw
     case rel => exact ⟨j + 1, by omega, by go_num, by rw [HE.out, ← HM.out]; exact hown, hbel⟩
     case measure => simp [intOf]; omega
   ·have b1 : ¬ (c.toNat : Int) = 9 := fun h => hb (by omega)
    have b2 : ¬ (c.toNat : Int) = 10 := fun h => hb (by omega)
    have b3 : ¬ (c.toNat : Int) = 12 := fun h => hb (by omega)
    have b4 : ¬ (c.toNat : Int) = 13 := fun h => hb (by omega)
    have b5 : ¬ (c.toNat : Int) = 32 := fun h => hb (by omega)
    have HB : Hid (xK.blank c = false) := by
     show xK.blank c = false
     unfold xK.blank
     simp
     omega
    have HE : Hid (BP (s.data.toList.take (j + 1)) = BP (s.data.toList.take j) ++ [c]) := by rw [HS.out, Eb, if_neg (by rw [HB.out]; decide)]; exact rfl
    clear HB hb
    have nb1 : ((c.toNat : Int) != 9) = true := by simpa using b1
    have nb2 : ((c.toNat : Int) != 10) = true := by simpa using b2
    have nb3 : ((c.toNat : Int) != 12) = true := by simpa using b3
    have nb4 : ((c.toNat : Int) != 13) = true := by simpa using b4
    have nb5 : ((c.toNat : Int) != 32) = true := by simpa using b5
    go_wp2_with (at_builtin; refine bC rfl _ _ 30 rfl w.heap.size 5 i0 (.int .u8 0) 1 Tryz.underlying30 hi hz0 hz1 hz2 rfl _ m _ rfl hown hbel hbel.size [.int .u8 (c.toNat : Int)] 1 rfl rfl (by intro u hu; simp at hu; subst hu; rfl) (by unfold maxLen; omega) (by omega) ?_)
    intro v' w2 hown2 gG
    clear hown hbel
    go_wp2
    go_roundw
    case rel => exact ⟨j + 1, by omega, by go_num, by
      rw [HE.out, List.length_append, aX, ← HM.out]
      exact hown2, gG⟩
    case measure => simp [intOf]; omega
  ·obtain rfl : j = s.size := by omega
   have HE : Hid (s.data.toList.take s.size = s.data.toList) := by
    rw [← HL.out]; exact List.take_length
   rw [HE.out] at hown
   obtain ⟨U, hU⟩ : ∃ U, U = BP s.data.toList := ⟨_, rfl⟩
   obtain ⟨T, hT⟩ : ∃ T, T = txt s.data.toList := ⟨_, rfl⟩
   have hTU : T = oO U := by rw [hT, hU]; rfl
   have hun : U.length ≤ 1000000 := by rw [hU]; have := Ea s.data.toList; have := HL.out; omega
   rw [← hU] at hown
   obtain ⟨A, cp, rfl, hcp, hcm, hrd⟩ := bZ hown
   have HT := hid hT
   clear hown hU hT
   obtain ⟨n, hn⟩ : ∃ n, n = U.length := ⟨_, rfl⟩
   obtain ⟨m, hmT⟩ : ∃ m, m = T.length := ⟨_, rfl⟩
   have zX := hid hmT
   have hmn : m ≤ n := by
    rw [hmT, hTU, hn]
    rcases Fa U with ⟨_, h⟩ | ⟨_, _, _, _, _, h⟩ | ⟨_, _, _, _, _, _, _, ⟨_, h⟩ | ⟨_, h⟩⟩ <;> rw [h] <;> simp
   have Ce : Hid (dS wr A m (ak T)) := by
    have h2 : T = U.take m := by
     rw [hmT, hTU]
     rcases Fa U with ⟨_, h⟩ | ⟨_, _, _, _, _, h⟩ | ⟨_, _, _, _, _, _, _, ⟨_, h⟩ | ⟨_, h⟩⟩ <;> rw [h] <;> simp
    rw [h2, rV]
    rcases Nat.eq_zero_or_pos n with h0 | h0
    ·have h3 : m = 0 := by omega
     rw [h3, List.take_zero]
     exact dS.nil _
    ·obtain ⟨g, off, rfl, _, _⟩ := hrd.spot (by omega)
     exact hrd.upto m (by omega)
   rw [← hn] at hcp hrd hun ⊢
   have HRU := hid hrd
   clear hrd
   have hmc : m ≤ cp := by omega
   have hm6 : m ≤ 1000000 := by omega
   have hq : (6 * (m : Int)).tdiv 8 = ((6 * m / 8 : Nat) : Int) := by rw [Int.tdiv_eq_ediv_of_nonneg (by omega)]; omega
   have hq2 : 6 * (m : Int) / 8 = ((6 * m / 8 : Nat) : Int) := by omega
   obtain ⟨q, hqq⟩ : ∃ q, q = 6 * m / 8 := ⟨_, rfl⟩
   have HQ := hid hqq
   have hqm : q ≤ 750000 := by omega
   rw [← hqq] at hq hq2
   clear hqq
   have acr : (n = 0 ∧ m = n) ∨ (¬ n = 0 ∧ ¬ n % 4 = 0 ∧ m = n) ∨ (∃ c1 g off, 0 < n ∧ n % 4 = 0 ∧ A = some ⟨g, off, none⟩ ∧ wr.cell? ⟨g, off + (n - 1), none⟩ = some (.int .u8 ((c1 : UInt8).toNat : Int)) ∧ ¬ (c1.toNat : Int) = 61 ∧ m = n) ∨
     (∃ c1 c2 g off, 4 ≤ n ∧ n % 4 = 0 ∧ A = some ⟨g, off, none⟩ ∧ wr.cell? ⟨g, off + (n - 1), none⟩ = some (.int .u8 ((c1 : UInt8).toNat : Int)) ∧ (c1.toNat : Int) = 61 ∧ wr.cell? ⟨g, off + (n - 2), none⟩ = some (.int .u8 ((c2 : UInt8).toNat : Int)) ∧ (¬ (c2.toNat : Int) = 61 ∧ (n : Int) - 1 = (m : Int) ∨ (c2.toNat : Int) = 61 ∧ (n : Int) - 2 = (m : Int))) := by
    have hn61 : ∀ c : UInt8, c ≠ 61 → ¬ (c.toNat : Int) = 61 := fun c h e => h (UInt8.toNat_inj.1 (by simpa using Int.ofNat_inj.1 e))
    rcases Fa U with ⟨h1, h⟩ | ⟨c1, h0, h4, h1, e1, h⟩ | ⟨c1, c2, h0, h4, h1, e1, h2, h3⟩
    ·rw [← hTU] at h
     have : m = n := by rw [hmT, h, hn]
     rcases Nat.eq_zero_or_pos n with h0 | h0
     ·exact Or.inl ⟨h0, this⟩
     ·exact Or.inr (Or.inl ⟨by omega, by omega, this⟩)
    ·rw [← hTU] at h
     have : m = n := by rw [hmT, h, hn]
     obtain ⟨g, off, rfl, _, _⟩ := HRU.out.spot (by omega)
     refine Or.inr (Or.inr (Or.inl ⟨c1, g, off, by omega, by omega, rfl, ?_, hn61 c1 e1, this⟩))
     rw [List.getLast?_eq_getElem?, List.getElem?_eq_getElem (by omega)] at h1
     have hb := HRU.out.byte (n - 1) (by omega)
     rw [hb]
     injection h1 with h1
     rw [← h1]
     congr 4
     simp only [hn]
    ·obtain ⟨g, off, rfl, _, _⟩ := HRU.out.spot (by omega)
     refine Or.inr (Or.inr (Or.inr ⟨c1, c2, g, off, by omega, by omega, rfl, ?_, by rw [e1]; rfl, ?_, ?_⟩))
     ·rw [List.getLast?_eq_getElem?, List.getElem?_eq_getElem (by omega)] at h1
      have hb := HRU.out.byte (n - 1) (by omega)
      rw [hb]
      injection h1 with h1
      rw [← h1]
      congr 4
      simp only [hn]
     ·rw [List.getElem?_eq_getElem (by omega)] at h2
      have hb := HRU.out.byte (n - 2) (by omega)
      rw [hb]
      injection h2 with h2
      rw [← h2]
      congr 4
      simp only [hn]
     ·rcases h3 with ⟨e2, h⟩ | ⟨e2, h⟩
      ·rw [← hTU] at h
       have h5 : m = U.length - 1 := by rw [hmT, h]; simp
       exact Or.inl ⟨hn61 c2 e2, by omega⟩
      ·rw [← hTU] at h
       have h5 : m = U.length - 2 := by rw [hmT, h]; simp
       exact Or.inr ⟨by rw [e2]; rfl, by omega⟩
   have HTU := hid hTU
   have HN := hid hn
   clear hTU hn hmT
   have kD := hbel
   clear hbel
   obtain ⟨w1, hw1⟩ : ∃ w1, w1 = wr := ⟨_, rfl⟩
   subst hw1
   by_cases h41 : m % 4 = 1
   ·have BZ : Hid (pY s.data.toList = false) := by
     show pY _ = false
     unfold pY
     rw [← HT.out, ← zX.out]
     simp [h41]
    have HB : Hid (dB s.data.toList = []) := by
     show dB _ = []
     unfold dB
     rw [BZ.out]
     rfl
    have h41' : ((m : Int).tmod 4) = 1 := by rw [Int.tmod_eq_emod_of_nonneg (by omega)]; omega
    have h41'' : (m : Int) % 4 = 1 := by omega
    rcases acr with ⟨h0, rfl⟩ | ⟨h0, h4, rfl⟩ | ⟨c1, g, off, h0, h4, rfl, hk1, h61, rfl⟩ | ⟨c1, c2, g, off, h0, h4, rfl, hk1, h61, hk2, ⟨h62, hmn2⟩ | ⟨h62, hmn2⟩⟩
    ·omega
    ·have g1 : (0 : Int) < (m : Int) := by omega
     have g2 : ¬ (m : Int) % 4 = 0 := by omega
     go_wp2
     go_ret2
     exact ⟨none, 0, nR (by rw [HB.out]; rfl) (fF BZ.out.symm), by rw [HB.out]; exact Nat.le_refl _, by decide, by rw [HB.out]; exact dS.nil _, kD⟩
    ·omega
    ·have g1 : (0 : Int) < (n : Int) := by omega
     omega
    ·omega
   ·have h41' : ¬ ((m : Int).tmod 4) = 1 := by rw [Int.tmod_eq_emod_of_nonneg (by omega)]; omega
    have h41'' : ¬ (m : Int) % 4 = 1 := by omega
    have hmi : (m : Int) ≤ 1000000 := by omega
    rcases acr with ⟨h0, rfl⟩ | ⟨h0, h4, rfl⟩ | ⟨c1, g, off, h0, h4, rfl, hk1, h61, rfl⟩ | ⟨c1, c2, g, off, h0, h4, rfl, hk1, h61, hk2, ⟨h62, hmn2⟩ | ⟨h62, hmn2⟩⟩
    ·have g1 : ¬ (0 : Int) < (m : Int) := by omega
     have H0 := hid h0
     clear h0
     go_wp2_with (at_make; refine wpList_make_full _ rfl _ _ 30 rfl w1.heap.size 5 i0 (.int .u8 0) 1 Tryz.underlying30 hi hz0 hz1 .i64 .i64 _ _ q rfl rfl rfl rfl (by rw [hz2]; omega) (by unfold maxLen; omega) (Nat.le_refl _) ?_)
     intro w3 hown3 hg3
     have dK : Below w1.heap.size w1 w3 := (Below.refl _ _).grown hg3 (Nat.le_refl _) (by intro k h; cases h)
     clear hg3
     have hrow3 : mZ w3 w1.heap.size 5 (pack [] q) := by rw [yM]; exact vF hown3 (uQ q)
     clear hown3 hq hq2
     generalize hgb : w1.heap.size = gb at *
     go_wp2
     go_loopw [9, 10, 11, 12, 86] (fun _ _ _ _ vk wr => ∃ j : Nat, j ≤ m ∧ vk = .int .i64 j ∧ mZ wr gb 5 (pack (bW (nums (T.take j))) q) ∧ Hid (∀ c ∈ T.take j, 0 ≤ num c) ∧ Below gb w1 wr) (fun _ _ _ _ vk _ => m - (intOf vk).toNat)
     case atStart => exact ⟨0, Nat.zero_le _, rfl, hrow3, (fun c hc => by simp at hc), dK⟩
     case round =>
      clear hrow3 dK
      obtain ⟨j, hj, rfl, hrow, HZ, hbel⟩ := hrel
      by_cases hlt : j < m
      ·omega
      ·obtain rfl : j = m := by omega
       have HE2 : Hid (T.take j = T) := by rw [zX.out]; exact List.take_length
       rw [HE2.out] at hrow HZ
       have BZ : Hid (pY s.data.toList = true) := by
        show pY _ = true
        unfold pY
        rw [← HT.out, decide_eq_true_iff]
        exact ⟨by rw [← zX.out]; exact h41, HZ.out⟩
       have HB : Hid (pack (bW (nums T)) q = dB s.data.toList) := by
        show _ = dB _
        unfold dB
        rw [BZ.out, if_pos rfl, ← HT.out, HQ.out, zX.out, qw T HZ.out]
       have oP : Hid ((dB s.data.toList).length = q) := by rw [← HB.out]; exact nD _ _
       have hrr := hrow.OW
       rw [HB.out, oP.out] at hrr
       go_wp2
       go_ret2
       exact ⟨some ⟨gb, 0, none⟩, q, nR (by rw [oP.out]; rfl) (fF BZ.out.symm), by rw [oP.out]; exact Nat.le_refl _, by unfold maxLen; omega, by rw [oP.out]; exact hrr, kD.trans (hbel.mono (by rw [← hgb]; exact kD.size))⟩
    focus
     have g1 : (0 : Int) < (m : Int) := by omega
     have g2 : ¬ (m : Int) % 4 = 0 := by omega
     go_wp2_with (at_make; refine wpList_make_full _ rfl _ _ 30 rfl w1.heap.size 5 i0 (.int .u8 0) 1 Tryz.underlying30 hi hz0 hz1 .i64 .i64 _ _ q rfl rfl rfl rfl (by rw [hz2]; omega) (by unfold maxLen; omega) (Nat.le_refl _) ?_)
    rotate_left
    focus
     have g1 : (0 : Int) < (m : Int) := by omega
     have g2 : (m : Int) % 4 = 0 := by omega
     have g3 : ((m : Int) - 1).toNat = m - 1 := by omega
     have g4 : ((m : Int) - 1) = ((m - 1 : Nat) : Int) := by omega
     go_wp2_with (at_make; refine wpList_make_full _ rfl _ _ 30 rfl w1.heap.size 5 i0 (.int .u8 0) 1 Tryz.underlying30 hi hz0 hz1 .i64 .i64 _ _ q rfl rfl rfl rfl (by rw [hz2]; omega) (by unfold maxLen; omega) (Nat.le_refl _) ?_)
    rotate_left
    focus
     have g1 : (0 : Int) < (n : Int) := by omega
     have g2 : (n : Int) % 4 = 0 := by omega
     have g5 : ((n : Int) - 2) = ((n - 2 : Nat) : Int) := by omega
     have g6 : n - 2 < m := by omega
     have g7 : ((n - 2 : Nat) : Int) < (m : Int) := by omega
     have g8 : m ≤ n := by omega
     rw [show n - 1 = m by omega] at hk1
     have g9 : m < n := by omega
     go_wp2_with (at_make; refine wpList_make_full _ rfl _ _ 30 rfl w1.heap.size 5 i0 (.int .u8 0) 1 Tryz.underlying30 hi hz0 hz1 .i64 .i64 _ _ q rfl rfl rfl rfl (by rw [hz2]; omega) (by unfold maxLen; omega) (Nat.le_refl _) ?_)
    rotate_left
    focus
     have g1 : (0 : Int) < (n : Int) := by omega
     have g2 : (n : Int) % 4 = 0 := by omega
     have g4 : ((n : Int) - 1) = ((n - 1 : Nat) : Int) := by omega
     rw [show n - 2 = m by omega] at hk2
     have g5 : m < n - 1 := by omega
     have g6 : (m : Int) < ((n - 1 : Nat) : Int) := by omega
     have g7 : n - 1 < n := by omega
     go_wp2_with (at_make; refine wpList_make_full _ rfl _ _ 30 rfl w1.heap.size 5 i0 (.int .u8 0) 1 Tryz.underlying30 hi hz0 hz1 .i64 .i64 _ _ q rfl rfl rfl rfl (by rw [hz2]; omega) (by unfold maxLen; omega) (Nat.le_refl _) ?_)
    rotate_left
    all_goals
     intro w3 hown3 hg3
     have dK : Below w1.heap.size w1 w3 := (Below.refl _ _).grown hg3 (Nat.le_refl _) (by intro k h; cases h)
     clear hg3
     have hrow3 : mZ w3 w1.heap.size 5 (pack [] q) := by rw [yM]; exact vF hown3 (uQ q)
     clear hown3 hq hq2
     generalize hgb : w1.heap.size = gb at *
     go_wp2
     go_loopw [9, 10, 11, 12, 86] (fun _ _ _ _ vk wr => ∃ j : Nat, j ≤ m ∧ vk = .int .i64 j ∧ mZ wr gb 5 (pack (bW (nums (T.take j))) q) ∧ Hid (∀ c ∈ T.take j, 0 ≤ num c) ∧ Below gb w1 wr) (fun _ _ _ _ vk _ => m - (intOf vk).toNat)
     case atStart => exact ⟨0, Nat.zero_le _, rfl, hrow3, (fun c hc => by simp at hc), dK⟩
     case round =>
      clear hrow3 dK
      obtain ⟨j, hj, rfl, hrow, HZ, hbel⟩ := hrel
      by_cases hlt : j < m
      ·obtain ⟨gg, oo, hA2, hgg, _⟩ := Ce.out.spot (by omega)
       have Az := Ce.out
       rw [hA2] at Az
       obtain ⟨c, hx⟩ : ∃ c, c = T[j]'(by rw [← zX.out]; exact hlt) := ⟨_, rfl⟩
       have hcell : wr.cell? ⟨gg, oo + j, none⟩ = some (.int .u8 (c.toNat : Int)) := by
        rw [hx, ← Az.byte j (by rw [← zX.out]; exact hlt)]
        exact hbel.cell (p := ⟨gg, oo + j, none⟩) (by show gg < gb; omega)
       clear Az
       cases hA2
       have HS : Hid (T.take (j + 1) = T.take j ++ [c]) := by
        rw [hx]
        exact List.take_succ_eq_append_getElem (by rw [← zX.out]; exact hlt)
       have Nb : Hid (c ∈ T) := by rw [hx]; exact List.getElem_mem _
       clear hx
       have hrg := lY c
       by_cases hn : num c < 0
       ·have hn' : num c = -1 := by omega
        have HNN := hid hn'
        have BZ : Hid (pY s.data.toList = false) := by
         show pY _ = false
         unfold pY
         rw [decide_eq_false_iff_not]
         rintro ⟨_, h⟩
         have := h c (by rw [← HT.out]; exact Nb.out)
         omega
        have HB : Hid (dB s.data.toList = []) := by
         show dB _ = []
         unfold dB
         rw [BZ.out]
         rfl
        clear hn hn' hrg
        go_wp2_with fail
        refine (MS.aZ c _).mono ?_
        rintro e w4 ⟨rfl, hb4⟩
        rw [HNN.out]
        go_wp2
        go_ret2
        exact ⟨none, 0, nR (by rw [HB.out]; rfl) (fF BZ.out.symm), by rw [HB.out]; exact Nat.le_refl _, by decide, by rw [HB.out]; exact dS.nil _, (kD.trans (hbel.mono (by rw [← hgb]; exact kD.size))).trans (hb4.mono (by have := kD.size; have := hbel.size; omega))⟩
       ·obtain ⟨z, hz⟩ : ∃ z : Nat, num c = (z : Int) := ⟨(num c).toNat, by omega⟩
        have Iy : z < 64 := by omega
        have HNZ := hid hz
        have HZ2 : Hid (∀ x ∈ T.take (j + 1), 0 ≤ num x) := by
         intro x hx
         rw [HS.out, List.mem_append] at hx
         rcases hx with hx | hx
         ·exact HZ.out x hx
         ·simp at hx
          subst hx
          omega
        have HBI : Hid (bW (nums (T.take (j + 1))) = bW (nums (T.take j)) ++ (bitsOf z).take 6) := by
         show _ = _
         rw [HS.out]
         simp [nums, bW, hz, bitsOf]
        have iM : Hid ((bW (nums (T.take j))).length = 6 * j) := by
         show _ = _
         rw [Gj]
         simp [nums]
         have := zX.out
         omega
        clear hn hrg hz
        go_wp2_with fail
        refine (MS.aZ c _).mono ?_
        rintro e w4 ⟨rfl, hb4⟩
        rw [HNZ.out]
        have hrow4 := hrow.below hb4
        have jl : Below gb w1 w4 := hbel.trans (hb4.mono (by have := hbel.size; omega))
        clear hrow hbel hcell
        obtain ⟨B0, hB0⟩ : ∃ B0, B0 = bW (nums (T.take j)) := ⟨_, rfl⟩
        rw [← hB0] at hrow4 HBI iM
        go_wp2
        go_loopw [11, 12, 96] (fun _ _ vi wr => ∃ i : Nat, i ≤ 6 ∧ vi = .int .i64 i ∧ mZ wr gb 5 (pack (B0 ++ (bitsOf z).take i) q) ∧ Below gb w1 wr) (fun _ _ vi _ => 6 - (intOf vi).toNat)
        case atStart => exact ⟨0, by omega, rfl, by simpa using hrow4, jl⟩
        case round =>
         clear hrow4 jl hb4
         obtain ⟨i, hi6, rfl, hrow, hbel⟩ := hrel
         by_cases hlt2 : i < 6
         ·obtain ⟨P, hPP⟩ : ∃ P, P = 6 * j + i := ⟨_, rfl⟩
          obtain ⟨B, hB⟩ : ∃ B, B = B0 ++ (bitsOf z).take i := ⟨_, rfl⟩
          have hBP : B.length = P := by
           rw [hB, List.length_append, iM.out, List.length_take, yK]
           omega
          obtain ⟨b, hb⟩ : ∃ b, b = (z / 2 ^ (5 - i) % 2 == 1) := ⟨_, rfl⟩
          have Uh : Hid (B0 ++ (bitsOf z).take (i + 1) = B ++ [b]) := by
           show _ = _
           rw [F7 z i hlt2, ← List.append_assoc, ← hB, hb]
          rw [← hB] at hrow
          have TP := hid hBP
          have hP : 6 * (j : Int) + (i : Int) = (P : Int) := by omega
          have hPm : (P : Int) ≤ 6000006 := by omega
          have i5 : (i : Int) ≤ 5 := by omega
          have i5' : (0 : Int) ≤ 5 - (i : Int) := by omega
          have hsh : (z : Int) / 2 ^ ((5 : Int) - (i : Int)).toNat = ((z / 2 ^ (5 - i) : Nat) : Int) := by
           rw [show ((5 : Int) - (i : Int)).toNat = 5 - i by omega]
           simp
          have hsh2 : (z : Int) / 2 ^ (5 - i) = ((z / 2 ^ (5 - i) : Nat) : Int) := by simp
          have Iw : z / 2 ^ (5 - i) < 64 := Nat.lt_of_le_of_lt (Nat.div_le_self _ _) Iy
          have hand := F6 _ Iw
          obtain ⟨x, hxx⟩ : ∃ x, x = z / 2 ^ (5 - i) := ⟨_, rfl⟩
          rw [← hxx] at hsh hsh2 hand hb
          clear hxx hB hBP hPP Iw
          cases hbv : b
          ·have HPF : Hid (pack (B ++ [b]) q = pack B q) := by rw [hbv]; exact wH B q
           have hx0 : x % 2 = 0 := by
            rw [hbv] at hb
            have := hb.symm
            simp at this
            omega
           have hand2 : bits .and .i64 (x : Int) 1 = 0 := by rw [hand, hx0]; rfl
           clear hand hb hbv hx0
           by_cases hin : (P : Int) < 8 * (q : Int)
           all_goals
            go_wp2
            go_roundw
            case rel => exact ⟨i + 1, by omega, by go_num, by rw [Uh.out, HPF.out]; exact hrow, hbel⟩
            case measure => simp [intOf]; omega
          ·have hx1 : x % 2 = 1 := by
            rw [hbv] at hb
            have := hb.symm
            simpa using this
           have hand2 : bits .and .i64 (x : Int) 1 = 1 := by rw [hand, hx1]; rfl
           by_cases hin : (P : Int) < 8 * (q : Int)
           ·obtain ⟨hh1, hh2⟩ := lW B true
            have jD := lX B (B.length / 8)
            have fO := lX (B ++ [true]) (B.length / 8)
            have Ue : Hid (pack (B ++ [b]) q = (pack B q).set (P / 8) (UInt8.ofNat (byteAt B (P / 8) + 2 ^ (7 - P % 8)))) := by
             show _ = _
             rw [hbv, zF, TP.out]
             rfl
            rw [hh1] at fO
            rw [TP.out] at hh2 jD fO
            have hr8 : P % 8 < 8 := Nat.mod_lt _ (by decide)
            have hor := NR (byteAt B (P / 8)) (P % 8) jD hr8 hh2
            have hval : ((UInt8.ofNat (byteAt B (P / 8) + 2 ^ (7 - P % 8))).toNat : Int) = ((byteAt B (P / 8) + 2 ^ (7 - P % 8) : Nat) : Int) := by
             rw [show b2 true (2 ^ (7 - P % 8)) = 2 ^ (7 - P % 8) from rfl] at fO
             exact gX _ fO
            have hp8 : P / 8 < q := by omega
            have hcl : wr.cell? ⟨gb, P / 8, none⟩ = some (.int .u8 ((byteAt B (P / 8) : Nat) : Int)) := by
             rw [hrow.cell (P / 8) (by rw [nD]; exact hp8)]
             simp only [pack, List.getElem_map, List.getElem_range]
             rw [gX _ jD]
            have hfz : wr.frozen? ⟨gb, P / 8, none⟩ = false := hrow.frozen (P / 8)
            have yI : (2 : Int) ^ ((7 : Int) - ((P % 8 : Nat) : Int)).toNat = ((2 ^ (7 - P % 8) : Nat) : Int) := by
             rw [show ((7 : Int) - ((P % 8 : Nat) : Int)).toNat = 7 - P % 8 by omega]
             simp
            have hpow2 : (2 : Int) ^ (7 - P % 8) = ((2 ^ (7 - P % 8) : Nat) : Int) := by simp
            have hy : 2 ^ (7 - P % 8) < 256 := by
             have : 2 ^ (7 - P % 8) ≤ 2 ^ 7 := Nat.pow_le_pow_right (by decide) (by omega)
             omega
            have e8 : (P : Int).tdiv 8 = ((P / 8 : Nat) : Int) := by rw [Int.tdiv_eq_ediv_of_nonneg (by omega)]; omega
            have e8' : (P : Int) / 8 = ((P / 8 : Nat) : Int) := by omega
            have f8 : (P : Int).tmod 8 = ((P % 8 : Nat) : Int) := by rw [Int.tmod_eq_emod_of_nonneg (by omega)]; omega
            have f8' : (P : Int) % 8 = ((P % 8 : Nat) : Int) := by omega
            obtain ⟨p8, Bf⟩ : ∃ p8, p8 = P / 8 := ⟨_, rfl⟩
            obtain ⟨r8, Bg⟩ : ∃ r8, r8 = P % 8 := ⟨_, rfl⟩
            rw [← Bf, ← Bg] at hor hval Ue
            rw [← Bg] at hr8 yI hpow2 hy f8 f8'
            rw [← Bf] at hp8 hcl hfz e8 e8'
            obtain ⟨v, hv⟩ : ∃ v, v = byteAt B p8 := ⟨_, rfl⟩
            obtain ⟨y, U6⟩ : ∃ y, y = 2 ^ (7 - r8) := ⟨_, rfl⟩
            rw [← hv, ← U6] at hor hval Ue
            rw [← hv] at hcl
            rw [← U6] at yI hpow2 hy
            have hwp := Ee y hy
            have HV := hid hval
            have hr7 : (r8 : Int) ≤ 7 := by omega
            have hr7' : (0 : Int) ≤ 7 - (r8 : Int) := by omega
            have hp8' : (p8 : Int) < (q : Int) := by omega
            clear hand hb hbv hx1 hh1 hh2 jD fO hval Bf Bg hv U6
            go_wp2
            go_roundw
            case rel => exact ⟨i + 1, by omega, by go_num, by
              have h2 := hrow.set p8 (UInt8.ofNat (v + y))
              rw [HV.out, Int.natCast_add] at h2
              rw [Uh.out, Ue.out]
              exact h2, hbel.setCell (p := ⟨gb, p8, none⟩) (Nat.le_refl _) _⟩
            case measure => simp [intOf]; omega
           ·have Qo : Hid (pack (B ++ [b]) q = pack B q) := zD B b q (by rw [TP.out]; omega)
            clear hand hb hbv hx1
            go_wp2
            go_roundw
            case rel => exact ⟨i + 1, by omega, by go_num, by rw [Uh.out, Qo.out]; exact hrow, hbel⟩
            case measure => simp [intOf]; omega
         ·obtain rfl : i = 6 := by omega
          go_wp2
          go_roundw
          case rel => exact ⟨j + 1, by omega, by go_num, by rw [HBI.out]; exact hrow, HZ2, hbel⟩
          case measure => simp [intOf]; omega
      ·obtain rfl : j = m := by omega
       have HE2 : Hid (T.take j = T) := by rw [zX.out]; exact List.take_length
       rw [HE2.out] at hrow HZ
       have BZ : Hid (pY s.data.toList = true) := by
        show pY _ = true
        unfold pY
        rw [← HT.out, decide_eq_true_iff]
        exact ⟨by rw [← zX.out]; exact h41, HZ.out⟩
       have HB : Hid (pack (bW (nums T)) q = dB s.data.toList) := by
        show _ = dB _
        unfold dB
        rw [BZ.out, if_pos rfl, ← HT.out, HQ.out, zX.out, qw T HZ.out]
       have oP : Hid ((dB s.data.toList).length = q) := by rw [← HB.out]; exact nD _ _
       have hrr := hrow.OW
       rw [HB.out, oP.out] at hrr
       go_wp2
       go_ret2
       exact ⟨some ⟨gb, 0, none⟩, q, nR (by rw [oP.out]; rfl) (fF BZ.out.symm), by rw [oP.out]; exact Nat.le_refl _, by unfold maxLen; omega, by rw [oP.out]; exact hrr, kD.trans (hbel.mono (by rw [← hgb]; exact kD.size))⟩
end Go.Proofs.YtcfgioklgmlclaaGreatDoor.B64F
namespace Go.Proofs.YtcfgioklgmlclaaGreatDoor.B64G
open Go.RowKit Base aP xK B64U Aw aad B64P
def dM (c : Nat) : List Bool := [c / 128 % 2 == 1, c / 64 % 2 == 1, c / 32 % 2 == 1, c / 16 % 2 == 1, c / 8 % 2 == 1, c / 4 % 2 == 1, c / 2 % 2 == 1, c % 2 == 1]
def allB (L : List UInt8) : List Bool := L.flatMap fun c => dM c.toNat
def six (B : List Bool) (i : Nat) : Nat :=
 b2 (B.getD (6 * i) false) 32 + b2 (B.getD (6 * i + 1) false) 16 + b2 (B.getD (6 * i + 2) false) 8 + b2 (B.getD (6 * i + 3) false) 4 + b2 (B.getD (6 * i + 4) false) 2 + b2 (B.getD (6 * i + 5) false) 1
def groups (L : List UInt8) : List Nat := (List.range ((8 * L.length + 5) / 6)).map (six (allB L))
def body (L : List UInt8) : List UInt8 := (groups L).map aT
theorem ZO (X R : List Bool) (j : Nat) (h : X.length = 24) : six (X ++ R) (j + 4) = six R j := by
 have g : ∀ i, (X ++ R).getD (24 + i) false = R.getD i false := by
  intro i
  simp only [List.getD_eq_getElem?_getD]
  rw [List.getElem?_append_right (by omega)]
  congr 2
  omega
 unfold six
 have e : 6 * (j + 4) = 24 + 6 * j := by omega
 rw [e]
 simp only [Nat.add_assoc, g]
theorem Oj (a b c : UInt8) (t : List UInt8) : groups (a :: b :: c :: t) = [six (allB (a :: b :: c :: t)) 0, six (allB (a :: b :: c :: t)) 1, six (allB (a :: b :: c :: t)) 2, six (allB (a :: b :: c :: t)) 3] ++ groups t := by
 unfold groups
 have e1 : (8 * (a :: b :: c :: t).length + 5) / 6 = (8 * t.length + 5) / 6 + 4 := by simp only [List.length_cons]; omega
 have e : ∀ m, List.range (m + 4) = [0, 1, 2, 3] ++ (List.range m).map (· + 4) := by
  intro m
  rw [Nat.add_comm m 4, List.range_add]
  congr 1
  apply List.map_congr_left
  intro a _
  omega
 rw [e1, e, List.map_append, List.map_map]
 have e3 : (List.range ((8 * t.length + 5) / 6)).map (six (allB (a :: b :: c :: t)) ∘ fun x => x + 4) = (List.range ((8 * t.length + 5) / 6)).map (six (allB t)) := by
  apply List.map_congr_left
  intro j _
  simp only [Function.comp]
  have e2 : allB (a :: b :: c :: t) = (dM a.toNat ++ (dM b.toNat ++ dM c.toNat)) ++ allB t := by simp [allB]
  rw [e2, ZO _ _ j rfl]
 rw [e3]
 rfl
theorem six0 (a : Nat) (R : List Bool) (_h : a < 256) : six (dM a ++ R) 0 = a / 4 := by
 unfold six dM
 simp only [List.cons_append, List.nil_append, List.getD_cons_zero, List.getD_cons_succ, Nat.mul_zero, Nat.zero_add, vS]
 omega
theorem six1 (a b : Nat) (R : List Bool) (_h : a < 256) (_hb : b < 256) : six (dM a ++ (dM b ++ R)) 1 = a % 4 * 16 + b / 16 := by
 unfold six dM
 simp only [List.cons_append, List.nil_append, List.getD_cons_zero, List.getD_cons_succ, Nat.mul_one, Nat.reduceAdd, vS]
 omega
theorem six2 (a b c : Nat) (R : List Bool) (_h : a < 256) (_hb : b < 256) (_hc : c < 256) : six (dM a ++ (dM b ++ (dM c ++ R))) 2 = b % 16 * 4 + c / 64 := by
 unfold six dM
 simp only [List.cons_append, List.nil_append, List.getD_cons_zero, List.getD_cons_succ, Nat.reduceMul, Nat.reduceAdd, vS]
 omega
theorem six3 (a b c : Nat) (R : List Bool) (_h : a < 256) (_hb : b < 256) (_hc : c < 256) : six (dM a ++ (dM b ++ (dM c ++ R))) 3 = c % 64 := by
 unfold six dM
 simp only [List.cons_append, List.nil_append, List.getD_cons_zero, List.getD_cons_succ, Nat.reduceMul, Nat.reduceAdd, vS]
 omega
theorem six1' (a : Nat) (_h : a < 256) : six (dM a) 1 = a % 4 * 16 := by
 unfold six dM
 simp only [List.getD_cons_zero, List.getD_cons_succ, List.getD_nil, Nat.mul_one, Nat.reduceAdd, vS, CP]
 omega
theorem six2' (a b : Nat) (_h : a < 256) (_hb : b < 256) : six (dM a ++ dM b) 2 = b % 16 * 4 := by
 unfold six dM
 simp only [List.cons_append, List.nil_append, List.getD_cons_zero, List.getD_cons_succ, List.getD_nil, Nat.reduceMul, Nat.reduceAdd, vS, CP]
 omega
theorem groups1 (a : UInt8) : groups [a] = [a.toNat / 4, a.toNat % 4 * 16] := by
 have ha := a.toNat_lt
 have e : allB [a] = dM a.toNat ++ [] := by simp [allB]
 unfold groups
 rw [show (8 * [a].length + 5) / 6 = 2 by simp, e]
 simp only [List.range_succ, List.range_zero, List.nil_append, List.cons_append, List.map_cons, List.map_nil]
 rw [six0 _ _ ha, List.append_nil, six1' _ ha]
theorem groups2 (a b : UInt8) : groups [a, b] = [a.toNat / 4, a.toNat % 4 * 16 + b.toNat / 16, b.toNat % 16 * 4] := by
 have ha := a.toNat_lt
 have hb := b.toNat_lt
 have e : allB [a, b] = dM a.toNat ++ (dM b.toNat ++ []) := by simp [allB]
 unfold groups
 rw [show (8 * [a, b].length + 5) / 6 = 3 by simp, e]
 simp only [List.range_succ, List.range_zero, List.nil_append, List.cons_append, List.map_cons, List.map_nil]
 rw [six0 _ _ ha, six1 _ _ _ ha hb, List.append_nil, six2' _ _ ha hb]
theorem groups3 (a b c : UInt8) (t : List UInt8) : groups (a :: b :: c :: t) = [a.toNat / 4, a.toNat % 4 * 16 + b.toNat / 16, b.toNat % 16 * 4 + c.toNat / 64, c.toNat % 64] ++ groups t := by
 have ha := a.toNat_lt
 have hb := b.toNat_lt
 have hc := c.toNat_lt
 rw [Oj]
 have e2 : allB (a :: b :: c :: t) = dM a.toNat ++ (dM b.toNat ++ (dM c.toNat ++ allB t)) := by simp [allB]
 rw [e2, six0 _ _ ha, six1 _ _ _ ha hb, six2 _ _ _ _ ha hb hc, six3 _ _ _ _ ha hb hc]
def pd (L : List UInt8) : Nat := if L.length % 3 = 0 then 0 else 3 - L.length % 3
theorem oq (L : List UInt8) : e64 L = body L ++ List.replicate (pd L) 61 ∧ KU (groups L) = L ∧ ∀ n ∈ groups L, n < 64 := by
 have H : ∀ (k : Nat) (L : List UInt8), L.length ≤ k → e64 L = body L ++ List.replicate (pd L) 61 ∧ KU (groups L) = L ∧ ∀ n ∈ groups L, n < 64 := by
  intro k
  induction k with
  | zero => intro L h; obtain rfl : L = [] := List.eq_nil_of_length_eq_zero (by omega); exact ⟨rfl, rfl, fun n h => by simp [groups] at h⟩
  | succ k ih =>
   intro L hl
   match L, hl with
   | [], _ => exact ⟨rfl, rfl, fun n h => by simp [groups] at h⟩
   | [a], _ =>
    have ha := a.toNat_lt
    unfold body
    rw [groups1]
    refine ⟨by simp [e64, pd, List.replicate_succ], ?_, ?_⟩
    ·simp only [KU]
     congr 1
     rw [show a.toNat / 4 * 4 + a.toNat % 4 * 16 / 16 = a.toNat by omega]
     simp
    ·intro n hn
     simp at hn
     omega
   | [a, b], _ =>
    have ha := a.toNat_lt
    have hb := b.toNat_lt
    unfold body
    rw [groups2]
    refine ⟨by simp [e64, pd, List.replicate_succ], ?_, ?_⟩
    ·simp only [KU]
     rw [show a.toNat / 4 * 4 + (a.toNat % 4 * 16 + b.toNat / 16) / 16 = a.toNat by omega, show (a.toNat % 4 * 16 + b.toNat / 16) % 16 * 16 + b.toNat % 16 * 4 / 4 = b.toNat by omega]
     simp
    ·intro n hn
     simp at hn
     omega
   | a :: b :: c :: t, hl =>
    have ha := a.toNat_lt
    have hb := b.toNat_lt
    have hc := c.toNat_lt
    obtain ⟨h1, h2, h3⟩ := ih t (by simp at hl; omega)
    have hp : pd (a :: b :: c :: t) = pd t := by
     unfold pd
     simp only [List.length_cons]
     rw [show (t.length + 1 + 1 + 1) % 3 = t.length % 3 by omega]
    unfold body at h1 ⊢
    rw [groups3, hp]
    refine ⟨?_, ?_, ?_⟩
    ·rw [e64, h1]
     simp
    ·simp only [List.cons_append, List.nil_append, KU, h2]
     rw [show a.toNat / 4 * 4 + (a.toNat % 4 * 16 + b.toNat / 16) / 16 = a.toNat by omega, show (a.toNat % 4 * 16 + b.toNat / 16) % 16 * 16 + (b.toNat % 16 * 4 + c.toNat / 64) / 4 = b.toNat by omega, show (b.toNat % 16 * 4 + c.toNat / 64) % 4 * 64 + c.toNat % 64 = c.toNat by omega]
     simp
    ·intro n hn
     simp only [List.cons_append, List.nil_append, List.mem_cons] at hn
     rcases hn with rfl | rfl | rfl | rfl | hn
     ·omega
     ·omega
     ·omega
     ·omega
     ·exact h3 n hn
 exact H _ L (Nat.le_refl _)
theorem zy (k : Nat) (h : k < 64) : aT k ≠ 61 ∧ xK.blank (aT k) = false ∧ num (aT k) = (k : Int) := by
 have H : ∀ k : Fin 64, aT k.val ≠ 61 ∧ xK.blank (aT k.val) = false ∧ num (aT k.val) = (k.val : Int) := by decide +kernel
 exact H ⟨k, h⟩
theorem CW (L : List UInt8) : ∀ c ∈ body L, ∃ k, k < 64 ∧ c = aT k := by
 intro c hc
 simp only [body, List.mem_map] at hc
 obtain ⟨k, hk, rfl⟩ := hc
 exact ⟨k, (oq L).2.2 k hk, rfl⟩
theorem NS (L : List UInt8) : ∀ c ∈ body L, c ≠ 61 := by
 intro c hc
 obtain ⟨k, hk, rfl⟩ := CW L c hc
 exact (zy k hk).1
theorem EY (X : List UInt8) (h : ∀ c ∈ X, c ≠ 61) : strip X = X := by
 unfold strip
 rw [if_neg]
 intro e
 exact h 61 (List.mem_of_getLast? e) rfl
theorem EZ (X : List UInt8) : strip (X ++ [61]) = X := by
 unfold strip
 rw [if_pos (by simp), List.dropLast_concat]
theorem abh (L : List UInt8) : (body L).length = (8 * L.length + 5) / 6 := by simp [body, groups]
theorem ab1 (L : List UInt8) : pd L ≤ 2 := by unfold pd; split <;> omega
theorem XV (X : List UInt8) (h : ∀ c ∈ X, xK.blank c = false) : BP X = X := by
 unfold BP
 rw [List.filter_eq_self]
 intro c hc
 rw [h c hc]
 rfl
theorem Hr (L : List UInt8) : ∀ c ∈ body L, xK.blank c = false := by
 intro c hc
 obtain ⟨k, hk, rfl⟩ := CW L c hc
 exact (zy k hk).2.1
theorem aaf (L : List UInt8) : txt (e64 L) = body L := by
 have h4 : (e64 L).length % 4 = 0 := by rw [aal]; omega
 have hb : BP (e64 L) = e64 L := XV _ (by
  intro c hc
  rw [(oq L).1] at hc
  rcases List.mem_append.1 hc with hc | hc
  ·exact Hr L c hc
  ·rw [(List.mem_replicate.1 hc).2]
   rfl)
 unfold txt oO
 rw [hb, if_pos h4, (oq L).1]
 have hs := EY _ (NS L)
 rcases (show pd L = 0 ∨ pd L = 1 ∨ pd L = 2 by have := ab1 L; omega) with h | h | h
 ·rw [h, List.replicate_zero, List.append_nil, hs, hs]
 ·rw [h, show List.replicate 1 (61 : UInt8) = [61] from rfl, EZ, hs]
 ·rw [h, show List.replicate 2 (61 : UInt8) = [61] ++ [61] from rfl, ← List.append_assoc, EZ, EZ]
theorem Zr (T : List UInt8) (hz : ∀ c ∈ T, 0 ≤ num c) : pack (bW (nums T)) (6 * T.length / 8) = KU (nums T) := by
 have := RJ (nums T) (Xu T hz)
 rwa [show (nums T).length = T.length by simp [nums]] at this
theorem back (L Y : List UInt8) (h : txt Y = body L) : pY Y = true ∧ dB Y = L := by
 have hz : ∀ c ∈ body L, 0 ≤ num c := by
  intro c hc
  obtain ⟨k, hk, rfl⟩ := CW L c hc
  rw [(zy k hk).2.2]
  omega
 have ho : pY Y = true := by
  unfold pY
  rw [h, decide_eq_true_iff]
  exact ⟨by rw [abh]; omega, hz⟩
 refine ⟨ho, ?_⟩
 have hn : nums (body L) = groups L := by
  unfold nums body
  rw [List.map_map]
  conv => rhs; rw [← List.map_id (groups L)]
  apply List.map_congr_left
  intro k hk
  simp only [Function.comp, (zy k ((oq L).2.2 k hk)).2.2, id, Int.toNat_natCast]
 unfold dB
 rw [ho, if_pos rfl, h, ← qw _ hz, Zr _ hz, hn]
 exact (oq L).2.1
end Go.Proofs.YtcfgioklgmlclaaGreatDoor.B64G
