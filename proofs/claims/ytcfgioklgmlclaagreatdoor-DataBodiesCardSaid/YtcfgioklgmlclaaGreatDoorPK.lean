/- Texts that belong together: B64H. -/
import Derived.Test.YtcfgioklgmlclaaGreatDoorPI
set_option linter.unusedSimpArgs false
set_option linter.unusedVariables false
set_option maxRecDepth 100000
set_option maxHeartbeats 64000000
namespace Go.Proofs.YtcfgioklgmlclaaGreatDoor.B64H
open Go.RowKit Base aP xK Aw aad B64P B64G
def pre (B : List Bool) (p : Nat) : Nat → Nat
 | 0 => 0
 | j + 1 => 2 * pre B p j + b2 (B.getD (p + j) false) 1
theorem DL (b : Bool) (k : Nat) : b2 b k = k * b2 b 1 := by unfold b2; split <;> omega
theorem pre_six (B : List Bool) (i : Nat) : pre B (6 * i) 6 = six B i := by
 unfold six
 rw [DL _ 32, DL _ 16, DL _ 8, DL _ 4, DL _ 2]
 simp only [pre, Nat.add_zero]
 omega
theorem ab2 (B : List Bool) (p j : Nat) : pre B p j < 2 ^ j := by
 induction j with
 | zero => simp [pre]
 | succ j ih =>
  have h1 := Fj (B.getD (p + j) false) 1
  rw [Nat.pow_succ]
  simp only [pre]
  omega
theorem aa9 (L : List UInt8) : (allB L).length = 8 * L.length := by
 induction L with
 | nil => rfl
 | cons c L ih => simp only [allB, List.flatMap_cons, List.length_append, List.length_cons] at ih ⊢; rw [ih]; simp [dM]; omega
theorem XL : ∀ (L : List UInt8) (p : Nat) (c : UInt8), L[p / 8]? = some c → (allB L).getD p false = (c.toNat / 2 ^ (7 - p % 8) % 2 == 1)
 | [], p, c, h => by simp at h
 | x :: L, p, c, h => by
  have e : allB (x :: L) = dM x.toNat ++ allB L := by simp [allB]
  rw [e]
  by_cases hp : p < 8
  ·have h0 : p / 8 = 0 := by omega
   rw [h0] at h
   simp at h
   subst h
   rcases (show p = 0 ∨ p = 1 ∨ p = 2 ∨ p = 3 ∨ p = 4 ∨ p = 5 ∨ p = 6 ∨ p = 7 by omega) with rfl | rfl | rfl | rfl | rfl | rfl | rfl | rfl <;> simp [dM]
  ·have h1 : p / 8 = (p - 8) / 8 + 1 := by omega
   rw [h1] at h
   simp only [List.getElem?_cons_succ] at h
   have ih := XL L (p - 8) c h
   have e2 : (dM x.toNat ++ allB L).getD p false = (allB L).getD (p - 8) false := by
    simp only [List.getD_eq_getElem?_getD]
    rw [List.getElem?_append_right (by simp [dM]; omega)]
    simp [dM]
   rw [e2, ih, show (p - 8) % 8 = p % 8 by omega]
theorem and1u (x : Nat) (h : x < 256) : bits .and .u8 (x : Int) 1 = ((x % 2 : Nat) : Int) := by
 have H : ∀ x : Fin 256, bits .and .u8 (x.val : Int) 1 = ((x.val % 2 : Nat) : Int) := by decide +kernel
 exact H ⟨x, h⟩
def lenV : Value → Nat | .slice _ n _ => n | _ => 0
theorem VP (A : Option Addr) (n cap : Nat) (L : List UInt8) (w : World) (h : dS w A n (ak L)) (hc : n ≤ cap) (hm : n ≤ 100000) :
  Calls Tryz.prog 19 #[.slice A n cap] w fun e w' => e = .returned (.string (strOf (e64 L))) ∧ Below w.heap.size w w' := by
 have hl : L.length = n := by rw [← bF]; exact h.1
 have HL := hid hl
 clear hl
 obtain ⟨i0, hi, hz0, hz1, hz2⟩ := info_parts jU
 have HH := hid h
 clear h
 obtain ⟨g, hg⟩ : ∃ g, g = (8 * n + 5) / 6 := ⟨_, rfl⟩
 have iM : Hid ((body L).length = g) := by show _ = _; rw [abh, HL.out, hg]
 have hg1 : g ≤ 133334 := by omega
 obtain ⟨B, hB⟩ : ∃ B, B = allB L := ⟨_, rfl⟩
 have HB := hid hB
 have HG := hid hg
 clear hB hg
 go_enter Tryz.func19, Tryz.ntmps19
 go_wp2
 go_loopw [3, 4, 5, 6] (fun v va _ _ wr => ∃ i : Nat, i ≤ g ∧ va = .int .i64 (6 * (i : Int)) ∧ wr.ownsRow w.heap.size 5 1 v i (ak ((body L).take i)) ∧ Below w.heap.size w wr) (fun _ va _ _ _ => 8 * n + 6 - (intOf va).toNat)
 case atStart => exact ⟨0, Nat.zero_le _, rfl, World.ownsRow_nil _ _ _ _, Below.refl _ _⟩
 case round =>
  obtain ⟨i, hig, rfl, hown, hbel⟩ := hrel
  by_cases hlt : i < g
  ·have hlt8 : 6 * (i : Int) < 8 * (n : Int) := by have := HG.out; omega
   have hi6 : (i : Int) ≤ 133334 := by omega
   have HO := hid hown
   clear hown
   obtain ⟨w1, hw1⟩ : ∃ w1, w1 = wr := ⟨_, rfl⟩
   subst hw1
   go_wp2
   go_loopw [5, 6] (fun vn vk wr => ∃ j : Nat, j ≤ 6 ∧ vn = .int .i64 ((pre B (6 * i) j : Nat) : Int) ∧ vk = .int .i64 (6 * (i : Int) + (j : Int)) ∧ w1 = wr) (fun _ vk _ => 6 * i + 6 - (intOf vk).toNat)
   case atStart => exact ⟨0, by omega, rfl, by simp, rfl⟩
   case round =>
    obtain ⟨j, hj, rfl, rfl, rfl⟩ := hrel
    by_cases hlt2 : j < 6
    ·have hltI : 6 * (i : Int) + (j : Int) < 6 * (i : Int) + 6 := by omega
     obtain ⟨P, hP⟩ : ∃ P, P = 6 * i + j := ⟨_, rfl⟩
     have hPI : 6 * (i : Int) + (j : Int) = (P : Int) := by omega
     have hP1 : (P : Int) + 1 = 6 * (i : Int) + ((j + 1 : Nat) : Int) := by omega
     have hPm : (P : Int) ≤ 1000000 := by omega
     have hPl : (P : Int) < 6 * (i : Int) + 6 := by omega
     obtain ⟨y, hy⟩ : ∃ y, y = pre B (6 * i) j := ⟨_, rfl⟩
     have hy64 : y < 64 := by
      rw [hy]
      have h1 := ab2 B (6 * i) j
      have h2 : 2 ^ j ≤ 2 ^ 6 := Nat.pow_le_pow_right (by decide) (by omega)
      omega
     have HN : Hid (pre B (6 * i) (j + 1) = 2 * y + b2 (B.getD P false) 1) := by
      show _ = _
      rw [hP, hy]
      rfl
     rw [← hy]
     clear hy hP
     by_cases hin : (P : Int) < 8 * (n : Int)
     ·obtain ⟨gg, oo, hA2, hgg, _⟩ := HH.out.spot (by omega)
      have HH2 := HH.out
      rw [hA2] at HH2
      have hp8 : P / 8 < n := by omega
      obtain ⟨c, hx⟩ : ∃ c, c = L[P / 8]'(by rw [HL.out]; exact hp8) := ⟨_, rfl⟩
      have hcell : w1.cell? ⟨gg, oo + P / 8, none⟩ = some (.int .u8 (c.toNat : Int)) := by
       rw [hx, ← HH2.byte (P / 8) (by rw [HL.out]; exact hp8)]
       exact hbel.cell (p := ⟨gg, oo + P / 8, none⟩) hgg
      have hbit : B.getD P false = (c.toNat / 2 ^ (7 - P % 8) % 2 == 1) := by
       rw [HB.out]
       exact XL L P c (by rw [hx]; exact List.getElem?_eq_getElem _)
      clear HH2 hx
      cases hA2
      have hc256 := c.toNat_lt
      have hsh2 : (c.toNat : Int) / 2 ^ (7 - P % 8) = ((c.toNat / 2 ^ (7 - P % 8) : Nat) : Int) := by simp
      have hsh : (c.toNat : Int) / 2 ^ ((7 : Int) - ((P % 8 : Nat) : Int)).toNat = ((c.toNat / 2 ^ (7 - P % 8) : Nat) : Int) := by
       rw [show ((7 : Int) - ((P % 8 : Nat) : Int)).toNat = 7 - P % 8 by omega]
       simp
      have hx256 : c.toNat / 2 ^ (7 - P % 8) < 256 := Nat.lt_of_le_of_lt (Nat.div_le_self _ _) hc256
      obtain ⟨x, hxx⟩ : ∃ x, x = c.toNat / 2 ^ (7 - P % 8) := ⟨_, rfl⟩
      have hr8 : P % 8 < 8 := Nat.mod_lt _ (by decide)
      have e8 : (P : Int).tdiv 8 = ((P / 8 : Nat) : Int) := by rw [Int.tdiv_eq_ediv_of_nonneg (by omega)]; omega
      have e8' : (P : Int) / 8 = ((P / 8 : Nat) : Int) := by omega
      have f8 : (P : Int).tmod 8 = ((P % 8 : Nat) : Int) := by rw [Int.tmod_eq_emod_of_nonneg (by omega)]; omega
      have f8' : (P : Int) % 8 = ((P % 8 : Nat) : Int) := by omega
      rw [← hxx] at hsh hsh2 hx256 hbit
      clear hxx
      obtain ⟨p8, Bf⟩ : ∃ p8, p8 = P / 8 := ⟨_, rfl⟩
      obtain ⟨r8, Bg⟩ : ∃ r8, r8 = P % 8 := ⟨_, rfl⟩
      rw [← Bf] at hp8 hcell e8 e8'
      rw [← Bg] at hr8 hsh hsh2 f8 f8'
      clear Bf Bg
      have hand := and1u x hx256
      have hwx := B64F.Ee x hx256
      have hr7 : (r8 : Int) ≤ 7 := by omega
      have hr7' : (0 : Int) ≤ 7 - (r8 : Int) := by omega
      have hp8' : (p8 : Int) < (n : Int) := by omega
      rcases Nat.mod_two_eq_zero_or_one x with hx2 | hx2
      ·have hand2 : bits .and .u8 (x : Int) 1 = 0 := by rw [hand, hx2]; rfl
       have xk : Hid (pre B (6 * i) (j + 1) = 2 * y) := by
        show _ = _
        rw [HN.out, hbit, hx2]
        rfl
       clear hand hbit hx2
       go_wp2
       go_roundw
       case rel => exact ⟨j + 1, by omega, by first | (rw [xk.out]; rfl) | (rw [xk.out]; simp), congrArg (Value.int .i64) (by omega), trivial⟩
       case measure => simp [intOf]; omega
      ·have hand2 : bits .and .u8 (x : Int) 1 = 1 := by rw [hand, hx2]; rfl
       have xk : Hid (pre B (6 * i) (j + 1) = 2 * y + 1) := by
        show _ = _
        rw [HN.out, hbit, hx2]
        rfl
       clear hand hbit hx2
       go_wp2
       go_roundw
       case rel => exact ⟨j + 1, by omega, by first | (rw [xk.out]; rfl) | (rw [xk.out]; simp), congrArg (Value.int .i64) (by omega), trivial⟩
       case measure => simp [intOf]; omega
     ·have xk : Hid (pre B (6 * i) (j + 1) = 2 * y) := by
       show _ = _
       rw [HN.out, Il B P (by rw [HB.out, aa9, HL.out]; omega)]
       rfl
      go_wp2
      go_roundw
      case rel => exact ⟨j + 1, by omega, by first | (rw [xk.out]; rfl) | (rw [xk.out]; simp), congrArg (Value.int .i64) (by omega), trivial⟩
      case measure => simp [intOf]; omega
    ·obtain rfl : j = 6 := by omega
     have hs6 : pre B (6 * i) 6 < 64 := by
      have := ab2 B (6 * i) 6
      simpa using this
     have HSX : Hid ((body L).take (i + 1) = (body L).take i ++ [aT (pre B (6 * i) 6)]) := by
      show _ = _
      rw [List.take_succ_eq_append_getElem (by rw [iM.out]; exact hlt)]
      congr 2
      simp only [body, groups, List.getElem_map, List.getElem_range]
      rw [pre_six, HB.out]
     obtain ⟨y, hy⟩ : ∃ y, y = pre B (6 * i) 6 := ⟨_, rfl⟩
     rw [← hy] at hs6 HSX
     rw [← hy]
     clear hy
     have hown := HO.out
     have hgb : i ≤ 133334 := by omega
     go_wp2_with fail
     refine (MS.fB y hs6 _).mono ?_
     rintro e w4 ⟨rfl, rfl⟩
     go_wp2_with (at_builtin; refine bC rfl _ _ 30 rfl w.heap.size 5 i0 (.int .u8 0) 1 Tryz.underlying30 hi hz0 hz1 hz2 rfl _ i _ rfl hown hbel hbel.size [.int .u8 ((aT y).toNat : Int)] 1 rfl rfl (by intro u hu; simp at hu; subst hu; rfl) (by unfold maxLen; omega) (by omega) ?_)
     intro v' w5 hown5 qU
     clear hown hbel
     go_wp2
     go_roundw
     case rel => exact ⟨i + 1, by omega, by go_num, by rw [HSX.out, aX]; exact hown5, qU⟩
     case measure => simp [intOf]; omega
  ·obtain rfl : i = g := by omega
   have hlt8 : ¬ 6 * (i : Int) < 8 * (n : Int) := by have := HG.out; omega
   have HT : Hid ((body L).take i = body L) := by show _ = _; rw [← iM.out]; exact List.take_length
   rw [HT.out] at hown
   have hpd := ab1 L
   obtain ⟨d, hd⟩ : ∃ d, d = pd L := ⟨_, rfl⟩
   have hmod : (i + d) % 4 = 0 ∧ ∀ e, e < d → (i + e) % 4 ≠ 0 := by
    have h1 := HG.out
    have h2 := HL.out
    have h3 : d = if n % 3 = 0 then 0 else 3 - n % 3 := by rw [hd]; unfold pd; rw [h2]
    rcases (show n % 3 = 0 ∨ n % 3 = 1 ∨ n % 3 = 2 by omega) with h | h | h
    ·rw [h] at h3
     simp at h3
     exact ⟨by omega, fun e he => by omega⟩
    ·rw [h] at h3
     simp at h3
     exact ⟨by omega, fun e he => by omega⟩
    ·rw [h] at h3
     simp at h3
     exact ⟨by omega, fun e he => by omega⟩
   rw [← hd] at hpd
   have HD := hid hd
   have HMod := hid hmod
   clear hd hmod
   obtain ⟨w1, hw1⟩ : ∃ w1, w1 = wr := ⟨_, rfl⟩
   subst hw1
   go_wp2
   go_loopw [3] (fun v wr => ∃ e : Nat, e ≤ d ∧ wr.ownsRow w.heap.size 5 1 v (i + e) (ak (body L ++ List.replicate e 61)) ∧ Below w.heap.size w wr) (fun v _ => i + d - lenV v)
   case atStart => exact ⟨0, by omega, by simpa using hown, hbel⟩
   case round =>
    clear hown hbel
    obtain ⟨e, he, hown, hbel⟩ := hrel
    obtain ⟨A2, c2, hv, _, _, hrd⟩ := bZ hown
    subst hv
    by_cases hlt2 : e < d
    ·have hm4 := HMod.out.2 e hlt2
     have m1 : ¬ (((i + e : Nat) : Int)).tmod 4 = 0 := by rw [Int.tmod_eq_emod_of_nonneg (by omega)]; omega
     have m2 : ¬ ((i + e : Nat) : Int) % 4 = 0 := by omega
     obtain ⟨T, hT⟩ : ∃ T, T = i + e := ⟨_, rfl⟩
     rw [← hT] at hown m1 m2 hrd ⊢
     have hTm : T ≤ 133400 := by omega
     have HTT := hid hT
     have HRR : Hid (List.replicate (e + 1) (61 : UInt8) = List.replicate e 61 ++ [61]) := List.replicate_succ'
     clear hT hm4 hrd
     go_wp2_with (at_builtin; refine bC rfl _ _ 30 rfl w.heap.size 5 i0 (.int .u8 0) 1 Tryz.underlying30 hi hz0 hz1 hz2 rfl _ T _ rfl hown hbel hbel.size [.int .u8 61] 1 rfl rfl (by intro u hu; simp at hu; subst hu; rfl) (by unfold maxLen; omega) (by omega) ?_)
     intro v' w5 hown5 qU
     clear hown hbel
     obtain ⟨A5, c5, hv5, _, _, _⟩ := bZ hown5
     go_wp2
     go_roundw
     case rel => exact ⟨e + 1, by omega, by
      rw [HRR.out, ← List.append_assoc, aX, show i + (e + 1) = T + 1 by have := HTT.out; omega]
      exact hown5, qU⟩
     case measure => (have := HTT.out; subst hv5; simp [lenV]; omega)
    ·obtain rfl : e = d := by omega
     have hm4 := HMod.out.1
     have m1 : (((i + e : Nat) : Int)).tmod 4 = 0 := by rw [Int.tmod_eq_emod_of_nonneg (by omega)]; omega
     have m2 : ((i + e : Nat) : Int) % 4 = 0 := by omega
     have hE : body L ++ List.replicate e 61 = e64 L := by rw [HD.out]; exact (oq L).1.symm
     rw [hE] at hrd
     obtain ⟨T, hT⟩ : ∃ T, T = i + e := ⟨_, rfl⟩
     rw [← hT] at m1 m2 hrd ⊢
     have hst := aQ 30 9 5 Tryz.underlying30 Tryz.underlying5 Tryz.underlying9 _ c2 hrd
     clear hT hm4 hown hrd
     go_wp2
     go_ret
     exact ⟨rfl, hbel⟩
end Go.Proofs.YtcfgioklgmlclaaGreatDoor.B64H
