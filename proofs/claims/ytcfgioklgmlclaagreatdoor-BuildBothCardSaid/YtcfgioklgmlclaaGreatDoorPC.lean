/- Texts that belong together: xK, B64U, Aw, B64P, aad, MS. -/
import Derived.Test.YtcfgioklgmlclaaGreatDoorMA
set_option linter.unusedSimpArgs false
set_option linter.unusedVariables false
set_option maxRecDepth 100000
set_option maxHeartbeats 64000000
namespace Go.Proofs.YtcfgioklgmlclaaGreatDoor.xK
open Go.RowKit Base aP
def num (c : UInt8) : Int :=
 if 65 ≤ c.toNat ∧ c.toNat ≤ 90 then (c.toNat : Int) - 65
 else if 97 ≤ c.toNat ∧ c.toNat ≤ 122 then (c.toNat : Int) - 97 + 26
 else if 48 ≤ c.toNat ∧ c.toNat ≤ 57 then (c.toNat : Int) - 48 + 52
 else if c.toNat = 43 then 62 else if c.toNat = 47 then 63 else -1
theorem aZ (c : UInt8) (w : World) : Calls Tryz.prog 80 #[.int .u8 (c.toNat : Int)] w fun e w' => e = .returned (.int .i64 (num c)) ∧ w = w' := by
 have hc0 : (c.toNat : Int) < 256 := by have := c.toNat_lt; omega
 by_cases e1 : (c.toNat : Int) = 43
 ·go_enter Tryz.func80, Tryz.ntmps80
  go_wp2
  go_ret
  exact ⟨jW (by unfold num; (repeat' split) <;> omega), rfl⟩
 by_cases e2 : (c.toNat : Int) = 47
 ·go_enter Tryz.func80, Tryz.ntmps80
  go_wp2
  go_ret
  exact ⟨jW (by unfold num; (repeat' split) <;> omega), rfl⟩
 go_enter Tryz.func80, Tryz.ntmps80
 go_wp2
 all_goals
  go_ret
  exact ⟨jW (by unfold num; (repeat' split) <;> omega), rfl⟩
theorem lY (c : UInt8) : -1 ≤ num c ∧ num c < 64 := by
 unfold num
 (repeat' split) <;> omega
def blank (c : UInt8) : Bool := c.toNat == 9 || c.toNat == 10 || c.toNat == 12 || c.toNat == 13 || c.toNat == 32
def BP (L : List UInt8) : List UInt8 := L.filter fun c => !blank c
theorem Eb (L : List UInt8) (c : UInt8) : BP (L ++ [c]) = if blank c then BP L else BP L ++ [c] := by
 unfold BP
 rw [List.filter_append]
 cases h : blank c <;> simp [h]
theorem Ea (L : List UInt8) : (BP L).length ≤ L.length := List.length_filter_le _ _
theorem TA (s : ByteArray) (w : World) (hm : s.size ≤ 1073741824) :
  Calls Tryz.prog 79 #[.string s] w fun e w' => ∃ v, e = .returned v ∧ w'.ownsRow w.heap.size 5 1 v (BP s.data.toList).length (ak (BP s.data.toList)) ∧ Below w.heap.size w w' := by
 have hl : s.data.toList.length = s.size := Array.length_toList
 have HL := hid hl
 clear hl
 obtain ⟨i0, hi, hz0, hz1, hz2⟩ := info_parts jU
 go_enter Tryz.func79, Tryz.ntmps79
 go_wp2_with (at_make; refine wpList_make_own _ rfl _ _ 30 rfl w.heap.size 5 i0 (.int .u8 0) 1 Tryz.underlying30 hi hz0 hz1 .i64 .i64 _ s.size rfl rfl rfl (by rw [hz2]; omega) (by unfold maxLen; omega) (Nat.le_refl _) ?_)
 intro w1 hown1 hg1
 have gB : Below w.heap.size w w1 := (Below.refl _ _).grown hg1 (Nat.le_refl _) (by intro k h; cases h)
 clear hg1
 go_wp2
 go_loopw [3, 4] (fun v vk wr => ∃ (j : Nat), j ≤ s.size ∧ vk = .int .i64 j ∧ wr.ownsRow w.heap.size 5 1 v (BP (s.data.toList.take j)).length (ak (BP (s.data.toList.take j))) ∧ Below w.heap.size w wr) (fun _ vk _ => s.size - (intOf vk).toNat)
 case atStart => exact ⟨0, Nat.zero_le _, rfl, hown1, gB⟩
 case round =>
  clear hown1 gB
  obtain ⟨j, hj, rfl, hown, hbel⟩ := hrel
  by_cases hlt : j < s.size
  ·obtain ⟨c, hc⟩ : ∃ c, s[j] = c := ⟨_, rfl⟩
   have HS : Hid (s.data.toList.take (j + 1) = s.data.toList.take j ++ [c]) := by
    rw [← hc, List.take_succ_eq_append_getElem (by rw [HL.out]; exact hlt)]
    rfl
   have hle := Ea (s.data.toList.take j)
   have hle2 : (s.data.toList.take j).length ≤ j := List.length_take_le _ _
   obtain ⟨m, hmm⟩ : ∃ m, m = (BP (s.data.toList.take j)).length := ⟨_, rfl⟩
   rw [← hmm] at hle hown
   have HM := hid hmm
   clear hmm
   have hc0 : (c.toNat : Int) < 256 := by have := c.toNat_lt; omega
   by_cases hb : (c.toNat : Int) = 9 ∨ (c.toNat : Int) = 10 ∨ (c.toNat : Int) = 12 ∨ (c.toNat : Int) = 13 ∨ (c.toNat : Int) = 32
   ·have HB : Hid (blank c = true) := by
     show blank c = true
     unfold blank
     rcases hb with h | h | h | h | h <;> (have h' : c.toNat = _ := Int.ofNat_inj.1 h) <;> simp [h']
    have HE : Hid (BP (s.data.toList.take (j + 1)) = BP (s.data.toList.take j)) := by rw [HS.out, Eb, if_pos HB.out]; exact rfl
    clear HB
    rcases hb with h | h | h | h | h
    all_goals
     go_wp2
     go_roundw
     case rel => exact ⟨j + 1, by omega, by go_num, by rw [HE.out, ← HM.out]; exact hown, hbel⟩
     case measure => simp [intOf]; omega
   ·have b1 : ¬ (c.toNat : Int) = 9 := fun h => hb (by omega)
    have b2 : ¬ (c.toNat : Int) = 10 := fun h => hb (by omega)
    have b3 : ¬ (c.toNat : Int) = 12 := fun h => hb (by omega)
    have b4 : ¬ (c.toNat : Int) = 13 := fun h => hb (by omega)
    have b5 : ¬ (c.toNat : Int) = 32 := fun h => hb (by omega)
    have HB : Hid (blank c = false) := by
     show blank c = false
     unfold blank
     simp
     omega
    have HE : Hid (BP (s.data.toList.take (j + 1)) = BP (s.data.toList.take j) ++ [c]) := by rw [HS.out, Eb, if_neg (by rw [HB.out]; decide)]; exact rfl
    clear HB hb
    go_wp2_with (at_builtin; refine bC rfl _ _ 30 rfl w.heap.size 5 i0 (.int .u8 0) 1 Tryz.underlying30 hi hz0 hz1 hz2 rfl _ m _ rfl hown hbel hbel.size [.int .u8 (c.toNat : Int)] 1 rfl rfl (by intro u hu; simp at hu; subst hu; rfl) (by unfold maxLen; omega) (by omega) ?_)
    intro v' w2 hown2 gG
    clear hown hbel
    go_wp2
    go_roundw
    case rel => exact ⟨j + 1, by omega, by go_num, by
      rw [HE.out, List.length_append, aX, ← HM.out]
      exact hown2, gG⟩
    case measure => simp [intOf]; omega
  ·obtain rfl : j = s.size := by omega
   have HE : Hid (s.data.toList.take s.size = s.data.toList) := by
    rw [← HL.out]; exact List.take_length
   rw [HE.out] at hown
   go_wp2
   go_ret
   exact ⟨_, rfl, hown, hbel⟩
def strip (L : List UInt8) : List UInt8 := if L.getLast? = some 61 then L.dropLast else L
def oO (L : List UInt8) : List UInt8 := if L.length % 4 = 0 then strip (strip L) else L
theorem V3 (L : List UInt8) : ∃ m, m ≤ L.length ∧ strip L = L.take m := by
 unfold strip
 split
 ·exact ⟨L.length - 1, by omega, List.dropLast_eq_take⟩
 ·exact ⟨L.length, Nat.le_refl _, List.take_length.symm⟩
end Go.Proofs.YtcfgioklgmlclaaGreatDoor.xK
namespace Go.Proofs.YtcfgioklgmlclaaGreatDoor.B64U
open Go.RowKit Base aP xK
theorem strip_nil : strip [] = [] := rfl
theorem E5 (L : List UInt8) (c : UInt8) (hc : L.getLast? = some c) (e : c = 61) : strip L = L.take (L.length - 1) := by
 unfold strip
 rw [if_pos (by rw [hc, e]), List.dropLast_eq_take]
theorem D8 (L : List UInt8) (c : UInt8) (hc : L.getLast? = some c) (e : c ≠ 61) : strip L = L := by
 unfold strip
 rw [if_neg (by rw [hc]; simpa using e)]
theorem Z5 (A : Option Addr) (n cap : Nat) (L : List UInt8) (w : World) (h : dS w A n (ak L)) (hc : n ≤ cap) (hm : n ≤ 1073741824) :
  Calls Tryz.prog 78 #[.slice A n cap] w fun e w' => e = .returned (.slice A (oO L).length cap) ∧ dS w A (oO L).length (ak (oO L)) ∧ Below w.heap.size w w' := by
 have hl : L.length = n := by rw [← bF]; exact h.1
 have HL := hid hl
 have HH := hid h
 clear h hl
 by_cases h4 : n % 4 = 0
 ·have HU : Hid (oO L = strip (strip L)) := by
   show oO L = _
   unfold oO
   rw [if_pos (by rw [HL.out]; exact h4)]
  have h4' : ((n : Int).tmod 4) = 0 := by rw [Int.tmod_eq_emod_of_nonneg (by omega)]; omega
  have h4'' : (n : Int) % 4 = 0 := by omega
  go_enter Tryz.func78, Tryz.ntmps78
  go_wp2
  go_loopw [0, 8] (fun v vk wr => ∃ (k m : Nat) (M : List UInt8), k ≤ 2 ∧ vk = .int .i64 k ∧ v = .slice A m cap ∧ m ≤ n ∧ Hid (dS w A m (ak M)) ∧ Hid ((k = 0 ∧ M = L) ∨ (k = 1 ∧ M = strip L) ∨ (k = 2 ∧ M = strip (strip L))) ∧ Below w.heap.size w wr) (fun _ vk _ => 2 - (intOf vk).toNat)
  case atStart => exact ⟨0, n, L, by omega, rfl, rfl, Nat.le_refl _, HH, Or.inl ⟨rfl, rfl⟩, Below.refl _ _⟩
  case round =>
   obtain ⟨k, m, M, hk, rfl, rfl, hmn, HM, HC, hbel⟩ := hrel
   have hml : M.length = m := by rw [← bF]; exact HM.out.1
   by_cases hlt : k < 2
   ·by_cases hm0 : 0 < m
    ·obtain ⟨b, off, rfl, hb, _⟩ := (HM.out).spot hm0
     obtain ⟨c, hx⟩ : ∃ c, c = M[m - 1]'(by omega) := ⟨_, rfl⟩
     have hcell : wr.cell? ⟨b, off + (m - 1), none⟩ = some (.int .u8 (c.toNat : Int)) := by
      rw [hx, ← HM.out.byte (m - 1) (by omega)]
      exact hbel.cell (p := ⟨b, off + (m - 1), none⟩) hb
     have hidx : ((m : Int) - 1) = ((m - 1 : Nat) : Int) := by omega
     have hidx2 : ((m : Int) - 1).toNat = m - 1 := by omega
     have HX : Hid (M.getLast? = some c) := by
      show M.getLast? = some c
      rw [hx, List.getLast?_eq_getElem?, List.getElem?_eq_getElem (by omega)]
      congr 2
      omega
     have Yh := hid hml
     clear hx hml
     by_cases h61 : (c.toNat : Int) = 61
     ·have HS : Hid (strip M = M.take (m - 1)) := by
       have := E5 M c HX.out (UInt8.toNat_inj.1 (by simpa using Int.ofNat_inj.1 h61))
       rw [Yh.out] at this
       exact this
      go_wp2
      go_roundw
      case rel => exact ⟨k + 1, m - 1, M.take (m - 1), by omega, by go_num, by simp <;> omega, by omega, by rw [rV]; exact HM.out.upto (m - 1) (by omega), by
       show _ ∨ _
       rw [← HS.out]
       rcases HC.out with ⟨rfl, rfl⟩ | ⟨rfl, rfl⟩ | ⟨rfl, rfl⟩
       ·exact Or.inr (Or.inl ⟨rfl, rfl⟩)
       ·exact Or.inr (Or.inr ⟨rfl, rfl⟩)
       ·omega, hbel⟩
      case measure => simp [intOf]; omega
     ·have HS : Hid (strip M = M) := D8 M c HX.out (fun e => h61 (by rw [e]; rfl))
      go_wp2
      go_roundw
      case rel => exact ⟨k + 1, m, M, by omega, by go_num, rfl, by omega, HM, by
       show _ ∨ _
       rcases HC.out with ⟨rfl, rfl⟩ | ⟨rfl, rfl⟩ | ⟨rfl, rfl⟩
       ·exact Or.inr (Or.inl ⟨rfl, HS.out.symm⟩)
       ·refine Or.inr (Or.inr ⟨rfl, ?_⟩)
        rw [HS.out]
       ·omega, hbel⟩
      case measure => simp [intOf]; omega
    ·obtain rfl : m = 0 := by omega
     have HS : Hid (strip M = M) := by
      rw [List.eq_nil_of_length_eq_zero hml]
      exact strip_nil
     clear hml
     go_wp2
     go_roundw
     case rel => exact ⟨k + 1, 0, M, by omega, by go_num, rfl, by omega, HM, by
      show _ ∨ _
      rcases HC.out with ⟨rfl, rfl⟩ | ⟨rfl, rfl⟩ | ⟨rfl, rfl⟩
      ·exact Or.inr (Or.inl ⟨rfl, HS.out.symm⟩)
      ·refine Or.inr (Or.inr ⟨rfl, ?_⟩)
       rw [HS.out]
      ·omega, hbel⟩
     case measure => simp [intOf]; omega
   ·obtain rfl : k = 2 := by omega
    have HE : Hid (M = oO L) := by
     rw [HU.out]
     rcases HC.out with ⟨h, _⟩ | ⟨h, _⟩ | ⟨_, h⟩
     ·omega
     ·omega
     ·exact h
    have Yh : Hid ((oO L).length = m) := by rw [← HE.out]; exact hml
    clear hml
    go_wp2
    go_ret
    rw [Yh.out, ← HE.out]
    exact ⟨rfl, HM.out, hbel⟩
 ·have HU : Hid (oO L = L) := by
   show oO L = _
   unfold oO
   rw [if_neg (by rw [HL.out]; exact h4)]
  have h4' : ¬ ((n : Int).tmod 4) = 0 := by rw [Int.tmod_eq_emod_of_nonneg (by omega)]; omega
  have h4'' : ¬ (n : Int) % 4 = 0 := by omega
  go_enter Tryz.func78, Tryz.ntmps78
  go_wp2
  go_ret
  rw [HU.out, HL.out]
  exact ⟨rfl, HH.out, Below.refl _ _⟩
end Go.Proofs.YtcfgioklgmlclaaGreatDoor.B64U
namespace Go.Proofs.YtcfgioklgmlclaaGreatDoor.Aw
open Go.RowKit Base aP xK B64U
def feed (s : List UInt8 × Nat × Nat) (n : Nat) : List UInt8 × Nat × Nat :=
 if s.2.2 = 0 then (s.1, s.2.1 * 64 + n, 6) else (s.1 ++ [UInt8.ofNat ((s.2.1 * 64 + n) / 2 ^ (s.2.2 - 2))], (s.2.1 * 64 + n) % 2 ^ (s.2.2 - 2), s.2.2 - 2)
def runs (T : List UInt8) : List UInt8 × Nat × Nat := T.foldl (fun s c => feed s (num c).toNat) ([], 0, 0)
theorem ZJ (T : List UInt8) (c : UInt8) : runs (T ++ [c]) = feed (runs T) (num c).toNat := by simp [runs]
def Good (s : List UInt8 × Nat × Nat) : Prop := s.2.2 = 0 ∧ s.2.1 = 0 ∨ s.2.2 = 6 ∧ s.2.1 < 64 ∨ s.2.2 = 4 ∧ s.2.1 < 16 ∨ s.2.2 = 2 ∧ s.2.1 < 4
theorem YV (s : List UInt8 × Nat × Nat) (n : Nat) (h : Good s) (hn : n < 64) : Good (feed s n) := by
 obtain ⟨a, b, d⟩ := s
 unfold Good at h ⊢
 unfold feed
 simp only at h ⊢
 rcases h with ⟨rfl, rfl⟩ | ⟨rfl, h⟩ | ⟨rfl, h⟩ | ⟨rfl, h⟩ <;> simp <;> omega
theorem abS (s : List UInt8 × Nat × Nat) (n : Nat) : (feed s n).1.length ≤ s.1.length + 1 := by
 unfold feed
 split <;> simp
theorem YT (T : List UInt8) : ∀ s, Good s → (∀ c ∈ T, 0 ≤ num c) → Good (T.foldl (fun s c => feed s (num c).toNat) s) ∧ (T.foldl (fun s c => feed s (num c).toNat) s).1.length ≤ s.1.length + T.length := by
 induction T with
 | nil => intro s h _; exact ⟨h, Nat.le_refl _⟩
 | cons c T ih =>
  intro s h hz
  have hc := lY c
  have h1 := ih _ (YV s (num c).toNat h (by omega)) (fun x hx => hz x (by simp [hx]))
  have h2 := abS s (num c).toNat
  refine ⟨h1.1, ?_⟩
  have h3 := h1.2
  simp only [List.foldl_cons, List.length_cons] at h3 ⊢
  omega
theorem ZI (T : List UInt8) (h : ∀ c ∈ T, 0 ≤ num c) : Good (runs T) ∧ (runs T).1.length ≤ T.length := by
 have := YT T ([], 0, 0) (Or.inl ⟨rfl, rfl⟩) h
 exact ⟨this.1, by simpa [runs] using this.2⟩
theorem or6 (b z : Nat) (hb : b < 64) (hz : z < 64) : bits .or .i64 ((b : Int) * 64) (z : Int) = ((b * 64 + z : Nat) : Int) := by
 have H : ∀ (b : Fin 64) (z : Fin 64), bits .or .i64 ((b.val : Int) * 64) (z.val : Int) = ((b.val * 64 + z.val : Nat) : Int) := by decide +kernel
 exact H ⟨b, hb⟩ ⟨z, hz⟩
theorem and15' (x : Nat) (h : x < 4096) : bits .and .i64 (x : Int) 15 = ((x % 16 : Nat) : Int) := by
 have H : ∀ (a b : Fin 64), bits .and .i64 ((a.val * 64 + b.val : Nat) : Int) 15 = (((a.val * 64 + b.val) % 16 : Nat) : Int) := by decide +kernel
 have := H ⟨x / 64, by omega⟩ ⟨x % 64, by omega⟩
 simp only at this
 rwa [show x / 64 * 64 + x % 64 = x by omega] at this
theorem and3' (x : Nat) (h : x < 1024) : bits .and .i64 (x : Int) 3 = ((x % 4 : Nat) : Int) := by
 have H : ∀ (a : Fin 16) (b : Fin 64), bits .and .i64 ((a.val * 64 + b.val : Nat) : Int) 3 = (((a.val * 64 + b.val) % 4 : Nat) : Int) := by decide +kernel
 have := H ⟨x / 64, by omega⟩ ⟨x % 64, by omega⟩
 simp only at this
 rwa [show x / 64 * 64 + x % 64 = x by omega] at this
theorem and0' (x : Nat) (h : x < 256) : bits .and .i64 (x : Int) 0 = 0 := by
 have H : ∀ (x : Fin 256), bits .and .i64 (x.val : Int) 0 = 0 := by decide +kernel
 exact H ⟨x, h⟩
theorem gX (x : Nat) (h : x < 256) : ((UInt8.ofNat x).toNat : Int) = (x : Int) := by
 simp
 omega
def txt (L : List UInt8) : List UInt8 := oO (BP L)
def pY (L : List UInt8) : Bool := decide ((txt L).length % 4 ≠ 1 ∧ ∀ c ∈ txt L, 0 ≤ num c)
def dB (L : List UInt8) : List UInt8 := if pY L = true then (runs (txt L)).1 else []
theorem MI (L : List UInt8) : (strip L).length ≤ L.length := by
 obtain ⟨m, _, h⟩ := V3 L
 rw [h, List.length_take]
 omega
theorem XU (L : List UInt8) : (txt L).length ≤ L.length := by
 have := Ea L
 have h1 := MI (BP L)
 have h2 := MI (strip (BP L))
 unfold txt oO
 split <;> omega
theorem dB_len (L : List UInt8) : (dB L).length ≤ L.length := by
 unfold dB
 split
 ·rename_i h
  have := of_decide_eq_true h
  have h2 := (ZI (txt L) this.2).2
  have := XU L
  omega
 ·simp
theorem decode_any (s : ByteArray) (w : World) (hm : s.size ≤ 1073741824) :
  Calls Tryz.prog 34 #[.string s] w fun e w' => ∃ v, e = .returned (.tuple #[v, .bool (pY s.data.toList)]) ∧ w'.ownsRow w.heap.size 5 1 v (dB s.data.toList).length (ak (dB s.data.toList)) ∧ Below w.heap.size w w' := by
 have hl : s.data.toList.length = s.size := Array.length_toList
 obtain ⟨i0, hi, hz0, hz1, hz2⟩ := info_parts jU
 obtain ⟨L, hL⟩ : ∃ L, L = s.data.toList := ⟨_, rfl⟩
 have TI := hid hL
 have hul : (BP s.data.toList).length ≤ 1073741824 := by have := Ea s.data.toList; omega
 have htl : (txt L).length ≤ 1073741824 := by have := XU L; rw [hL] at this ⊢; omega
 rw [← hL] at hl hul ⊢
 clear hL hl
 have HUL := hid hul
 clear hul
 go_enter Tryz.func34, Tryz.ntmps34
 go_wp2_with fail
 refine (TA s _ hm).mono ?_
 rintro e w1 ⟨v1, rfl, hown1, hb1⟩
 rw [← TI.out] at hown1
 obtain ⟨A1, c1, rfl, hc1, hm1, hr1⟩ := bZ hown1
 have HR1 := hid hr1
 clear hown1 hr1
 go_wp2_with fail
 refine (Z5 A1 _ c1 (BP L) _ HR1.out hc1 HUL.out).mono ?_
 rintro e w2 ⟨rfl, hr2, hb2⟩
 have hr2' : dS w1 A1 (txt L).length (ak (txt L)) := hr2
 have HR2 := hid (hr2'.below hb2)
 clear hr2 hr2' HR1
 rw [show oO (BP L) = txt L from rfl]
 obtain ⟨T, hT⟩ : ∃ T, T = txt L := ⟨_, rfl⟩
 have HT := hid hT
 rw [← hT] at HR2 htl ⊢
 clear hT
 obtain ⟨m, hm2⟩ : ∃ m, m = T.length := ⟨_, rfl⟩
 have HM := hid hm2
 rw [← hm2] at HR2 htl ⊢
 clear hm2
 have gG : Below w.heap.size w w2 := bel hb1 hb2
 by_cases h4 : m % 4 = 1
 ·have HN : Hid (pY L = false) := by
   show pY L = false
   unfold pY
   rw [← HT.out, ← HM.out]
   simp [h4]
  have HB : Hid (dB L = []) := by
   show dB L = []
   unfold dB
   rw [HN.out]
   rfl
  have h4' : ((m : Int).tmod 4) = 1 := by rw [Int.tmod_eq_emod_of_nonneg (by omega)]; omega
  have h4'' : (m : Int) % 4 = 1 := by omega
  go_wp2
  go_ret2
  exact ⟨_, nR rfl (fF HN.out.symm), by rw [HB.out]; exact World.ownsRow_nil _ _ _ _, gG⟩
 ·have h4' : ¬ ((m : Int).tmod 4) = 1 := by rw [Int.tmod_eq_emod_of_nonneg (by omega)]; omega
  have h4'' : ¬ (m : Int) % 4 = 1 := by omega
  have hq : ((m : Int).tdiv 4) = ((m / 4 : Nat) : Int) := by rw [Int.tdiv_eq_ediv_of_nonneg (by omega)]; omega
  have hq2 : (m : Int) / 4 = ((m / 4 : Nat) : Int) := by omega
  have hq3 : m / 4 ≤ 268435456 := by omega
  obtain ⟨q, hqq⟩ : ∃ q, q = m / 4 := ⟨_, rfl⟩
  rw [← hqq] at hq hq2 hq3
  clear hqq
  go_wp2_with (at_make; refine wpList_make_own _ rfl _ _ 30 rfl w2.heap.size 5 i0 (.int .u8 0) 1 Tryz.underlying30 hi hz0 hz1 .i64 .i64 _ (q * 3 + 2) rfl rfl rfl (by rw [hz2]; omega) (by unfold maxLen; omega) (Nat.le_refl _) ?_)
  intro w3 hown3 hg3
  have dK : Below w2.heap.size w2 w3 := (Below.refl _ _).grown hg3 (Nat.le_refl _) (by intro k h; cases h)
  clear hg3 hq hq2 hq3 h4' h4''
  go_wp2
  go_loopw [5, 6, 7, 9, 10, 26] (fun v vb vh _ _ vk wr => ∃ (j b d : Nat) (X : List UInt8), j ≤ m ∧ vk = .int .i64 j ∧ vb = .int .i64 b ∧ vh = .int .i64 d ∧ (d = 0 ∧ b = 0 ∨ d = 6 ∧ b < 64 ∨ d = 4 ∧ b < 16 ∨ d = 2 ∧ b < 4) ∧ X.length ≤ j ∧ Hid (runs (T.take j) = (X, b, d)) ∧ Hid (∀ c ∈ T.take j, 0 ≤ num c) ∧ wr.ownsRow w2.heap.size 5 1 v X.length (ak X) ∧ Below w2.heap.size w2 wr) (fun _ _ _ _ _ vk _ => m - (intOf vk).toNat)
  case atStart => exact ⟨0, 0, 0, [], Nat.zero_le _, rfl, rfl, rfl, Or.inl ⟨rfl, rfl⟩, Nat.le_refl _, rfl, (fun c hc => by simp at hc), hown3, dK⟩
  case round =>
   clear hown3 dK
   obtain ⟨j, b, d, X, hj, rfl, rfl, rfl, hd, hX, HRU, HZ, hown, hbel⟩ := hrel
   by_cases hlt : j < m
   ·obtain ⟨g, off, rfl, hg, _⟩ := (HR2.out).spot (by omega)
    obtain ⟨c, hx⟩ : ∃ c, c = T[j]'(by rw [← HM.out]; exact hlt) := ⟨_, rfl⟩
    have hcell : wr.cell? ⟨g, off + j, none⟩ = some (.int .u8 (c.toNat : Int)) := by
     rw [hx, ← HR2.out.byte j (by rw [← HM.out]; exact hlt)]
     exact hbel.cell (p := ⟨g, off + j, none⟩) hg
    have HS : Hid (T.take (j + 1) = T.take j ++ [c]) := by
     rw [hx]
     exact List.take_succ_eq_append_getElem (by rw [← HM.out]; exact hlt)
    have Nb : Hid (c ∈ T) := by rw [hx]; exact List.getElem_mem _
    clear hx
    have hrg := lY c
    by_cases hn : num c < 0
    ·have hn' : num c = -1 := by omega
     have HNN := hid hn'
     have HN : Hid (pY L = false) := by
      show pY L = false
      unfold pY
      rw [decide_eq_false_iff_not]
      rintro ⟨_, h⟩
      have := h c (by rw [← HT.out]; exact Nb.out)
      omega
     have HB : Hid (dB L = []) := by
      show dB L = []
      unfold dB
      rw [HN.out]
      rfl
     clear hn hn' hrg
     go_wp2_with fail
     refine (aZ c _).mono ?_
     rintro e w4 ⟨rfl, rfl⟩
     rw [HNN.out]
     go_wp2
     go_ret2
     exact ⟨_, nR rfl (fF HN.out.symm), by rw [HB.out]; exact World.ownsRow_nil _ _ _ _, bel gG hbel⟩
    ·obtain ⟨z, hz⟩ : ∃ z : Nat, num c = (z : Int) := ⟨(num c).toNat, by omega⟩
     have Iy : z < 64 := by omega
     have HNZ := hid hz
     have HZ2 : Hid (∀ x ∈ T.take (j + 1), 0 ≤ num x) := by
      intro x hx
      rw [HS.out, List.mem_append] at hx
      rcases hx with hx | hx
      ·exact HZ.out x hx
      ·simp at hx
       subst hx
       omega
     have HF : Hid (runs (T.take (j + 1)) = feed (X, b, d) z) := by
      show runs _ = _
      rw [HS.out, ZJ, HRU.out, hz]
      rfl
     clear hn hrg hz
     have hor := or6 b z (by omega) Iy
     obtain ⟨x, hxx⟩ : ∃ x, x = b * 64 + z := ⟨_, rfl⟩
     rw [← hxx] at hor
     have HXX := hid hxx
     have hx1 : x < 4096 := by omega
     have hxd : (d = 4 → x < 1024) ∧ (d = 2 → x < 256) := by omega
     clear hxx
     go_wp2_with fail
     refine (aZ c _).mono ?_
     rintro e w4 ⟨rfl, rfl⟩
     rw [HNZ.out]
     rcases hd with ⟨rfl, rfl⟩ | ⟨rfl, hb⟩ | ⟨rfl, hb⟩ | ⟨rfl, hb⟩
     ·have hor0 : bits .or .i64 0 (z : Int) = (z : Int) := by
       have := or6 0 z (by omega) Iy
       simpa using this
      clear hor
      go_wp2
      go_roundw
      case rel => exact ⟨j + 1, z, 6, X, by omega, by go_num, by first | rfl | rw [hor0], rfl, Or.inr (Or.inl ⟨rfl, Iy⟩), by omega, by
       show runs _ = _
       rw [HF.out]
       simp [feed], HZ2, hown, hbel⟩
      case measure => simp [intOf]; omega
     ·have hand := and15' x hx1
      have hb8 : x < 4096 := by omega
      go_wp2_with (at_builtin; refine bC rfl _ _ 30 rfl w2.heap.size 5 i0 (.int .u8 0) 1 Tryz.underlying30 hi hz0 hz1 hz2 rfl _ X.length (ak X) rfl hown hbel hbel.size [.int .u8 ((x : Int) / 16)] 1 rfl rfl (by intro u hu; simp at hu; subst hu; rfl) (by unfold maxLen; omega) (by omega) ?_)
      intro v' w5 hown5 qU
      clear hown hbel
      go_wp2
      go_roundw
      case rel => exact ⟨j + 1, x % 16, 4, X ++ [UInt8.ofNat (x / 16)], by omega, by go_num, by first | rfl | go_num | (rw [hand]), rfl, Or.inr (Or.inr (Or.inl ⟨rfl, by omega⟩)), by simp; omega, by
       show runs _ = _
       rw [HF.out]
       simp [feed, ← HXX.out], HZ2, by
       have e := gX (x / 16) (by omega)
       rw [aX, List.length_append]
       simp only [ak, List.map_cons, List.map_nil, e]
       exact hown5, qU⟩
      case measure => simp [intOf]; omega
     ·have hand := and3' x (hxd.1 rfl)
      have hb8 : x < 1024 := by omega
      go_wp2_with (at_builtin; refine bC rfl _ _ 30 rfl w2.heap.size 5 i0 (.int .u8 0) 1 Tryz.underlying30 hi hz0 hz1 hz2 rfl _ X.length (ak X) rfl hown hbel hbel.size [.int .u8 ((x : Int) / 4)] 1 rfl rfl (by intro u hu; simp at hu; subst hu; rfl) (by unfold maxLen; omega) (by omega) ?_)
      intro v' w5 hown5 qU
      clear hown hbel
      go_wp2
      go_roundw
      case rel => exact ⟨j + 1, x % 4, 2, X ++ [UInt8.ofNat (x / 4)], by omega, by go_num, by first | rfl | go_num | (rw [hand]), rfl, Or.inr (Or.inr (Or.inr ⟨rfl, by omega⟩)), by simp; omega, by
       show runs _ = _
       rw [HF.out]
       simp [feed, ← HXX.out], HZ2, by
       have e := gX (x / 4) (by omega)
       rw [aX, List.length_append]
       simp only [ak, List.map_cons, List.map_nil, e]
       exact hown5, qU⟩
      case measure => simp [intOf]; omega
     ·have hand := and0' x (hxd.2 rfl)
      have hb8 : x < 256 := hxd.2 rfl
      go_wp2_with (at_builtin; refine bC rfl _ _ 30 rfl w2.heap.size 5 i0 (.int .u8 0) 1 Tryz.underlying30 hi hz0 hz1 hz2 rfl _ X.length (ak X) rfl hown hbel hbel.size [.int .u8 ((x : Int))] 1 rfl rfl (by intro u hu; simp at hu; subst hu; rfl) (by unfold maxLen; omega) (by omega) ?_)
      intro v' w5 hown5 qU
      clear hown hbel
      go_wp2
      go_roundw
      case rel => exact ⟨j + 1, 0, 0, X ++ [UInt8.ofNat (x)], by omega, by go_num, by first | rfl | go_num | (rw [hand]), rfl, Or.inl ⟨rfl, rfl⟩, by simp; omega, by
       show runs _ = _
       rw [HF.out]
       simp [feed, ← HXX.out] ; omega, HZ2, by
       have e := gX (x) (by omega)
       rw [aX, List.length_append]
       simp only [ak, List.map_cons, List.map_nil, e]
       exact hown5, qU⟩
      case measure => simp [intOf]; omega
   ·obtain rfl : j = m := by omega
    have HE : Hid (T.take j = T) := by rw [HM.out]; exact List.take_length
    rw [HE.out] at HRU HZ
    have HN : Hid (pY L = true) := by
     show pY L = true
     unfold pY
     rw [← HT.out, decide_eq_true_iff]
     exact ⟨by rw [← HM.out]; exact h4, HZ.out⟩
    have HB : Hid (dB L = X) := by
     show dB L = X
     unfold dB
     rw [HN.out, if_pos rfl, ← HT.out, HRU.out]
    go_wp2
    go_ret2
    exact ⟨_, nR rfl (fF HN.out.symm), by rw [HB.out]; exact aF hown gG.size, bel gG hbel⟩
end Go.Proofs.YtcfgioklgmlclaaGreatDoor.Aw
namespace Go.Proofs.YtcfgioklgmlclaaGreatDoor.B64P
open Go.RowKit Base aP xK Aw
def bitsOf (n : Nat) : List Bool := [n / 32 % 2 == 1, n / 16 % 2 == 1, n / 8 % 2 == 1, n / 4 % 2 == 1, n / 2 % 2 == 1, n % 2 == 1]
def b2 (b : Bool) (k : Nat) : Nat := if b then k else 0
def byteAt (B : List Bool) (j : Nat) : Nat :=
 b2 (B.getD (8 * j) false) 128 + b2 (B.getD (8 * j + 1) false) 64 + b2 (B.getD (8 * j + 2) false) 32 + b2 (B.getD (8 * j + 3) false) 16 +
 b2 (B.getD (8 * j + 4) false) 8 + b2 (B.getD (8 * j + 5) false) 4 + b2 (B.getD (8 * j + 6) false) 2 + b2 (B.getD (8 * j + 7) false) 1
def pack (B : List Bool) (m : Nat) : List UInt8 := (List.range m).map fun j => UInt8.ofNat (byteAt B j)
theorem nD (B : List Bool) (m : Nat) : (pack B m).length = m := by simp [pack]
theorem Fj (b : Bool) (k : Nat) : b2 b k ≤ k := by unfold b2; split <;> omega
theorem lX (B : List Bool) (j : Nat) : byteAt B j < 256 := by
 unfold byteAt
 have h0 := Fj (B.getD (8 * j) false) 128
 have h1 := Fj (B.getD (8 * j + 1) false) 64
 have h2 := Fj (B.getD (8 * j + 2) false) 32
 have h3 := Fj (B.getD (8 * j + 3) false) 16
 have h4 := Fj (B.getD (8 * j + 4) false) 8
 have h5 := Fj (B.getD (8 * j + 5) false) 4
 have h6 := Fj (B.getD (8 * j + 6) false) 2
 have h7 := Fj (B.getD (8 * j + 7) false) 1
 omega
theorem Il (B : List Bool) (i : Nat) (h : B.length ≤ i) : B.getD i false = false := by
 simp [List.getElem?_eq_none h]
theorem CP (k : Nat) : b2 false k = 0 := rfl
theorem Lm (B : List Bool) (b : Bool) (i : Nat) : (B ++ [b]).getD i false = if i = B.length then b else B.getD i false := by
 by_cases h : i < B.length
 ·rw [if_neg (by omega)]
  simp [List.getElem?_append_left h]
 ·by_cases e : i = B.length
  ·subst e; simp
  ·rw [if_neg e, Il B i (by omega), Il _ i (by simp; omega)]
theorem vU (B : List Bool) (b : Bool) (j : Nat) (h : j ≠ B.length / 8) : byteAt (B ++ [b]) j = byteAt B j := by
 unfold byteAt
 simp only [Lm]
 repeat rw [if_neg (by omega)]
theorem split8 (P : Nat) : P % 8 = 0 ∨ P % 8 = 1 ∨ P % 8 = 2 ∨ P % 8 = 3 ∨ P % 8 = 4 ∨ P % 8 = 5 ∨ P % 8 = 6 ∨ P % 8 = 7 := by omega
theorem lW (B : List Bool) (b : Bool) : byteAt (B ++ [b]) (B.length / 8) = byteAt B (B.length / 8) + b2 b (2 ^ (7 - B.length % 8)) ∧ byteAt B (B.length / 8) % 2 ^ (8 - B.length % 8) = 0 := by
 unfold byteAt
 simp only [Lm]
 rcases split8 B.length with h | h | h | h | h | h | h | h
 all_goals
  rw [h]
  have e : B.length = 8 * (B.length / 8) + B.length % 8 := by omega
  rw [h] at e
  generalize hq : B.length / 8 = q at *
  have z : ∀ i, B.length ≤ i → B.getD i false = false := fun i hi => Il B i hi
  constructor
  ·have c0 : (8 * q = B.length) = (B.length % 8 = 0) := by simp only [eq_iff_iff]; omega
   have c1 : (8 * q + 1 = B.length) = (B.length % 8 = 1) := by simp only [eq_iff_iff]; omega
   have c2 : (8 * q + 2 = B.length) = (B.length % 8 = 2) := by simp only [eq_iff_iff]; omega
   have c3 : (8 * q + 3 = B.length) = (B.length % 8 = 3) := by simp only [eq_iff_iff]; omega
   have c4 : (8 * q + 4 = B.length) = (B.length % 8 = 4) := by simp only [eq_iff_iff]; omega
   have c5 : (8 * q + 5 = B.length) = (B.length % 8 = 5) := by simp only [eq_iff_iff]; omega
   have c6 : (8 * q + 6 = B.length) = (B.length % 8 = 6) := by simp only [eq_iff_iff]; omega
   have c7 : (8 * q + 7 = B.length) = (B.length % 8 = 7) := by simp only [eq_iff_iff]; omega
   simp only [c0, c1, c2, c3, c4, c5, c6, c7, h]
   simp only [Nat.reduceEqDiff, reduceIte, Nat.reduceSub, Nat.reducePow]
   first
    | rw [z (8 * q + 7) (by omega)]
    | skip
   (try rw [z (8 * q) (by omega)])
   (try rw [z (8 * q + 1) (by omega)])
   (try rw [z (8 * q + 2) (by omega)])
   (try rw [z (8 * q + 3) (by omega)])
   (try rw [z (8 * q + 4) (by omega)])
   (try rw [z (8 * q + 5) (by omega)])
   (try rw [z (8 * q + 6) (by omega)])
   simp only [CP]
   omega
  ·(try rw [z (8 * q) (by omega)])
   (try rw [z (8 * q + 1) (by omega)])
   (try rw [z (8 * q + 2) (by omega)])
   (try rw [z (8 * q + 3) (by omega)])
   (try rw [z (8 * q + 4) (by omega)])
   (try rw [z (8 * q + 5) (by omega)])
   (try rw [z (8 * q + 6) (by omega)])
   (try rw [z (8 * q + 7) (by omega)])
   simp only [b2, Nat.reduceSub, Nat.reducePow]
   repeat' split
   all_goals first | omega | contradiction
theorem zF (B : List Bool) (b : Bool) (m : Nat) : pack (B ++ [b]) m = (pack B m).set (B.length / 8) (UInt8.ofNat (byteAt B (B.length / 8) + b2 b (2 ^ (7 - B.length % 8)))) := by
 apply List.ext_getElem
 ·simp [pack]
 ·intro i h1 h2
  rw [List.getElem_set]
  simp only [pack, List.getElem_map, List.getElem_range]
  by_cases e : B.length / 8 = i
  ·rw [if_pos e, ← e, (lW B b).1]
  ·rw [if_neg e, vU B b i (Ne.symm e)]
theorem zD (B : List Bool) (b : Bool) (m : Nat) (h : 8 * m ≤ B.length) : pack (B ++ [b]) m = pack B m := by
 unfold pack
 apply List.map_congr_left
 intro j hj
 rw [vU B b j (by simp at hj; omega)]
theorem yM (m : Nat) : pack [] m = List.replicate m 0 := by
 apply List.ext_getElem
 ·simp [pack]
 ·intro i h1 h2
  simp [pack, byteAt, b2]
def KU : List Nat → List UInt8
 | a :: b :: c :: d :: t => [UInt8.ofNat (a * 4 + b / 16), UInt8.ofNat (b % 16 * 16 + c / 4), UInt8.ofNat (c % 4 * 64 + d)] ++ KU t
 | [a, b, c] => [UInt8.ofNat (a * 4 + b / 16), UInt8.ofNat (b % 16 * 16 + c / 4)]
 | [a, b] => [UInt8.ofNat (a * 4 + b / 16)]
 | _ => []
def bW (N : List Nat) : List Bool := N.flatMap bitsOf
theorem yK (n : Nat) : (bitsOf n).length = 6 := rfl
theorem Gj (N : List Nat) : (bW N).length = 6 * N.length := by
 induction N with
 | nil => rfl
 | cons n N ih => simp only [bW, List.flatMap_cons, List.length_append, yK, List.length_cons] at ih ⊢; omega
theorem NV (X R : List Bool) (j : Nat) (h : X.length = 24) : byteAt (X ++ R) (j + 3) = byteAt R j := by
 have g : ∀ i, (X ++ R).getD (24 + i) false = R.getD i false := by
  intro i
  simp only [List.getD_eq_getElem?_getD]
  rw [List.getElem?_append_right (by omega)]
  congr 2
  omega
 unfold byteAt
 have e : 8 * (j + 3) = 24 + 8 * j := by omega
 rw [e]
 simp only [Nat.add_assoc, g]
theorem Vp (X R : List Bool) (m : Nat) (h : X.length = 24) : pack (X ++ R) (m + 3) = [UInt8.ofNat (byteAt (X ++ R) 0), UInt8.ofNat (byteAt (X ++ R) 1), UInt8.ofNat (byteAt (X ++ R) 2)] ++ pack R m := by
 unfold pack
 have e : List.range (m + 3) = [0, 1, 2] ++ (List.range m).map (· + 3) := by
  rw [Nat.add_comm m 3, List.range_add]
  congr 1
  apply List.map_congr_left
  intro a _
  omega
 rw [e, List.map_append, List.map_map]
 congr 1
 apply List.map_congr_left
 intro j _
 simp only [Function.comp]
 rw [NV X R j h]
theorem vS (n k : Nat) : b2 (n % 2 == 1) k = n % 2 * k := by
 unfold b2
 rcases Nat.mod_two_eq_zero_or_one n with h | h <;> simp [h]
theorem abk (a b : Nat) (R : List Bool) (_ha : a < 64) (_hb : b < 64) : byteAt (bitsOf a ++ (bitsOf b ++ R)) 0 = a * 4 + b / 16 := by
 unfold byteAt bitsOf
 simp only [List.cons_append, List.nil_append, List.getD_cons_zero, List.getD_cons_succ, Nat.mul_zero, Nat.zero_add, vS]
 omega
theorem byte1 (a b c : Nat) (R : List Bool) (_ha : a < 64) (_hb : b < 64) (_hc : c < 64) : byteAt (bitsOf a ++ (bitsOf b ++ (bitsOf c ++ R))) 1 = b % 16 * 16 + c / 4 := by
 unfold byteAt bitsOf
 simp only [List.cons_append, List.nil_append, List.getD_cons_zero, List.getD_cons_succ, Nat.mul_one, Nat.reduceAdd, vS]
 omega
theorem byte2 (a b c d : Nat) (R : List Bool) (ha : a < 64) (hb : b < 64) (hc : c < 64) (hd : d < 64) : byteAt (bitsOf a ++ (bitsOf b ++ (bitsOf c ++ (bitsOf d ++ R)))) 2 = c % 4 * 64 + d := by
 unfold byteAt bitsOf
 simp only [List.cons_append, List.nil_append, List.getD_cons_zero, List.getD_cons_succ, Nat.reduceMul, Nat.reduceAdd, vS]
 omega
theorem RJ (N : List Nat) (h : ∀ n ∈ N, n < 64) : pack (bW N) (6 * N.length / 8) = KU N := by
 have H : ∀ (k : Nat) (N : List Nat), N.length ≤ k → (∀ n ∈ N, n < 64) → pack (bW N) (6 * N.length / 8) = KU N := by
  intro k
  induction k with
  | zero => intro N h _; obtain rfl : N = [] := List.eq_nil_of_length_eq_zero (by omega); rfl
  | succ k ih =>
   intro N hl h
   match N, hl, h with
   | [], _, _ => rfl
   | [a], _, _ => simp [pack, KU]
   | [a, b], _, h =>
    have ha := h a (by simp)
    have hb := h b (by simp)
    have e0 : 6 * [a, b].length / 8 = 1 := by simp
    have e : bW [a, b] = bitsOf a ++ (bitsOf b ++ []) := by simp [bW]
    rw [e, e0]
    simp only [pack, KU, List.range_succ, List.range_zero, List.nil_append, List.map_cons, List.map_nil]
    rw [abk a b _ ha hb]
   | [a, b, c], _, h =>
    have ha := h a (by simp)
    have hb := h b (by simp)
    have hc := h c (by simp)
    have e0 : 6 * [a, b, c].length / 8 = 2 := by simp
    have e : bW [a, b, c] = bitsOf a ++ (bitsOf b ++ (bitsOf c ++ [])) := by simp [bW]
    rw [e, e0]
    simp only [pack, KU, List.range_succ, List.range_zero, List.nil_append, List.cons_append, List.map_cons, List.map_nil]
    rw [abk a b _ ha hb, byte1 a b c _ ha hb hc]
   | a :: b :: c :: d :: t, hl, h =>
    have ha := h a (by simp)
    have hb := h b (by simp)
    have hc := h c (by simp)
    have hd := h d (by simp)
    have ht := ih t (by simp at hl; omega) (fun n hn => h n (by simp [hn]))
    have e : bW (a :: b :: c :: d :: t) = (bitsOf a ++ (bitsOf b ++ (bitsOf c ++ bitsOf d))) ++ bW t := by simp [bW]
    have e2 : 6 * (a :: b :: c :: d :: t).length / 8 = 6 * t.length / 8 + 3 := by simp only [List.length_cons]; omega
    rw [e, e2, Vp _ _ _ rfl, ht, KU]
    have e3 : (bitsOf a ++ (bitsOf b ++ (bitsOf c ++ bitsOf d))) ++ bW t = bitsOf a ++ (bitsOf b ++ (bitsOf c ++ (bitsOf d ++ bW t))) := by simp
    rw [e3, abk a b _ ha hb, byte1 a b c _ ha hb hc, byte2 a b c d _ ha hb hc hd]
 exact H _ N (Nat.le_refl _) h
def nums (T : List UInt8) : List Nat := T.map fun c => (num c).toNat
theorem Xc (X : List UInt8) (a : Nat) : feed (X, 0, 0) a = (X, a, 6) := by simp [feed]
theorem abR (X : List UInt8) (a b : Nat) : feed (X, a, 6) b = (X ++ [UInt8.ofNat (a * 4 + b / 16)], b % 16, 4) := by
 have e1 : (a * 64 + b) / 16 = a * 4 + b / 16 := by omega
 have e2 : (a * 64 + b) % 16 = b % 16 := by omega
 unfold feed
 simp only [show (6 : Nat) ≠ 0 by decide, if_false, show (2 : Nat) ^ (6 - 2) = 16 by decide, e1, e2]
theorem feed4 (X : List UInt8) (b c : Nat) : feed (X, b % 16, 4) c = (X ++ [UInt8.ofNat (b % 16 * 16 + c / 4)], c % 4, 2) := by
 have e1 : (b % 16 * 64 + c) / 4 = b % 16 * 16 + c / 4 := by omega
 have e2 : (b % 16 * 64 + c) % 4 = c % 4 := by omega
 unfold feed
 simp only [show (4 : Nat) ≠ 0 by decide, if_false, show (2 : Nat) ^ (4 - 2) = 4 by decide, e1, e2]
theorem feed2 (X : List UInt8) (c d : Nat) : feed (X, c % 4, 2) d = (X ++ [UInt8.ofNat (c % 4 * 64 + d)], 0, 0) := by
 unfold feed
 simp only [show (2 : Nat) ≠ 0 by decide, if_false, show (2 : Nat) ^ (2 - 2) = 1 by decide, Nat.div_one, Nat.mod_one]
theorem abU : ∀ (k : Nat) (N : List Nat) (X : List UInt8), N.length ≤ k → (N.foldl feed (X, 0, 0)).1 = X ++ KU N := by
 intro k
 induction k with
 | zero => intro N X h; obtain rfl : N = [] := List.eq_nil_of_length_eq_zero (by omega); simp [KU]
 | succ k ih =>
  intro N X hl
  match N, hl with
  | [], _ => simp [KU]
  | [a], _ => simp only [List.foldl_cons, List.foldl_nil, Xc, KU, List.append_nil]
  | [a, b], _ => simp only [List.foldl_cons, List.foldl_nil, Xc, abR, KU]
  | [a, b, c], _ => simp only [List.foldl_cons, List.foldl_nil, Xc, abR, feed4, KU, List.append_assoc, List.cons_append, List.nil_append]
  | a :: b :: c :: d :: t, hl =>
   simp only [List.foldl_cons, Xc, abR, feed4, feed2]
   rw [ih t _ (by simp at hl; omega)]
   simp only [KU, List.append_assoc, List.cons_append, List.nil_append]
theorem Xu (T : List UInt8) (h : ∀ c ∈ T, 0 ≤ num c) : ∀ n ∈ nums T, n < 64 := by
 intro n hn
 simp only [nums, List.mem_map] at hn
 obtain ⟨c, hc, rfl⟩ := hn
 have := lY c
 have := h c hc
 omega
theorem qw (T : List UInt8) (h : ∀ c ∈ T, 0 ≤ num c) : pack (bW (nums T)) (6 * T.length / 8) = (runs T).1 := by
 have e := abU _ (nums T) [] (Nat.le_refl _)
 have e2 := RJ (nums T) (Xu T h)
 rw [show (nums T).length = T.length by simp [nums]] at e2
 rw [e2]
 unfold runs
 rw [List.nil_append] at e
 rw [← e]
 unfold nums
 rw [List.foldl_map]
end Go.Proofs.YtcfgioklgmlclaaGreatDoor.B64P
namespace Go.Proofs.YtcfgioklgmlclaaGreatDoor.aad
open Go.RowKit Base aP uf fZ
def aT (n : Nat) : UInt8 := if n < 26 then UInt8.ofNat (65 + n) else if n < 52 then UInt8.ofNat (71 + n) else if n < 62 then UInt8.ofNat (n - 4) else if n = 62 then 43 else 47
def e64 : List UInt8 → List UInt8
 | [] => []
 | [a] => [aT (a.toNat / 4), aT (a.toNat % 4 * 16), 61, 61]
 | [a, b] => [aT (a.toNat / 4), aT (a.toNat % 4 * 16 + b.toNat / 16), aT (b.toNat % 16 * 4), 61]
 | a :: b :: c :: t => [aT (a.toNat / 4), aT (a.toNat % 4 * 16 + b.toNat / 16), aT (b.toNat % 16 * 4 + c.toNat / 64), aT (c.toNat % 64)] ++ e64 t
theorem let_at (k : Nat) (h : k < (⟨#[65, 66, 67, 68, 69, 70, 71, 72, 73, 74, 75, 76, 77, 78, 79, 80, 81, 82, 83, 84, 85, 86, 87, 88, 89, 90, 97, 98, 99, 100, 101, 102, 103, 104, 105, 106, 107, 108, 109, 110, 111, 112, 113, 114, 115, 116, 117, 118, 119, 120, 121, 122, 48, 49, 50, 51, 52, 53, 54, 55, 56, 57, 43, 47]⟩ : ByteArray).size) : (⟨#[65, 66, 67, 68, 69, 70, 71, 72, 73, 74, 75, 76, 77, 78, 79, 80, 81, 82, 83, 84, 85, 86, 87, 88, 89, 90, 97, 98, 99, 100, 101, 102, 103, 104, 105, 106, 107, 108, 109, 110, 111, 112, 113, 114, 115, 116, 117, 118, 119, 120, 121, 122, 48, 49, 50, 51, 52, 53, 54, 55, 56, 57, 43, 47]⟩ : ByteArray)[k]'h = aT k := by
 have H : ∀ k : Fin 64, (⟨#[65, 66, 67, 68, 69, 70, 71, 72, 73, 74, 75, 76, 77, 78, 79, 80, 81, 82, 83, 84, 85, 86, 87, 88, 89, 90, 97, 98, 99, 100, 101, 102, 103, 104, 105, 106, 107, 108, 109, 110, 111, 112, 113, 114, 115, 116, 117, 118, 119, 120, 121, 122, 48, 49, 50, 51, 52, 53, 54, 55, 56, 57, 43, 47]⟩ : ByteArray)[k.val]'k.isLt = aT k.val := by decide +kernel
 exact H ⟨k, h⟩
theorem qj (z : Int) (k : Nat) (h0 : z = (k : Int)) (_hk : k < 64) (h : z.toNat < (⟨#[65, 66, 67, 68, 69, 70, 71, 72, 73, 74, 75, 76, 77, 78, 79, 80, 81, 82, 83, 84, 85, 86, 87, 88, 89, 90, 97, 98, 99, 100, 101, 102, 103, 104, 105, 106, 107, 108, 109, 110, 111, 112, 113, 114, 115, 116, 117, 118, 119, 120, 121, 122, 48, 49, 50, 51, 52, 53, 54, 55, 56, 57, 43, 47]⟩ : ByteArray).size) : (⟨#[65, 66, 67, 68, 69, 70, 71, 72, 73, 74, 75, 76, 77, 78, 79, 80, 81, 82, 83, 84, 85, 86, 87, 88, 89, 90, 97, 98, 99, 100, 101, 102, 103, 104, 105, 106, 107, 108, 109, 110, 111, 112, 113, 114, 115, 116, 117, 118, 119, 120, 121, 122, 48, 49, 50, 51, 52, 53, 54, 55, 56, 57, 43, 47]⟩ : ByteArray)[z.toNat]'h = aT k := by
 subst h0
 exact let_at k h
theorem and3 (c : UInt8) : bits .and .u8 (c.toNat : Int) 3 = (c.toNat : Int) % 4 := by
 have H : ∀ n : Fin 256, bits .and .u8 (n.val : Int) 3 = (n.val : Int) % 4 := by decide +kernel
 exact H ⟨c.toNat, c.toNat_lt⟩
theorem and63 (c : UInt8) : bits .and .u8 (c.toNat : Int) 63 = (c.toNat : Int) % 64 := by
 have H : ∀ n : Fin 256, bits .and .u8 (n.val : Int) 63 = (n.val : Int) % 64 := by decide +kernel
 exact H ⟨c.toNat, c.toNat_lt⟩
theorem or4 (x y : Nat) (hx : x < 4) (hy : y < 16) : bits .or .u8 ((x : Int) * 16) (y : Int) = (x : Int) * 16 + y := by
 have H : ∀ (x : Fin 4) (y : Fin 16), bits .or .u8 ((x.val : Int) * 16) (y.val : Int) = (x.val : Int) * 16 + y.val := by decide +kernel
 exact H ⟨x, hx⟩ ⟨y, hy⟩
theorem or2 (x y : Nat) (hx : x < 16) (hy : y < 4) : bits .or .u8 ((x : Int) * 4) (y : Int) = (x : Int) * 4 + y := by
 have H : ∀ (x : Fin 16) (y : Fin 4), bits .or .u8 ((x.val : Int) * 4) (y.val : Int) = (x.val : Int) * 4 + y.val := by decide +kernel
 exact H ⟨x, hx⟩ ⟨y, hy⟩
theorem or_ab (a b : UInt8) : bits .or .u8 ((a.toNat : Int) % 4 * 16) ((b.toNat : Int) / 16) = (a.toNat : Int) % 4 * 16 + (b.toNat : Int) / 16 := by
 have := or4 (a.toNat % 4) (b.toNat / 16) (by omega) (by have := b.toNat_lt; omega)
 simpa using this
theorem or_bc (b c : UInt8) : bits .or .u8 ((b.toNat : Int) % 16 * 4) ((c.toNat : Int) / 64) = (b.toNat : Int) % 16 * 4 + (c.toNat : Int) / 64 := by
 have := or2 (b.toNat % 16) (c.toNat / 64) (by omega) (by have := c.toNat_lt; omega)
 simpa using this
theorem Wq (a : UInt8) : IntKind.u8.wrap ((a.toNat : Int) % 4 * 16) = (a.toNat : Int) % 4 * 16 := by
 have H : ∀ n : Fin 256, IntKind.u8.wrap ((n.val : Int) % 4 * 16) = (n.val : Int) % 4 * 16 := by decide +kernel
 exact H ⟨a.toNat, a.toNat_lt⟩
theorem aeg (b : UInt8) : IntKind.u8.wrap ((b.toNat : Int) % 16 * 4) = (b.toNat : Int) % 16 * 4 := by
 have H : ∀ n : Fin 256, IntKind.u8.wrap ((n.val : Int) % 16 * 4) = (n.val : Int) % 16 * 4 := by decide +kernel
 exact H ⟨b.toNat, b.toNat_lt⟩
def EH : Value → Nat | .slice _ n _ => n | _ => 0
theorem aal (L : List UInt8) : (e64 L).length = (L.length + 2) / 3 * 4 := by
 have H : ∀ (n : Nat) (L : List UInt8), L.length ≤ n → (e64 L).length = (L.length + 2) / 3 * 4 := by
  intro n
  induction n with
  | zero => intro L h; obtain rfl : L = [] := List.eq_nil_of_length_eq_zero (by omega); rfl
  | succ n ih =>
   intro L h
   match L with
   | [] => rfl
   | [a] => simp [e64]
   | [a, b] => simp [e64]
   | a :: b :: c :: t =>
    have := ih t (by simp at h; omega)
    simp only [e64, List.length_append, List.length_cons, List.length_nil, this]
    omega
 exact H _ L (Nat.le_refl _)
theorem three {M : List UInt8} (h : 3 ≤ M.length) : ∃ a b c t, M = a :: b :: c :: t := by
 match M, h with
 | a :: b :: c :: t, _ => exact ⟨a, b, c, t, rfl⟩
theorem one_of {M : List UInt8} (h : M.length = 1) : ∃ a, M = [a] := by
 match M, h with
 | [a], _ => exact ⟨a, rfl⟩
theorem Pv {M : List UInt8} (h : M.length = 2) : ∃ a b, M = [a, b] := by
 match M, h with
 | [a, b], _ => exact ⟨a, b, rfl⟩
theorem fM (A : Option Addr) (n cap : Nat) (L : List UInt8) (w : World) (h : dS w A n (ak L)) (hc : n ≤ cap) (hm : n ≤ 1073741824) :
  Calls Tryz.prog 110 #[.slice A n cap] w fun e w' => e = .returned (.string (strOf (e64 L))) ∧ Below w.heap.size w w' := by
 obtain ⟨i0, hi, hz0, hz1, hz2⟩ := info_parts jU
 have HH := hid h
 clear h
 have hq : ((n : Int) + 2).tdiv 3 = (((n + 2) / 3 : Nat) : Int) := by rw [Int.tdiv_eq_ediv_of_nonneg (by omega)]; omega
 have hq2 : ((n : Int) + 2) / 3 = (((n + 2) / 3 : Nat) : Int) := by omega
 have hq3 : (n + 2) / 3 ≤ 536870912 := by omega
 obtain ⟨q, hqq⟩ : ∃ q, q = (n + 2) / 3 := ⟨_, rfl⟩
 rw [← hqq] at hq hq2 hq3
 clear hqq
 go_enter Tryz.func110, Tryz.ntmps110
 go_wp2_with (at_make; refine wpList_make_own _ rfl _ _ 30 rfl w.heap.size 5 i0 (.int .u8 0) 1 Tryz.underlying30 hi hz0 hz1 .i64 .i64 _ (q * 4) rfl rfl rfl (by rw [hz2]; omega) (by unfold maxLen; omega) (Nat.le_refl _) ?_)
 intro w1 hown1 hg1
 have gB : Below w.heap.size w w1 := (Below.refl _ _).grown hg1 (Nat.le_refl _) (by intro k h; cases h)
 clear hg1 hq hq2
 go_wp2
 go_loopw [0, 3] (fun vs v wr => ∃ (m c : Nat) (Ak : Option Addr) (M X : List UInt8), m ≤ n ∧ m ≤ c ∧ vs = .slice Ak m c ∧ X.length + 2 * m ≤ 2 * n ∧ Hid (dS w Ak m (ak M)) ∧ Hid (X ++ e64 M = e64 L) ∧ wr.ownsRow w.heap.size 5 1 v X.length (ak X) ∧ Below w.heap.size w wr) (fun vs _ _ => EH vs)
 case atStart => exact ⟨n, cap, A, L, [], Nat.le_refl _, hc, rfl, by simp, HH, rfl, hown1, gB⟩
 case round =>
  clear hown1 gB HH hc
  obtain ⟨m, cp, Ak, M, X, hmn, hmc, rfl, hX, HM, HE, hown, hbel⟩ := hrel
  have hml : M.length = m := by rw [← bF]; exact HM.out.1
  by_cases h3 : 3 ≤ m
  ·obtain ⟨g, off, rfl, hg, _⟩ := (HM.out).spot (by omega)
   obtain ⟨a, b, c, tt, hMM⟩ := three (M := M) (by omega)
   subst hMM
   have hgr : g < wr.heap.size := Nat.lt_of_lt_of_le hg hbel.size
   have hc0 : wr.cell? ⟨g, off, none⟩ = some (.int .u8 (a.toNat : Int)) := (hbel.cell (p := ⟨g, off + 0, none⟩) hg).trans (HM.out.byte 0 (by simp))
   have hc1 : wr.cell? ⟨g, off + 1, none⟩ = some (.int .u8 (b.toNat : Int)) := (hbel.cell (p := ⟨g, off + 1, none⟩) hg).trans (HM.out.byte 1 (by simp))
   have hc2 : wr.cell? ⟨g, off + 2, none⟩ = some (.int .u8 (c.toNat : Int)) := (hbel.cell (p := ⟨g, off + 2, none⟩) hg).trans (HM.out.byte 2 (by simp))
   have Yh := hid hml
   clear hml
   have HE2 : Hid ((X ++ [aT (a.toNat / 4), aT (a.toNat % 4 * 16 + b.toNat / 16), aT (b.toNat % 16 * 4 + c.toNat / 64), aT (c.toNat % 64)]) ++ e64 tt = e64 L) := by
    have := HE.out
    rw [e64, ← List.append_assoc] at this
    exact this
   have HCut : Hid (dS w (some ⟨g, off + 3, none⟩) (m - 3) (ak tt)) := by
    have := HM.out.cut 3 h3
    exact this
   have ba : (a.toNat : Int) < 256 := by have := a.toNat_lt; omega
   have bb : (b.toNat : Int) < 256 := by have := b.toNat_lt; omega
   have bc : (c.toNat : Int) < 256 := by have := c.toNat_lt; omega
   have o1 := or_ab a b
   have o2 := or_bc b c
   have o3 := and3 a
   have o4 := QG b
   have o5 := and63 c
   have o6 := Wq a
   have o7 := aeg b
   have x0 : (0 : Int) ≤ (a.toNat : Int) / 4 := by omega
   have x1 : (a.toNat : Int) / 4 < 64 := by omega
   have x2 : ∀ h, (⟨#[65, 66, 67, 68, 69, 70, 71, 72, 73, 74, 75, 76, 77, 78, 79, 80, 81, 82, 83, 84, 85, 86, 87, 88, 89, 90, 97, 98, 99, 100, 101, 102, 103, 104, 105, 106, 107, 108, 109, 110, 111, 112, 113, 114, 115, 116, 117, 118, 119, 120, 121, 122, 48, 49, 50, 51, 52, 53, 54, 55, 56, 57, 43, 47]⟩ : ByteArray)[((a.toNat : Int) / 4).toNat]'h = aT (a.toNat / 4) := fun h => qj _ (a.toNat / 4) (by omega) (by omega) h
   have y0 : (0 : Int) ≤ (a.toNat : Int) % 4 * 16 + (b.toNat : Int) / 16 := by omega
   have y1 : (a.toNat : Int) % 4 * 16 + (b.toNat : Int) / 16 < 64 := by omega
   have y2 : ∀ h, (⟨#[65, 66, 67, 68, 69, 70, 71, 72, 73, 74, 75, 76, 77, 78, 79, 80, 81, 82, 83, 84, 85, 86, 87, 88, 89, 90, 97, 98, 99, 100, 101, 102, 103, 104, 105, 106, 107, 108, 109, 110, 111, 112, 113, 114, 115, 116, 117, 118, 119, 120, 121, 122, 48, 49, 50, 51, 52, 53, 54, 55, 56, 57, 43, 47]⟩ : ByteArray)[((a.toNat : Int) % 4 * 16 + (b.toNat : Int) / 16).toNat]'h = aT (a.toNat % 4 * 16 + b.toNat / 16) := fun h => qj _ (a.toNat % 4 * 16 + b.toNat / 16) (by omega) (by omega) h
   have z0 : (0 : Int) ≤ (b.toNat : Int) % 16 * 4 + (c.toNat : Int) / 64 := by omega
   have z1 : (b.toNat : Int) % 16 * 4 + (c.toNat : Int) / 64 < 64 := by omega
   have z2 : ∀ h, (⟨#[65, 66, 67, 68, 69, 70, 71, 72, 73, 74, 75, 76, 77, 78, 79, 80, 81, 82, 83, 84, 85, 86, 87, 88, 89, 90, 97, 98, 99, 100, 101, 102, 103, 104, 105, 106, 107, 108, 109, 110, 111, 112, 113, 114, 115, 116, 117, 118, 119, 120, 121, 122, 48, 49, 50, 51, 52, 53, 54, 55, 56, 57, 43, 47]⟩ : ByteArray)[((b.toNat : Int) % 16 * 4 + (c.toNat : Int) / 64).toNat]'h = aT (b.toNat % 16 * 4 + c.toNat / 64) := fun h => qj _ (b.toNat % 16 * 4 + c.toNat / 64) (by omega) (by omega) h
   have u0 : (0 : Int) ≤ (c.toNat : Int) % 64 := by omega
   have u1 : (c.toNat : Int) % 64 < 64 := by omega
   have u2 : ∀ h, (⟨#[65, 66, 67, 68, 69, 70, 71, 72, 73, 74, 75, 76, 77, 78, 79, 80, 81, 82, 83, 84, 85, 86, 87, 88, 89, 90, 97, 98, 99, 100, 101, 102, 103, 104, 105, 106, 107, 108, 109, 110, 111, 112, 113, 114, 115, 116, 117, 118, 119, 120, 121, 122, 48, 49, 50, 51, 52, 53, 54, 55, 56, 57, 43, 47]⟩ : ByteArray)[((c.toNat : Int) % 64).toNat]'h = aT (c.toNat % 64) := fun h => qj _ (c.toNat % 64) (by omega) (by omega) h
   have j1 : (1 : Int) < (m : Int) := by omega
   have j2 : (2 : Int) < (m : Int) := by omega
   have j0 : (0 : Int) < (m : Int) := by omega
   have j3 : (3 : Int) ≤ (m : Int) := by omega
   have l0 : 0 < m := by omega
   have l1 : 1 < m := by omega
   have l2 : 2 < m := by omega
   go_wp2
   refine dG (by kernel_rfl) 34 [is (u3), is (.slice (some ⟨g, off, none⟩) m cp), is (.pointer (some ⟨g, off, none⟩)), is (.int .u8 (a.toNat : Int)), is (.int .u8 ((a.toNat : Int) / 4)), is (.int .u8 ((aT (a.toNat / 4)).toNat : Int)), is (.slice (some ⟨g, off, none⟩) m cp), is (.pointer (some ⟨g, off, none⟩)), is (.int .u8 (a.toNat : Int)), is (.int .u8 ((a.toNat : Int) % 4)), is (.int .u8 ((a.toNat : Int) % 4 * 16)), is (.slice (some ⟨g, off, none⟩) m cp), is (.pointer (some ⟨g, off + 1, none⟩)), is (.int .u8 (b.toNat : Int)), is (.int .u8 ((b.toNat : Int) / 16)), is (.int .u8 ((a.toNat : Int) % 4 * 16 + (b.toNat : Int) / 16)), is (.int .u8 ((aT (a.toNat % 4 * 16 + b.toNat / 16)).toNat : Int)), is (.slice (some ⟨g, off, none⟩) m cp), is (.pointer (some ⟨g, off + 1, none⟩)), is (.int .u8 (b.toNat : Int)), is (.int .u8 ((b.toNat : Int) % 16)), is (.int .u8 ((b.toNat : Int) % 16 * 4)), is (.slice (some ⟨g, off, none⟩) m cp), is (.pointer (some ⟨g, off + 2, none⟩)), is (.int .u8 (c.toNat : Int)), is (.int .u8 ((c.toNat : Int) / 64)), is (.int .u8 ((b.toNat : Int) % 16 * 4 + (c.toNat : Int) / 64)), is (.int .u8 ((aT (b.toNat % 16 * 4 + c.toNat / 64)).toNat : Int)), is (.slice (some ⟨g, off, none⟩) m cp), is (.pointer (some ⟨g, off + 2, none⟩)), is (.int .u8 (c.toNat : Int)), is (.int .u8 ((c.toNat : Int) % 64)), is (.int .u8 ((aT (c.toNat % 64)).toNat : Int)), row 4 (ak [aT (a.toNat / 4), aT (a.toNat % 4 * 16 + b.toNat / 16), aT (b.toNat % 16 * 4 + c.toNat / 64), aT (c.toNat % 64)])] [[], [], [1], [1, 2], [1, 2, 3], [1, 2, 3, 4], [], [6], [6, 7], [6, 7, 8], [6, 7, 8, 9], [], [11], [11, 12], [11, 12, 13], [6, 7, 8, 9, 10, 11, 12, 13, 14], [6, 7, 8, 9, 10, 11, 12, 13, 14, 15], [], [17], [17, 18], [17, 18, 19], [17, 18, 19, 20], [], [22], [22, 23], [22, 23, 24], [17, 18, 19, 20, 21, 22, 23, 24, 25], [17, 18, 19, 20, 21, 22, 23, 24, 25, 26], [], [28], [28, 29], [28, 29, 30], [28, 29, 30, 31], [1, 2, 3, 4, 5, 6, 7, 8, 9, 10, 11, 12, 13, 14, 15, 16, 17, 18, 19, 20, 21, 22, 23, 24, 25, 26, 27, 28, 29, 30, 31, 32], [0, 1, 2, 3, 4, 5, 6, 7, 8, 9, 10, 11, 12, 13, 14, 15, 16, 17, 18, 19, 20, 21, 22, 23, 24, 25, 26, 27, 28, 29, 30, 31, 32, 33]] (by kernel_rfl) ?_ ?_
   ·refine ⟨?_, ?_, ?_, ?_, ?_, ?_, ?_, ?_, ?_, ?_, ?_, ?_, ?_, ?_, ?_, ?_, ?_, ?_, ?_, ?_, ?_, ?_, ?_, ?_, ?_, ?_, ?_, ?_, ?_, ?_, ?_, ?_, ?_, ?_, trivial⟩
    all_goals (intro t wq hbq hh K hK; simp only [filled, bH, upd, Have, is, any, row, pick, Act.put, List.setIfInBounds_toArray, List.set_cons_zero, List.set_cons_succ, Nat.reduceAdd, Nat.reduceEqDiff, reduceIte, List.tail_cons, List.headD_cons] at hh hK ⊢; (try simp only [hh] at hK ⊢); try clear hh)
    iterate 3 · go_simp; exact hK _ _ (Below.refl _ _) rfl
    ·have hq := (hbq.cell (p := ⟨g, off, none⟩) hgr).trans hc0; go_simp; first | exact hK _ _ (Below.refl _ _) rfl | (refine hK _ _ (Below.refl _ _) ?_; simp [is, pick])
    iterate 4 · go_simp; exact hK _ _ (Below.refl _ _) rfl
    ·have hq := (hbq.cell (p := ⟨g, off, none⟩) hgr).trans hc0; go_simp; first | exact hK _ _ (Below.refl _ _) rfl | (refine hK _ _ (Below.refl _ _) ?_; simp [is, pick])
    iterate 4 · go_simp; exact hK _ _ (Below.refl _ _) rfl
    ·have hq := (hbq.cell (p := ⟨g, off + 1, none⟩) hgr).trans hc1; go_simp; first | exact hK _ _ (Below.refl _ _) rfl | (refine hK _ _ (Below.refl _ _) ?_; simp [is, pick])
    iterate 5 · go_simp; exact hK _ _ (Below.refl _ _) rfl
    ·have hq := (hbq.cell (p := ⟨g, off + 1, none⟩) hgr).trans hc1; go_simp; first | exact hK _ _ (Below.refl _ _) rfl | (refine hK _ _ (Below.refl _ _) ?_; simp [is, pick])
    iterate 4 · go_simp; exact hK _ _ (Below.refl _ _) rfl
    ·have hq := (hbq.cell (p := ⟨g, off + 2, none⟩) hgr).trans hc2; go_simp; first | exact hK _ _ (Below.refl _ _) rfl | (refine hK _ _ (Below.refl _ _) ?_; simp [is, pick])
    iterate 5 · go_simp; exact hK _ _ (Below.refl _ _) rfl
    ·have hq := (hbq.cell (p := ⟨g, off + 2, none⟩) hgr).trans hc2; go_simp; first | exact hK _ _ (Below.refl _ _) rfl | (refine hK _ _ (Below.refl _ _) ?_; simp [is, pick])
    iterate 2 · go_simp; exact hK _ _ (Below.refl _ _) rfl
    ·go_simp; exact hK _ _ ((Below.refl _ _).alloc (Nat.le_refl _) _) ⟨_, _, rfl, Nat.le_refl _, by decide, vg wq [aT (a.toNat / 4), aT (a.toNat % 4 * 16 + b.toNat / 16), aT (b.toNat % 16 * 4 + c.toNat / 64), aT (c.toNat % 64)] 5 (0, 0)⟩
   ·intro t wq hbq hh
    have f0 := aS hh 0 (by decide)
    simp only [pick] at f0
    replace f0 : t 0 = (u3) := f0
    have f33 := aS hh 33 (by decide)
    simp only [pick] at f33
    clear hh
    simp only [filled, bH, upd, Have, is, any, row, pick, Act.put, List.setIfInBounds_toArray, List.set_cons_zero, List.set_cons_succ, Nat.reduceAdd, Nat.reduceEqDiff, reduceIte]
    obtain ⟨A33, c33, f33, hc33, hm33, hr33⟩ := f33
    simp only [f0, f33]
    have hown1 := aI hown hbq
    have gB : Below w.heap.size w wq := hbel.trans (hbq.mono hbel.size)
    refine nK rfl _ _ 30 rfl w.heap.size 5 i0 (.int .u8 0) 1 Tryz.underlying30 hi hz0 hz1 hz2 rfl _ X.length _ rfl hown1 gB gB.size A33 4 c33 (ak [aT (a.toNat / 4), aT (a.toNat % 4 * 16 + b.toNat / 16), aT (b.toNat % 16 * 4 + c.toNat / 64), aT (c.toNat % 64)]) rfl hr33 (vT _) (by unfold maxLen; omega) (by omega) ?_
    intro v' w2 hown2 gG
    clear o1 o2 o3 o4 o5 o6 o7 x0 x1 x2 y0 y1 y2 z0 z1 z2 u0 u1 u2 hown hown1
    have HO : Hid (w2.ownsRow w.heap.size 5 1 v' (X ++ [aT (a.toNat / 4), aT (a.toNat % 4 * 16 + b.toNat / 16), aT (b.toNat % 16 * 4 + c.toNat / 64), aT (c.toNat % 64)]).length (ak (X ++ [aT (a.toNat / 4), aT (a.toNat % 4 * 16 + b.toNat / 16), aT (b.toNat % 16 * 4 + c.toNat / 64), aT (c.toNat % 64)]))) := by
     rw [aX, List.length_append]
     exact hown2
    clear hown2
    by_cases hcap : cp = 3
    ·subst hcap
     obtain rfl : m = 3 := by omega
     have HN : Hid (tt = []) := by
      have := Yh.out
      simp at this
      exact this
     go_wp2
     go_roundw
     case rel => exact ⟨0, 0, _, [], X ++ [aT (a.toNat / 4), aT (a.toNat % 4 * 16 + b.toNat / 16), aT (b.toNat % 16 * 4 + c.toNat / 64), aT (c.toNat % 64)], by omega, by omega, rfl, by simp; omega, dS.nil _, by rw [← HE2.out, HN.out]; exact rfl, HO.out, gG⟩
     case measure => simp [EH]
    ·have hcap' : ¬ (cp : Int) = 3 := by omega
     go_wp2
     go_roundw
     case rel => exact ⟨m - 3, cp - 3, _, tt, X ++ [aT (a.toNat / 4), aT (a.toNat % 4 * 16 + b.toNat / 16), aT (b.toNat % 16 * 4 + c.toNat / 64), aT (c.toNat % 64)], by omega, by omega, rfl, by simp; omega, HCut, HE2, HO.out, gG⟩
     case measure => simp [EH]; omega
  ·have hfin : ∀ (v : Value) (wz : World) (Y : List UInt8), Y = e64 L → wz.ownsRow w.heap.size 5 1 v Y.length (ak Y) → ∃ A2 c2, v = .slice A2 (e64 L).length c2 ∧ (convert 30 9 (.slice A2 (e64 L).length c2)).run Tryz.prog wz = .ok (.string (strOf (e64 L))) wz := by
    intro v wz Y hY hv
    subst hY
    obtain ⟨A2, c2, rfl, _, _, hr2⟩ := bZ hv
    exact ⟨A2, c2, rfl, aQ 30 9 5 Tryz.underlying30 Tryz.underlying5 Tryz.underlying9 _ c2 hr2⟩
   have HF := hid hfin
   clear hfin
   have hcase : m = 0 ∨ m = 1 ∨ m = 2 := by omega
   rcases hcase with rfl | rfl | rfl
   ·have hM0 : M = [] := List.eq_nil_of_length_eq_zero hml
    subst hM0
    obtain ⟨A2, c2, rfl, hst⟩ := HF.out u3 wr X (by have := HE.out; simpa [e64] using this) hown
    go_wp2
    go_ret
    exact ⟨rfl, hbel⟩
   ·obtain ⟨a, hMM⟩ := one_of hml
    subst hMM
    obtain ⟨g, off, rfl, hg, _⟩ := (HM.out).spot (by omega)
    have hgr : g < wr.heap.size := Nat.lt_of_lt_of_le hg hbel.size
    have hc0 : wr.cell? ⟨g, off, none⟩ = some (.int .u8 (a.toNat : Int)) := (hbel.cell (p := ⟨g, off + 0, none⟩) hg).trans (HM.out.byte 0 (by simp))
    have HE2 : Hid (X ++ [aT (a.toNat / 4), aT (a.toNat % 4 * 16), 61, 61] = e64 L) := by
     have := HE.out
     rw [e64] at this
     exact this
    have ba : (a.toNat : Int) < 256 := by have := a.toNat_lt; omega
    have o3 := and3 a
    have o6 := Wq a
    have x0 : (0 : Int) ≤ (a.toNat : Int) / 4 := by omega
    have x1 : (a.toNat : Int) / 4 < 64 := by omega
    have x2 : ∀ h, (⟨#[65, 66, 67, 68, 69, 70, 71, 72, 73, 74, 75, 76, 77, 78, 79, 80, 81, 82, 83, 84, 85, 86, 87, 88, 89, 90, 97, 98, 99, 100, 101, 102, 103, 104, 105, 106, 107, 108, 109, 110, 111, 112, 113, 114, 115, 116, 117, 118, 119, 120, 121, 122, 48, 49, 50, 51, 52, 53, 54, 55, 56, 57, 43, 47]⟩ : ByteArray)[((a.toNat : Int) / 4).toNat]'h = aT (a.toNat / 4) := fun h => qj _ (a.toNat / 4) (by omega) (by omega) h
    have y0 : (0 : Int) ≤ (a.toNat : Int) % 4 * 16 := by omega
    have y1 : (a.toNat : Int) % 4 * 16 < 64 := by omega
    have y2 : ∀ h, (⟨#[65, 66, 67, 68, 69, 70, 71, 72, 73, 74, 75, 76, 77, 78, 79, 80, 81, 82, 83, 84, 85, 86, 87, 88, 89, 90, 97, 98, 99, 100, 101, 102, 103, 104, 105, 106, 107, 108, 109, 110, 111, 112, 113, 114, 115, 116, 117, 118, 119, 120, 121, 122, 48, 49, 50, 51, 52, 53, 54, 55, 56, 57, 43, 47]⟩ : ByteArray)[((a.toNat : Int) % 4 * 16).toNat]'h = aT (a.toNat % 4 * 16) := fun h => qj _ (a.toNat % 4 * 16) (by omega) (by omega) h
    go_wp2
    refine dG (by kernel_rfl) 13 [is (u3), is (.slice (some ⟨g, off, none⟩) 1 cp), is (.pointer (some ⟨g, off, none⟩)), is (.int .u8 (a.toNat : Int)), is (.int .u8 ((a.toNat : Int) / 4)), is (.int .u8 ((aT (a.toNat / 4)).toNat : Int)), is (.slice (some ⟨g, off, none⟩) 1 cp), is (.pointer (some ⟨g, off, none⟩)), is (.int .u8 (a.toNat : Int)), is (.int .u8 ((a.toNat : Int) % 4)), is (.int .u8 ((a.toNat : Int) % 4 * 16)), is (.int .u8 ((aT (a.toNat % 4 * 16)).toNat : Int)), row 4 (ak [aT (a.toNat / 4), aT (a.toNat % 4 * 16), 61, 61])] [[], [], [1], [1, 2], [1, 2, 3], [1, 2, 3, 4], [], [6], [6, 7], [6, 7, 8], [6, 7, 8, 9], [6, 7, 8, 9, 10], [1, 2, 3, 4, 5, 6, 7, 8, 9, 10, 11], [0, 1, 2, 3, 4, 5, 6, 7, 8, 9, 10, 11, 12]] (by kernel_rfl) ?_ ?_
    ·refine ⟨?_, ?_, ?_, ?_, ?_, ?_, ?_, ?_, ?_, ?_, ?_, ?_, ?_, trivial⟩
     all_goals (intro t wq hbq hh K hK; simp only [filled, bH, upd, Have, is, any, row, pick, Act.put, List.setIfInBounds_toArray, List.set_cons_zero, List.set_cons_succ, Nat.reduceAdd, Nat.reduceEqDiff, reduceIte, List.tail_cons, List.headD_cons] at hh hK ⊢; (try simp only [hh] at hK ⊢); try clear hh)
     iterate 3 · go_simp; exact hK _ _ (Below.refl _ _) rfl
     ·have hq := (hbq.cell (p := ⟨g, off, none⟩) hgr).trans hc0; go_simp; first | exact hK _ _ (Below.refl _ _) rfl | (refine hK _ _ (Below.refl _ _) ?_; simp [is, pick])
     iterate 4 · go_simp; exact hK _ _ (Below.refl _ _) rfl
     ·have hq := (hbq.cell (p := ⟨g, off, none⟩) hgr).trans hc0; go_simp; first | exact hK _ _ (Below.refl _ _) rfl | (refine hK _ _ (Below.refl _ _) ?_; simp [is, pick])
     iterate 3 · go_simp; exact hK _ _ (Below.refl _ _) rfl
     ·go_simp; exact hK _ _ ((Below.refl _ _).alloc (Nat.le_refl _) _) ⟨_, _, rfl, Nat.le_refl _, by decide, vg wq [aT (a.toNat / 4), aT (a.toNat % 4 * 16), 61, 61] 5 (0, 0)⟩
    ·intro t wq hbq hh
     have f0 := aS hh 0 (by decide)
     simp only [pick] at f0
     replace f0 : t 0 = (u3) := f0
     have f12 := aS hh 12 (by decide)
     simp only [pick] at f12
     clear hh
     simp only [filled, bH, upd, Have, is, any, row, pick, Act.put, List.setIfInBounds_toArray, List.set_cons_zero, List.set_cons_succ, Nat.reduceAdd, Nat.reduceEqDiff, reduceIte]
     obtain ⟨A12, c12, f12, hc12, hm12, hr12⟩ := f12
     simp only [f0, f12]
     have hown1 := aI hown hbq
     have gB : Below w.heap.size w wq := hbel.trans (hbq.mono hbel.size)
     refine nK rfl _ _ 30 rfl w.heap.size 5 i0 (.int .u8 0) 1 Tryz.underlying30 hi hz0 hz1 hz2 rfl _ X.length _ rfl hown1 gB gB.size A12 4 c12 (ak [aT (a.toNat / 4), aT (a.toNat % 4 * 16), 61, 61]) rfl hr12 (vT _) (by unfold maxLen; omega) (by omega) ?_
     intro v' w2 hown2 gG
     clear o3 o6 x0 x1 x2 y0 y1 y2 hown hown1
     obtain ⟨A2, c2, rfl, hst⟩ := HF.out v' w2 _ HE2.out (by
      rw [aX, List.length_append]
      exact hown2)
     go_wp2
     go_ret
     exact ⟨rfl, gG⟩
   ·obtain ⟨a, b, hMM⟩ := Pv hml
    subst hMM
    obtain ⟨g, off, rfl, hg, _⟩ := (HM.out).spot (by omega)
    have hgr : g < wr.heap.size := Nat.lt_of_lt_of_le hg hbel.size
    have hc0 : wr.cell? ⟨g, off, none⟩ = some (.int .u8 (a.toNat : Int)) := (hbel.cell (p := ⟨g, off + 0, none⟩) hg).trans (HM.out.byte 0 (by simp))
    have hc1 : wr.cell? ⟨g, off + 1, none⟩ = some (.int .u8 (b.toNat : Int)) := (hbel.cell (p := ⟨g, off + 1, none⟩) hg).trans (HM.out.byte 1 (by simp))
    have HE2 : Hid (X ++ [aT (a.toNat / 4), aT (a.toNat % 4 * 16 + b.toNat / 16), aT (b.toNat % 16 * 4), 61] = e64 L) := by
     have := HE.out
     rw [e64] at this
     exact this
    have ba : (a.toNat : Int) < 256 := by have := a.toNat_lt; omega
    have bb : (b.toNat : Int) < 256 := by have := b.toNat_lt; omega
    have o1 := or_ab a b
    have o3 := and3 a
    have o4 := QG b
    have o6 := Wq a
    have o7 := aeg b
    have x0 : (0 : Int) ≤ (a.toNat : Int) / 4 := by omega
    have x1 : (a.toNat : Int) / 4 < 64 := by omega
    have x2 : ∀ h, (⟨#[65, 66, 67, 68, 69, 70, 71, 72, 73, 74, 75, 76, 77, 78, 79, 80, 81, 82, 83, 84, 85, 86, 87, 88, 89, 90, 97, 98, 99, 100, 101, 102, 103, 104, 105, 106, 107, 108, 109, 110, 111, 112, 113, 114, 115, 116, 117, 118, 119, 120, 121, 122, 48, 49, 50, 51, 52, 53, 54, 55, 56, 57, 43, 47]⟩ : ByteArray)[((a.toNat : Int) / 4).toNat]'h = aT (a.toNat / 4) := fun h => qj _ (a.toNat / 4) (by omega) (by omega) h
    have y0 : (0 : Int) ≤ (a.toNat : Int) % 4 * 16 + (b.toNat : Int) / 16 := by omega
    have y1 : (a.toNat : Int) % 4 * 16 + (b.toNat : Int) / 16 < 64 := by omega
    have y2 : ∀ h, (⟨#[65, 66, 67, 68, 69, 70, 71, 72, 73, 74, 75, 76, 77, 78, 79, 80, 81, 82, 83, 84, 85, 86, 87, 88, 89, 90, 97, 98, 99, 100, 101, 102, 103, 104, 105, 106, 107, 108, 109, 110, 111, 112, 113, 114, 115, 116, 117, 118, 119, 120, 121, 122, 48, 49, 50, 51, 52, 53, 54, 55, 56, 57, 43, 47]⟩ : ByteArray)[((a.toNat : Int) % 4 * 16 + (b.toNat : Int) / 16).toNat]'h = aT (a.toNat % 4 * 16 + b.toNat / 16) := fun h => qj _ (a.toNat % 4 * 16 + b.toNat / 16) (by omega) (by omega) h
    have z0 : (0 : Int) ≤ (b.toNat : Int) % 16 * 4 := by omega
    have z1 : (b.toNat : Int) % 16 * 4 < 64 := by omega
    have z2 : ∀ h, (⟨#[65, 66, 67, 68, 69, 70, 71, 72, 73, 74, 75, 76, 77, 78, 79, 80, 81, 82, 83, 84, 85, 86, 87, 88, 89, 90, 97, 98, 99, 100, 101, 102, 103, 104, 105, 106, 107, 108, 109, 110, 111, 112, 113, 114, 115, 116, 117, 118, 119, 120, 121, 122, 48, 49, 50, 51, 52, 53, 54, 55, 56, 57, 43, 47]⟩ : ByteArray)[((b.toNat : Int) % 16 * 4).toNat]'h = aT (b.toNat % 16 * 4) := fun h => qj _ (b.toNat % 16 * 4) (by omega) (by omega) h
    go_wp2
    refine dG (by kernel_rfl) 24 [is (u3), is (.slice (some ⟨g, off, none⟩) 2 cp), is (.pointer (some ⟨g, off, none⟩)), is (.int .u8 (a.toNat : Int)), is (.int .u8 ((a.toNat : Int) / 4)), is (.int .u8 ((aT (a.toNat / 4)).toNat : Int)), is (.slice (some ⟨g, off, none⟩) 2 cp), is (.pointer (some ⟨g, off, none⟩)), is (.int .u8 (a.toNat : Int)), is (.int .u8 ((a.toNat : Int) % 4)), is (.int .u8 ((a.toNat : Int) % 4 * 16)), is (.slice (some ⟨g, off, none⟩) 2 cp), is (.pointer (some ⟨g, off + 1, none⟩)), is (.int .u8 (b.toNat : Int)), is (.int .u8 ((b.toNat : Int) / 16)), is (.int .u8 ((a.toNat : Int) % 4 * 16 + (b.toNat : Int) / 16)), is (.int .u8 ((aT (a.toNat % 4 * 16 + b.toNat / 16)).toNat : Int)), is (.slice (some ⟨g, off, none⟩) 2 cp), is (.pointer (some ⟨g, off + 1, none⟩)), is (.int .u8 (b.toNat : Int)), is (.int .u8 ((b.toNat : Int) % 16)), is (.int .u8 ((b.toNat : Int) % 16 * 4)), is (.int .u8 ((aT (b.toNat % 16 * 4)).toNat : Int)), row 4 (ak [aT (a.toNat / 4), aT (a.toNat % 4 * 16 + b.toNat / 16), aT (b.toNat % 16 * 4), 61])] [[], [], [1], [1, 2], [1, 2, 3], [1, 2, 3, 4], [], [6], [6, 7], [6, 7, 8], [6, 7, 8, 9], [], [11], [11, 12], [11, 12, 13], [6, 7, 8, 9, 10, 11, 12, 13, 14], [6, 7, 8, 9, 10, 11, 12, 13, 14, 15], [], [17], [17, 18], [17, 18, 19], [17, 18, 19, 20], [17, 18, 19, 20, 21], [1, 2, 3, 4, 5, 6, 7, 8, 9, 10, 11, 12, 13, 14, 15, 16, 17, 18, 19, 20, 21, 22], [0, 1, 2, 3, 4, 5, 6, 7, 8, 9, 10, 11, 12, 13, 14, 15, 16, 17, 18, 19, 20, 21, 22, 23]] (by kernel_rfl) ?_ ?_
    ·refine ⟨?_, ?_, ?_, ?_, ?_, ?_, ?_, ?_, ?_, ?_, ?_, ?_, ?_, ?_, ?_, ?_, ?_, ?_, ?_, ?_, ?_, ?_, ?_, ?_, trivial⟩
     all_goals (intro t wq hbq hh K hK; simp only [filled, bH, upd, Have, is, any, row, pick, Act.put, List.setIfInBounds_toArray, List.set_cons_zero, List.set_cons_succ, Nat.reduceAdd, Nat.reduceEqDiff, reduceIte, List.tail_cons, List.headD_cons] at hh hK ⊢; (try simp only [hh] at hK ⊢); try clear hh)
     iterate 3 · go_simp; exact hK _ _ (Below.refl _ _) rfl
     ·have hq := (hbq.cell (p := ⟨g, off, none⟩) hgr).trans hc0; go_simp; first | exact hK _ _ (Below.refl _ _) rfl | (refine hK _ _ (Below.refl _ _) ?_; simp [is, pick])
     iterate 4 · go_simp; exact hK _ _ (Below.refl _ _) rfl
     ·have hq := (hbq.cell (p := ⟨g, off, none⟩) hgr).trans hc0; go_simp; first | exact hK _ _ (Below.refl _ _) rfl | (refine hK _ _ (Below.refl _ _) ?_; simp [is, pick])
     iterate 4 · go_simp; exact hK _ _ (Below.refl _ _) rfl
     ·have hq := (hbq.cell (p := ⟨g, off + 1, none⟩) hgr).trans hc1; go_simp; first | exact hK _ _ (Below.refl _ _) rfl | (refine hK _ _ (Below.refl _ _) ?_; simp [is, pick])
     iterate 5 · go_simp; exact hK _ _ (Below.refl _ _) rfl
     ·have hq := (hbq.cell (p := ⟨g, off + 1, none⟩) hgr).trans hc1; go_simp; first | exact hK _ _ (Below.refl _ _) rfl | (refine hK _ _ (Below.refl _ _) ?_; simp [is, pick])
     iterate 3 · go_simp; exact hK _ _ (Below.refl _ _) rfl
     ·go_simp; exact hK _ _ ((Below.refl _ _).alloc (Nat.le_refl _) _) ⟨_, _, rfl, Nat.le_refl _, by decide, vg wq [aT (a.toNat / 4), aT (a.toNat % 4 * 16 + b.toNat / 16), aT (b.toNat % 16 * 4), 61] 5 (0, 0)⟩
    ·intro t wq hbq hh
     have f0 := aS hh 0 (by decide)
     simp only [pick] at f0
     replace f0 : t 0 = (u3) := f0
     have f23 := aS hh 23 (by decide)
     simp only [pick] at f23
     clear hh
     simp only [filled, bH, upd, Have, is, any, row, pick, Act.put, List.setIfInBounds_toArray, List.set_cons_zero, List.set_cons_succ, Nat.reduceAdd, Nat.reduceEqDiff, reduceIte]
     obtain ⟨A23, c23, f23, hc23, hm23, hr23⟩ := f23
     simp only [f0, f23]
     have hown1 := aI hown hbq
     have gB : Below w.heap.size w wq := hbel.trans (hbq.mono hbel.size)
     refine nK rfl _ _ 30 rfl w.heap.size 5 i0 (.int .u8 0) 1 Tryz.underlying30 hi hz0 hz1 hz2 rfl _ X.length _ rfl hown1 gB gB.size A23 4 c23 (ak [aT (a.toNat / 4), aT (a.toNat % 4 * 16 + b.toNat / 16), aT (b.toNat % 16 * 4), 61]) rfl hr23 (vT _) (by unfold maxLen; omega) (by omega) ?_
     intro v' w2 hown2 gG
     clear o1 o3 o4 o6 o7 x0 x1 x2 y0 y1 y2 z0 z1 z2 hown hown1
     obtain ⟨A2, c2, rfl, hst⟩ := HF.out v' w2 _ HE2.out (by
      rw [aX, List.length_append]
      exact hown2)
     go_wp2
     go_ret
     exact ⟨rfl, gG⟩
end Go.Proofs.YtcfgioklgmlclaaGreatDoor.aad
namespace Go.Proofs.YtcfgioklgmlclaaGreatDoor.MS
open Go.RowKit Base aP xK aad
theorem num_let (k : Nat) (h : k < 64) : num (aT k) = (k : Int) := by
 have H : ∀ k : Fin 64, num (aT k.val) = (k.val : Int) := by decide +kernel
 exact H ⟨k, h⟩
theorem let_num (c : UInt8) (h : 0 ≤ num c) : aT (num c).toNat = c := by
 have H : ∀ n : Fin 256, 0 ≤ num (UInt8.ofNat n.val) → aT (num (UInt8.ofNat n.val)).toNat = UInt8.ofNat n.val := by decide +kernel
 have := H ⟨c.toNat, c.toNat_lt⟩
 simp only [UInt8.ofNat_toNat] at this
 exact this h
theorem let_val (k : Nat) (h : k < 64) : ((aT k).toNat : Int) = if k < 26 then 65 + (k : Int) else if k < 52 then 71 + (k : Int) else if k < 62 then (k : Int) - 4 else if k = 62 then 43 else 47 := by
 have H : ∀ k : Fin 64, ((aT k.val).toNat : Int) = if k.val < 26 then 65 + (k.val : Int) else if k.val < 52 then 71 + (k.val : Int) else if k.val < 62 then (k.val : Int) - 4 else if k.val = 62 then 43 else 47 := by decide +kernel
 exact H ⟨k, h⟩
theorem fB (k : Nat) (h : k < 64) (w : World) : Calls Tryz.prog 50 #[.int .i64 (k : Int)] w fun e w' => e = .returned (.int .u8 ((aT k).toNat : Int)) ∧ w = w' := by
 have hv := hid (let_val k h)
 have h0 : (0 : Int) ≤ (k : Int) := by omega
 by_cases a : (k : Int) < 26
 ·go_enter Tryz.func50, Tryz.ntmps50
  go_wp2
  go_ret
  exact ⟨jW (by rw [hv.out]; (repeat' split) <;> omega), rfl⟩
 by_cases b : (k : Int) < 52
 ·go_enter Tryz.func50, Tryz.ntmps50
  go_wp2
  go_ret
  exact ⟨jW (by rw [hv.out]; (repeat' split) <;> omega), rfl⟩
 by_cases c : (k : Int) < 62
 ·go_enter Tryz.func50, Tryz.ntmps50
  go_wp2
  go_ret
  exact ⟨jW (by rw [hv.out]; (repeat' split) <;> omega), rfl⟩
 by_cases d : (k : Int) = 62
 ·go_enter Tryz.func50, Tryz.ntmps50
  go_wp2
  go_ret
  exact ⟨jW (by rw [hv.out]; (repeat' split) <;> omega), rfl⟩
 ·go_enter Tryz.func50, Tryz.ntmps50
  go_wp2
  go_ret
  exact ⟨jW (by rw [hv.out]; (repeat' split) <;> omega), rfl⟩
theorem aZ (c : UInt8) (w : World) : Calls Tryz.prog 84 #[.int .u8 (c.toNat : Int)] w fun e w' => e = .returned (.int .i64 (num c)) ∧ Below w.heap.size w w' := by
 go_enter Tryz.func84, Tryz.ntmps84
 go_wp2
 go_loopw [3, 4] (fun _ vk wr => ∃ k : Nat, k ≤ 64 ∧ vk = .int .i64 k ∧ Hid (∀ j, j < k → aT j ≠ c) ∧ Below w.heap.size w wr) (fun _ vk _ => 64 - (intOf vk).toNat)
 case atStart => exact ⟨0, by omega, rfl, (fun j h => absurd h (by omega)), Below.refl _ _⟩
 case round =>
  obtain ⟨k, hk, rfl, HN, hbel⟩ := hrel
  by_cases hlt : k < 64
  ·by_cases he : aT k = c
   ·have HV : Hid (num c = (k : Int)) := by
     rw [← he]
     exact num_let k hlt
    have he' : ((aT k).toNat : Int) = (c.toNat : Int) := by rw [he]
    clear he
    go_wp2_with fail
    refine (fB k hlt _).mono ?_
    rintro e w1 ⟨rfl, rfl⟩
    go_wp2
    go_ret
    exact ⟨jW (by rw [HV.out]), hbel⟩
   ·have he' : ¬ ((aT k).toNat : Int) = (c.toNat : Int) := fun e => he (UInt8.toNat_inj.1 (Int.ofNat_inj.1 e))
    have xk : Hid (∀ j, j < k + 1 → aT j ≠ c) := fun j hj => by
     by_cases e : j = k
     ·subst e; exact he
     ·exact HN.out j (by omega)
    clear he
    go_wp2_with fail
    refine (fB k hlt _).mono ?_
    rintro e w1 ⟨rfl, rfl⟩
    go_wp2
    go_roundw
    case rel => exact ⟨k + 1, by omega, by go_num, xk, hbel⟩
    case measure => simp [intOf]; omega
  ·obtain rfl : k = 64 := by omega
   have HV : Hid (num c = -1) := by
    have hr := lY c
    by_cases h0 : 0 ≤ num c
    ·exact absurd (let_num c h0) (HN.out _ (by omega))
    ·show num c = -1
     omega
   go_wp2
   go_ret
   exact ⟨jW (by rw [HV.out]), hbel⟩
end Go.Proofs.YtcfgioklgmlclaaGreatDoor.MS
