/- Texts that belong together: RefS, RefN, RefM, RefC, RefD, akn, WZ, Gn. -/
import Derived.Test.YtmpeaoacaecgpaaGreatDoorWAL
import Derived.Test.YtmpeaoacaecgpaaGreatDoorWAA
import Derived.IntWalk
import Derived.Deep.QuietTactic
import Derived.BigQuiet
import Derived.Lib.IndexLaws
import Derived.Lib.SlTrimSet
import Derived.Test.YtmpeaoacaecgpaaGreatDoorWAD
import Derived.Test.YtmpeaoacaecgpaaGreatDoorShelf
set_option linter.unusedSimpArgs false
set_option linter.unusedVariables false
set_option maxRecDepth 100000
set_option maxHeartbeats 64000000
namespace Go.Proofs.YtmpeaoacaecgpaaGreatDoor.RefS
open Go.RowKit Base Base2 qh
def JV (t : List UInt8) : Prop := ∀ c ∈ t, 128 ≤ (c.toNat : Int) ∧ (c.toNat : Int) ≤ 191
instance (t : List UInt8) : Decidable (JV t) := by unfold JV; exact inferInstance
def Fv (x y : Int) : Prop := x = 224 ∧ y < 160 ∨ x = 237 ∧ 159 < y ∨ x = 240 ∧ y < 144 ∨ x = 244 ∧ 143 < y
instance (x y : Int) : Decidable (Fv x y) := by unfold Fv; exact inferInstance
def bad (x : Int) : List UInt8 → Prop
 | [] => False
 | y :: _ => Fv x y.toNat
instance (x : Int) (t : List UInt8) : Decidable (bad x t) := by cases t <;> unfold bad <;> exact inferInstance
def st : List UInt8 → Bool × Bool
 | [] => (false, false)
 | x :: t => if size x.toNat < (t.length : Int) + 1 ∨ ¬ JV t ∨ bad x.toNat t then (false, false) else (true, decide ((t.length : Int) + 1 = size x.toNat))
def WO (L : List UInt8) (k : Nat) : Prop := ∀ j (h : j < L.length), 1 ≤ j → j < k → 128 ≤ (L[j].toNat : Int) ∧ (L[j].toNat : Int) ≤ 191
theorem Jc (x : UInt8) (t : List UInt8) (h : WO (x :: t) (t.length + 1)) : JV t := by
 intro c hc
 obtain ⟨i, hi, rfl⟩ := List.mem_iff_getElem.1 hc
 have := h (i + 1) (by simp; omega) (by omega) (by omega)
 simpa using this
theorem Jd (x : UInt8) (t : List UInt8) (k : Nat) (hk : k < t.length + 1) (h1 : 1 ≤ k) (hb : ((x :: t)[k].toNat : Int) < 128 ∨ 191 < ((x :: t)[k].toNat : Int)) : ¬ JV t := by
 intro h
 obtain ⟨i, rfl⟩ : ∃ i, k = i + 1 := ⟨k - 1, by omega⟩
 have := h t[i] (List.getElem_mem _)
 simp at hb
 omega
theorem QO {a b c : Prop} (h1 : ¬ a) (h2 : b) (h3 : ¬ c) : ¬ (a ∨ ¬ b ∨ c) := by
 rintro (h | h | h)
 ·exact h1 h
 ·exact h h2
 ·exact h3 h
theorem xu (x : UInt8) (t : List UInt8) (h : size x.toNat < (t.length : Int) + 1 ∨ ¬ JV t ∨ bad x.toNat t) : st (x :: t) = (false, false) := by rw [st, if_pos h]
theorem vT (x : UInt8) (t : List UInt8) (h : ¬ (size x.toNat < (t.length : Int) + 1 ∨ ¬ JV t ∨ bad x.toNat t)) : st (x :: t) = (true, decide ((t.length : Int) + 1 = size x.toNat)) := by rw [st, if_neg h]
theorem anF (b off cap : Nat) (x : UInt8) (t : List UInt8) (n : Nat) (w : World) (hn : t.length + 1 = n) (hm : n ≤ 16) (hz : size x.toNat = 1)
  (hL : ∀ j (h : j < (x :: t).length), w.cell? ⟨b, off + j, none⟩ = some (.int .u8 ((x :: t)[j].toNat : Int)))
  (k1 : (x.toNat : Int) < 128)
  (R : Bool × Bool) (hR : R = st (x :: t)) :
  Calls Tryz.prog 157 #[.slice (some ⟨b, off, none⟩) n cap] w fun e w' => e = .returned (.tuple #[.bool R.1, .bool R.2]) ∧ w = w' := by
 have hc0 : w.cell? ⟨b, off, none⟩ = some (.int .u8 (x.toNat : Int)) := by
  have := hL 0 (by simp)
  rw [Nat.add_zero] at this
  exact this
 have HL := hid hL
 have HN := hid hn
 have HZ := hid hz
 have HR := hid hR
 have hp : (0 : Int) < (n : Int) := by omega
 clear hL hn hz hR
 by_cases alY : (1 : Int) < (n : Int)
 ·have HE : Hid (R = (false, false)) := by
   have e := HR.out
   rw [xu x t (.inl (by rw [HZ.out]; have := HN.out; omega))] at e
   exact e
  go_enter Tryz.func157, Tryz.ntmps157
  go_wp2
  go_ret2
  rw [HE.out]
  exact ⟨rfl, rfl⟩
 ·go_enter Tryz.func157, Tryz.ntmps157
  go_wp2
  go_loop [5] (fun vk => ∃ k : Nat, 1 ≤ k ∧ k ≤ n ∧ vk = .int .i64 k ∧ Hid (WO (x :: t) k)) (fun vk => n - (intOf vk).toNat)
  case atStart => exact ⟨1, by omega, by omega, rfl, fun j _ h1 h2 => absurd h2 (by omega)⟩
  case round =>
   obtain ⟨k, hk1, hk2, rfl, HO⟩ := hrel
   by_cases hlt : k < n
   ·have hlx : k < (x :: t).length := by have := HN.out; simp; omega
    obtain ⟨c, hc⟩ : ∃ c, c = (x :: t)[k] := ⟨_, rfl⟩
    have hcell : w.cell? ⟨b, off + k, none⟩ = some (.int .u8 (c.toNat : Int)) := by rw [hc]; exact HL.out k hlx
    have HC := hid hc
    clear hc
    by_cases hb : (c.toNat : Int) < 128 ∨ 191 < (c.toNat : Int)
    ·have HE : Hid (R = (false, false)) := by
      have e := HR.out
      rw [xu x t (.inr (.inl (Jd x t k (by have := HN.out; omega) hk1 (by rw [← HC.out]; exact hb))))] at e
      exact e
     rcases hb with hb | hb
     ·go_wp2
      go_ret2
      rw [HE.out]
      exact ⟨rfl, rfl⟩
     ·have hb' : ¬ (c.toNat : Int) < 128 := by omega
      go_wp2
      go_ret2
      rw [HE.out]
      exact ⟨rfl, rfl⟩
    ·have hb1 : ¬ (c.toNat : Int) < 128 := by omega
     have hb2 : ¬ 191 < (c.toNat : Int) := by omega
     have jy : Hid (WO (x :: t) (k + 1)) := fun j hj h1 h2 => by
      by_cases e : j = k
      ·subst e
       rw [← HC.out]
       omega
      ·exact HO.out j hj h1 (by omega)
     clear hb HO
     go_wp2
     go_round
     case rel => exact ⟨k + 1, by omega, by omega, by go_num, jy⟩
     case measure => simp [intOf]; omega
   ·skip
    obtain rfl : k = n := by omega
    have HA : Hid (JV t) := Jc x t (by have e := HN.out; rw [e]; exact HO.out)
    clear HO hlt
    cases t with
    | nil =>
     have hn1 := HN.out
     simp at hn1
     have HE : Hid (R = (true, decide ((k : Int) = 1))) := by
      have e := HR.out
      rw [vT x [] (QO (by rw [HZ.out]; simp) HA.out (fun h => h)), HZ.out] at e
      rw [e, ← hn1]
      exact rfl
     have hn2 : ¬ (1 : Int) < (k : Int) := by omega
     clear hn1
     go_wp2
     go_ret2
     rw [HE.out]
     exact ⟨vS rfl (iO (by rw [Bool.eq_iff_iff]; simp)), rfl⟩
    | cons y t' =>
     have hc1 : w.cell? ⟨b, off + 1, none⟩ = some (.int .u8 (y.toNat : Int)) := HL.out 1 (by simp)
     have hn1 := HN.out
     simp only [List.length_cons] at hn1
     have hn2 : (1 : Int) < (k : Int) := by omega
     have hy0 : 0 ≤ (y.toNat : Int) ∧ (y.toNat : Int) < 256 := by have := y.toNat_lt; omega
     have HK : Hid ((((y :: t').length : Nat) : Int) + 1 = k) := by show _ = _; simp only [List.length_cons]; omega
     clear hn1
     by_cases hbd : Fv x.toNat y.toNat
     ·have HE : Hid (R = (false, false)) := by
       have e := HR.out
       rw [xu x (y :: t') (.inr (.inr hbd))] at e
       exact e
      unfold Fv at hbd
      exact absurd hbd (by omega)
     ·have HE : Hid (R = (true, decide ((k : Int) = 1))) := by
       have e := HR.out
       rw [vT x (y :: t') (QO (by rw [HZ.out]; have := HK.out; omega) HA.out hbd), HZ.out, HK.out] at e
       exact e
      unfold Fv at hbd
      clear hbd
      go_wp2
      all_goals
       go_ret2
       rw [HE.out]
       exact ⟨vS rfl (iO (by rw [Bool.eq_iff_iff]; simp)), rfl⟩
theorem anG (b off cap : Nat) (x : UInt8) (t : List UInt8) (n : Nat) (w : World) (hn : t.length + 1 = n) (hm : n ≤ 16) (hz : size x.toNat = 2)
  (hL : ∀ j (h : j < (x :: t).length), w.cell? ⟨b, off + j, none⟩ = some (.int .u8 ((x :: t)[j].toNat : Int)))
  (k1 : 194 ≤ (x.toNat : Int)) (k2 : (x.toNat : Int) ≤ 223)
  (R : Bool × Bool) (hR : R = st (x :: t)) :
  Calls Tryz.prog 157 #[.slice (some ⟨b, off, none⟩) n cap] w fun e w' => e = .returned (.tuple #[.bool R.1, .bool R.2]) ∧ w = w' := by
 have hc0 : w.cell? ⟨b, off, none⟩ = some (.int .u8 (x.toNat : Int)) := by
  have := hL 0 (by simp)
  rw [Nat.add_zero] at this
  exact this
 have HL := hid hL
 have HN := hid hn
 have HZ := hid hz
 have HR := hid hR
 have hp : (0 : Int) < (n : Int) := by omega
 clear hL hn hz hR
 by_cases alY : (2 : Int) < (n : Int)
 ·have HE : Hid (R = (false, false)) := by
   have e := HR.out
   rw [xu x t (.inl (by rw [HZ.out]; have := HN.out; omega))] at e
   exact e
  go_enter Tryz.func157, Tryz.ntmps157
  go_wp2
  go_ret2
  rw [HE.out]
  exact ⟨rfl, rfl⟩
 ·go_enter Tryz.func157, Tryz.ntmps157
  go_wp2
  go_loop [5] (fun vk => ∃ k : Nat, 1 ≤ k ∧ k ≤ n ∧ vk = .int .i64 k ∧ Hid (WO (x :: t) k)) (fun vk => n - (intOf vk).toNat)
  case atStart => exact ⟨1, by omega, by omega, rfl, fun j _ h1 h2 => absurd h2 (by omega)⟩
  case round =>
   obtain ⟨k, hk1, hk2, rfl, HO⟩ := hrel
   by_cases hlt : k < n
   ·have hlx : k < (x :: t).length := by have := HN.out; simp; omega
    obtain ⟨c, hc⟩ : ∃ c, c = (x :: t)[k] := ⟨_, rfl⟩
    have hcell : w.cell? ⟨b, off + k, none⟩ = some (.int .u8 (c.toNat : Int)) := by rw [hc]; exact HL.out k hlx
    have HC := hid hc
    clear hc
    by_cases hb : (c.toNat : Int) < 128 ∨ 191 < (c.toNat : Int)
    ·have HE : Hid (R = (false, false)) := by
      have e := HR.out
      rw [xu x t (.inr (.inl (Jd x t k (by have := HN.out; omega) hk1 (by rw [← HC.out]; exact hb))))] at e
      exact e
     rcases hb with hb | hb
     ·go_wp2
      go_ret2
      rw [HE.out]
      exact ⟨rfl, rfl⟩
     ·have hb' : ¬ (c.toNat : Int) < 128 := by omega
      go_wp2
      go_ret2
      rw [HE.out]
      exact ⟨rfl, rfl⟩
    ·have hb1 : ¬ (c.toNat : Int) < 128 := by omega
     have hb2 : ¬ 191 < (c.toNat : Int) := by omega
     have jy : Hid (WO (x :: t) (k + 1)) := fun j hj h1 h2 => by
      by_cases e : j = k
      ·subst e
       rw [← HC.out]
       omega
      ·exact HO.out j hj h1 (by omega)
     clear hb HO
     go_wp2
     go_round
     case rel => exact ⟨k + 1, by omega, by omega, by go_num, jy⟩
     case measure => simp [intOf]; omega
   ·skip
    obtain rfl : k = n := by omega
    have HA : Hid (JV t) := Jc x t (by have e := HN.out; rw [e]; exact HO.out)
    clear HO hlt
    cases t with
    | nil =>
     have hn1 := HN.out
     simp at hn1
     have HE : Hid (R = (true, decide ((k : Int) = 2))) := by
      have e := HR.out
      rw [vT x [] (QO (by rw [HZ.out]; simp) HA.out (fun h => h)), HZ.out] at e
      rw [e, ← hn1]
      exact rfl
     have hn2 : ¬ (1 : Int) < (k : Int) := by omega
     clear hn1
     go_wp2
     go_ret2
     rw [HE.out]
     exact ⟨vS rfl (iO (by rw [Bool.eq_iff_iff]; simp)), rfl⟩
    | cons y t' =>
     have hc1 : w.cell? ⟨b, off + 1, none⟩ = some (.int .u8 (y.toNat : Int)) := HL.out 1 (by simp)
     have hn1 := HN.out
     simp only [List.length_cons] at hn1
     have hn2 : (1 : Int) < (k : Int) := by omega
     have hy0 : 0 ≤ (y.toNat : Int) ∧ (y.toNat : Int) < 256 := by have := y.toNat_lt; omega
     have HK : Hid ((((y :: t').length : Nat) : Int) + 1 = k) := by show _ = _; simp only [List.length_cons]; omega
     clear hn1
     by_cases hbd : Fv x.toNat y.toNat
     ·have HE : Hid (R = (false, false)) := by
       have e := HR.out
       rw [xu x (y :: t') (.inr (.inr hbd))] at e
       exact e
      unfold Fv at hbd
      exact absurd hbd (by omega)
     ·have HE : Hid (R = (true, decide ((k : Int) = 2))) := by
       have e := HR.out
       rw [vT x (y :: t') (QO (by rw [HZ.out]; have := HK.out; omega) HA.out hbd), HZ.out, HK.out] at e
       exact e
      unfold Fv at hbd
      clear hbd
      go_wp2
      all_goals
       go_ret2
       rw [HE.out]
       exact ⟨vS rfl (iO (by rw [Bool.eq_iff_iff]; simp)), rfl⟩
theorem anH (b off cap : Nat) (x : UInt8) (t : List UInt8) (n : Nat) (w : World) (hn : t.length + 1 = n) (hm : n ≤ 16) (hz : size x.toNat = 3)
  (hL : ∀ j (h : j < (x :: t).length), w.cell? ⟨b, off + j, none⟩ = some (.int .u8 ((x :: t)[j].toNat : Int)))
  (k1 : 224 ≤ (x.toNat : Int)) (k2 : (x.toNat : Int) ≤ 239)
  (R : Bool × Bool) (hR : R = st (x :: t)) :
  Calls Tryz.prog 157 #[.slice (some ⟨b, off, none⟩) n cap] w fun e w' => e = .returned (.tuple #[.bool R.1, .bool R.2]) ∧ w = w' := by
 have hc0 : w.cell? ⟨b, off, none⟩ = some (.int .u8 (x.toNat : Int)) := by
  have := hL 0 (by simp)
  rw [Nat.add_zero] at this
  exact this
 have HL := hid hL
 have HN := hid hn
 have HZ := hid hz
 have HR := hid hR
 have hp : (0 : Int) < (n : Int) := by omega
 clear hL hn hz hR
 by_cases alY : (3 : Int) < (n : Int)
 ·have HE : Hid (R = (false, false)) := by
   have e := HR.out
   rw [xu x t (.inl (by rw [HZ.out]; have := HN.out; omega))] at e
   exact e
  go_enter Tryz.func157, Tryz.ntmps157
  go_wp2
  go_ret2
  rw [HE.out]
  exact ⟨rfl, rfl⟩
 ·go_enter Tryz.func157, Tryz.ntmps157
  go_wp2
  go_loop [5] (fun vk => ∃ k : Nat, 1 ≤ k ∧ k ≤ n ∧ vk = .int .i64 k ∧ Hid (WO (x :: t) k)) (fun vk => n - (intOf vk).toNat)
  case atStart => exact ⟨1, by omega, by omega, rfl, fun j _ h1 h2 => absurd h2 (by omega)⟩
  case round =>
   obtain ⟨k, hk1, hk2, rfl, HO⟩ := hrel
   by_cases hlt : k < n
   ·have hlx : k < (x :: t).length := by have := HN.out; simp; omega
    obtain ⟨c, hc⟩ : ∃ c, c = (x :: t)[k] := ⟨_, rfl⟩
    have hcell : w.cell? ⟨b, off + k, none⟩ = some (.int .u8 (c.toNat : Int)) := by rw [hc]; exact HL.out k hlx
    have HC := hid hc
    clear hc
    by_cases hb : (c.toNat : Int) < 128 ∨ 191 < (c.toNat : Int)
    ·have HE : Hid (R = (false, false)) := by
      have e := HR.out
      rw [xu x t (.inr (.inl (Jd x t k (by have := HN.out; omega) hk1 (by rw [← HC.out]; exact hb))))] at e
      exact e
     rcases hb with hb | hb
     ·go_wp2
      go_ret2
      rw [HE.out]
      exact ⟨rfl, rfl⟩
     ·have hb' : ¬ (c.toNat : Int) < 128 := by omega
      go_wp2
      go_ret2
      rw [HE.out]
      exact ⟨rfl, rfl⟩
    ·have hb1 : ¬ (c.toNat : Int) < 128 := by omega
     have hb2 : ¬ 191 < (c.toNat : Int) := by omega
     have jy : Hid (WO (x :: t) (k + 1)) := fun j hj h1 h2 => by
      by_cases e : j = k
      ·subst e
       rw [← HC.out]
       omega
      ·exact HO.out j hj h1 (by omega)
     clear hb HO
     go_wp2
     go_round
     case rel => exact ⟨k + 1, by omega, by omega, by go_num, jy⟩
     case measure => simp [intOf]; omega
   ·skip
    obtain rfl : k = n := by omega
    have HA : Hid (JV t) := Jc x t (by have e := HN.out; rw [e]; exact HO.out)
    clear HO hlt
    cases t with
    | nil =>
     have hn1 := HN.out
     simp at hn1
     have HE : Hid (R = (true, decide ((k : Int) = 3))) := by
      have e := HR.out
      rw [vT x [] (QO (by rw [HZ.out]; simp) HA.out (fun h => h)), HZ.out] at e
      rw [e, ← hn1]
      exact rfl
     have hn2 : ¬ (1 : Int) < (k : Int) := by omega
     clear hn1
     go_wp2
     go_ret2
     rw [HE.out]
     exact ⟨vS rfl (iO (by rw [Bool.eq_iff_iff]; simp)), rfl⟩
    | cons y t' =>
     have hc1 : w.cell? ⟨b, off + 1, none⟩ = some (.int .u8 (y.toNat : Int)) := HL.out 1 (by simp)
     have hn1 := HN.out
     simp only [List.length_cons] at hn1
     have hn2 : (1 : Int) < (k : Int) := by omega
     have hy0 : 0 ≤ (y.toNat : Int) ∧ (y.toNat : Int) < 256 := by have := y.toNat_lt; omega
     have HK : Hid ((((y :: t').length : Nat) : Int) + 1 = k) := by show _ = _; simp only [List.length_cons]; omega
     clear hn1
     by_cases hbd : Fv x.toNat y.toNat
     ·have HE : Hid (R = (false, false)) := by
       have e := HR.out
       rw [xu x (y :: t') (.inr (.inr hbd))] at e
       exact e
      unfold Fv at hbd
      rcases hbd with hbd | hbd | hbd | hbd
      ·obtain ⟨q1, q2⟩ := hbd
       have q3 : ((x.toNat : Int) == 224) = true := by rw [beq_iff_eq]; exact q1
       have aek : ((x.toNat : Int) == 237) = false := by rw [beq_eq_false_iff_ne]; omega
       have ael : ((x.toNat : Int) == 240) = false := by rw [beq_eq_false_iff_ne]; omega
       have aem : ((x.toNat : Int) == 244) = false := by rw [beq_eq_false_iff_ne]; omega
       clear q1
       go_wp2
       go_ret2
       rw [HE.out]
       exact ⟨rfl, rfl⟩
      ·obtain ⟨q1, q2⟩ := hbd
       have q3 : ((x.toNat : Int) == 237) = true := by rw [beq_iff_eq]; exact q1
       have aej : ((x.toNat : Int) == 224) = false := by rw [beq_eq_false_iff_ne]; omega
       have ael : ((x.toNat : Int) == 240) = false := by rw [beq_eq_false_iff_ne]; omega
       have aem : ((x.toNat : Int) == 244) = false := by rw [beq_eq_false_iff_ne]; omega
       clear q1
       go_wp2
       go_ret2
       rw [HE.out]
       exact ⟨rfl, rfl⟩
      ·exact absurd hbd.1 (by omega)
      ·exact absurd hbd.1 (by omega)
     ·have HE : Hid (R = (true, decide ((k : Int) = 3))) := by
       have e := HR.out
       rw [vT x (y :: t') (QO (by rw [HZ.out]; have := HK.out; omega) HA.out hbd), HZ.out, HK.out] at e
       exact e
      unfold Fv at hbd
      by_cases e1 : (x.toNat : Int) = 224
      ·have q1 : ((x.toNat : Int) == 224) = true := by rw [beq_iff_eq]; exact e1
       have q2 : ¬ (y.toNat : Int) < 160 := by omega
       have aek : ((x.toNat : Int) == 237) = false := by rw [beq_eq_false_iff_ne]; omega
       have ael : ((x.toNat : Int) == 240) = false := by rw [beq_eq_false_iff_ne]; omega
       have aem : ((x.toNat : Int) == 244) = false := by rw [beq_eq_false_iff_ne]; omega
       clear e1 hbd
       go_wp2
       all_goals
        go_ret2
        rw [HE.out]
        exact ⟨vS rfl (iO (by rw [Bool.eq_iff_iff]; simp)), rfl⟩
      ·by_cases e2 : (x.toNat : Int) = 237
       ·have q1 : ((x.toNat : Int) == 237) = true := by rw [beq_iff_eq]; exact e2
        have q2 : ¬ 159 < (y.toNat : Int) := by omega
        have aej : ((x.toNat : Int) == 224) = false := by rw [beq_eq_false_iff_ne]; omega
        have ael : ((x.toNat : Int) == 240) = false := by rw [beq_eq_false_iff_ne]; omega
        have aem : ((x.toNat : Int) == 244) = false := by rw [beq_eq_false_iff_ne]; omega
        clear e1 e2 hbd
        go_wp2
        all_goals
         go_ret2
         rw [HE.out]
         exact ⟨vS rfl (iO (by rw [Bool.eq_iff_iff]; simp)), rfl⟩
       ·skip
        have aej : ((x.toNat : Int) == 224) = false := by rw [beq_eq_false_iff_ne]; omega
        have aek : ((x.toNat : Int) == 237) = false := by rw [beq_eq_false_iff_ne]; omega
        have ael : ((x.toNat : Int) == 240) = false := by rw [beq_eq_false_iff_ne]; omega
        have aem : ((x.toNat : Int) == 244) = false := by rw [beq_eq_false_iff_ne]; omega
        clear e1 e2 hbd
        go_wp2
        all_goals
         go_ret2
         rw [HE.out]
         exact ⟨vS rfl (iO (by rw [Bool.eq_iff_iff]; simp)), rfl⟩
theorem anI (b off cap : Nat) (x : UInt8) (t : List UInt8) (n : Nat) (w : World) (hn : t.length + 1 = n) (hm : n ≤ 16) (hz : size x.toNat = 4)
  (hL : ∀ j (h : j < (x :: t).length), w.cell? ⟨b, off + j, none⟩ = some (.int .u8 ((x :: t)[j].toNat : Int)))
  (k1 : 240 ≤ (x.toNat : Int)) (k2 : (x.toNat : Int) ≤ 244)
  (R : Bool × Bool) (hR : R = st (x :: t)) :
  Calls Tryz.prog 157 #[.slice (some ⟨b, off, none⟩) n cap] w fun e w' => e = .returned (.tuple #[.bool R.1, .bool R.2]) ∧ w = w' := by
 have hc0 : w.cell? ⟨b, off, none⟩ = some (.int .u8 (x.toNat : Int)) := by
  have := hL 0 (by simp)
  rw [Nat.add_zero] at this
  exact this
 have HL := hid hL
 have HN := hid hn
 have HZ := hid hz
 have HR := hid hR
 have hp : (0 : Int) < (n : Int) := by omega
 clear hL hn hz hR
 by_cases alY : (4 : Int) < (n : Int)
 ·have HE : Hid (R = (false, false)) := by
   have e := HR.out
   rw [xu x t (.inl (by rw [HZ.out]; have := HN.out; omega))] at e
   exact e
  go_enter Tryz.func157, Tryz.ntmps157
  go_wp2
  go_ret2
  rw [HE.out]
  exact ⟨rfl, rfl⟩
 ·go_enter Tryz.func157, Tryz.ntmps157
  go_wp2
  go_loop [5] (fun vk => ∃ k : Nat, 1 ≤ k ∧ k ≤ n ∧ vk = .int .i64 k ∧ Hid (WO (x :: t) k)) (fun vk => n - (intOf vk).toNat)
  case atStart => exact ⟨1, by omega, by omega, rfl, fun j _ h1 h2 => absurd h2 (by omega)⟩
  case round =>
   obtain ⟨k, hk1, hk2, rfl, HO⟩ := hrel
   by_cases hlt : k < n
   ·have hlx : k < (x :: t).length := by have := HN.out; simp; omega
    obtain ⟨c, hc⟩ : ∃ c, c = (x :: t)[k] := ⟨_, rfl⟩
    have hcell : w.cell? ⟨b, off + k, none⟩ = some (.int .u8 (c.toNat : Int)) := by rw [hc]; exact HL.out k hlx
    have HC := hid hc
    clear hc
    by_cases hb : (c.toNat : Int) < 128 ∨ 191 < (c.toNat : Int)
    ·have HE : Hid (R = (false, false)) := by
      have e := HR.out
      rw [xu x t (.inr (.inl (Jd x t k (by have := HN.out; omega) hk1 (by rw [← HC.out]; exact hb))))] at e
      exact e
     rcases hb with hb | hb
     ·go_wp2
      go_ret2
      rw [HE.out]
      exact ⟨rfl, rfl⟩
     ·have hb' : ¬ (c.toNat : Int) < 128 := by omega
      go_wp2
      go_ret2
      rw [HE.out]
      exact ⟨rfl, rfl⟩
    ·have hb1 : ¬ (c.toNat : Int) < 128 := by omega
     have hb2 : ¬ 191 < (c.toNat : Int) := by omega
     have jy : Hid (WO (x :: t) (k + 1)) := fun j hj h1 h2 => by
      by_cases e : j = k
      ·subst e
       rw [← HC.out]
       omega
      ·exact HO.out j hj h1 (by omega)
     clear hb HO
     go_wp2
     go_round
     case rel => exact ⟨k + 1, by omega, by omega, by go_num, jy⟩
     case measure => simp [intOf]; omega
   ·skip
    obtain rfl : k = n := by omega
    have HA : Hid (JV t) := Jc x t (by have e := HN.out; rw [e]; exact HO.out)
    clear HO hlt
    cases t with
    | nil =>
     have hn1 := HN.out
     simp at hn1
     have HE : Hid (R = (true, decide ((k : Int) = 4))) := by
      have e := HR.out
      rw [vT x [] (QO (by rw [HZ.out]; simp) HA.out (fun h => h)), HZ.out] at e
      rw [e, ← hn1]
      exact rfl
     have hn2 : ¬ (1 : Int) < (k : Int) := by omega
     clear hn1
     go_wp2
     go_ret2
     rw [HE.out]
     exact ⟨vS rfl (iO (by rw [Bool.eq_iff_iff]; simp)), rfl⟩
    | cons y t' =>
     have hc1 : w.cell? ⟨b, off + 1, none⟩ = some (.int .u8 (y.toNat : Int)) := HL.out 1 (by simp)
     have hn1 := HN.out
     simp only [List.length_cons] at hn1
     have hn2 : (1 : Int) < (k : Int) := by omega
     have hy0 : 0 ≤ (y.toNat : Int) ∧ (y.toNat : Int) < 256 := by have := y.toNat_lt; omega
     have HK : Hid ((((y :: t').length : Nat) : Int) + 1 = k) := by show _ = _; simp only [List.length_cons]; omega
     clear hn1
     by_cases hbd : Fv x.toNat y.toNat
     ·have HE : Hid (R = (false, false)) := by
       have e := HR.out
       rw [xu x (y :: t') (.inr (.inr hbd))] at e
       exact e
      unfold Fv at hbd
      rcases hbd with hbd | hbd | hbd | hbd
      ·exact absurd hbd.1 (by omega)
      ·exact absurd hbd.1 (by omega)
      ·obtain ⟨q1, q2⟩ := hbd
       have q3 : ((x.toNat : Int) == 240) = true := by rw [beq_iff_eq]; exact q1
       have aej : ((x.toNat : Int) == 224) = false := by rw [beq_eq_false_iff_ne]; omega
       have aek : ((x.toNat : Int) == 237) = false := by rw [beq_eq_false_iff_ne]; omega
       have aem : ((x.toNat : Int) == 244) = false := by rw [beq_eq_false_iff_ne]; omega
       clear q1
       go_wp2
       go_ret2
       rw [HE.out]
       exact ⟨rfl, rfl⟩
      ·obtain ⟨q1, q2⟩ := hbd
       have q3 : ((x.toNat : Int) == 244) = true := by rw [beq_iff_eq]; exact q1
       have aej : ((x.toNat : Int) == 224) = false := by rw [beq_eq_false_iff_ne]; omega
       have aek : ((x.toNat : Int) == 237) = false := by rw [beq_eq_false_iff_ne]; omega
       have ael : ((x.toNat : Int) == 240) = false := by rw [beq_eq_false_iff_ne]; omega
       clear q1
       go_wp2
       go_ret2
       rw [HE.out]
       exact ⟨rfl, rfl⟩
     ·have HE : Hid (R = (true, decide ((k : Int) = 4))) := by
       have e := HR.out
       rw [vT x (y :: t') (QO (by rw [HZ.out]; have := HK.out; omega) HA.out hbd), HZ.out, HK.out] at e
       exact e
      unfold Fv at hbd
      by_cases e1 : (x.toNat : Int) = 240
      ·have q1 : ((x.toNat : Int) == 240) = true := by rw [beq_iff_eq]; exact e1
       have q2 : ¬ (y.toNat : Int) < 144 := by omega
       have aej : ((x.toNat : Int) == 224) = false := by rw [beq_eq_false_iff_ne]; omega
       have aek : ((x.toNat : Int) == 237) = false := by rw [beq_eq_false_iff_ne]; omega
       have aem : ((x.toNat : Int) == 244) = false := by rw [beq_eq_false_iff_ne]; omega
       clear e1 hbd
       go_wp2
       all_goals
        go_ret2
        rw [HE.out]
        exact ⟨vS rfl (iO (by rw [Bool.eq_iff_iff]; simp)), rfl⟩
      ·by_cases e2 : (x.toNat : Int) = 244
       ·have q1 : ((x.toNat : Int) == 244) = true := by rw [beq_iff_eq]; exact e2
        have q2 : ¬ 143 < (y.toNat : Int) := by omega
        have aej : ((x.toNat : Int) == 224) = false := by rw [beq_eq_false_iff_ne]; omega
        have aek : ((x.toNat : Int) == 237) = false := by rw [beq_eq_false_iff_ne]; omega
        have ael : ((x.toNat : Int) == 240) = false := by rw [beq_eq_false_iff_ne]; omega
        clear e1 e2 hbd
        go_wp2
        all_goals
         go_ret2
         rw [HE.out]
         exact ⟨vS rfl (iO (by rw [Bool.eq_iff_iff]; simp)), rfl⟩
       ·skip
        have aej : ((x.toNat : Int) == 224) = false := by rw [beq_eq_false_iff_ne]; omega
        have aek : ((x.toNat : Int) == 237) = false := by rw [beq_eq_false_iff_ne]; omega
        have ael : ((x.toNat : Int) == 240) = false := by rw [beq_eq_false_iff_ne]; omega
        have aem : ((x.toNat : Int) == 244) = false := by rw [beq_eq_false_iff_ne]; omega
        clear e1 e2 hbd
        go_wp2
        all_goals
         go_ret2
         rw [HE.out]
         exact ⟨vS rfl (iO (by rw [Bool.eq_iff_iff]; simp)), rfl⟩
theorem aiL (b off cap : Nat) (x : UInt8) (t : List UInt8) (n : Nat) (w : World) (hn : t.length + 1 = n) (hm : n ≤ 16) (hz : size x.toNat = 0)
  (hL : ∀ j (h : j < (x :: t).length), w.cell? ⟨b, off + j, none⟩ = some (.int .u8 ((x :: t)[j].toNat : Int)))
  (k1 : 128 ≤ (x.toNat : Int)) (k2 : (x.toNat : Int) ≤ 193)
  (R : Bool × Bool) (hR : R = st (x :: t)) :
  Calls Tryz.prog 157 #[.slice (some ⟨b, off, none⟩) n cap] w fun e w' => e = .returned (.tuple #[.bool R.1, .bool R.2]) ∧ w = w' := by
 have hc0 : w.cell? ⟨b, off, none⟩ = some (.int .u8 (x.toNat : Int)) := by
  have := hL 0 (by simp)
  rw [Nat.add_zero] at this
  exact this
 have HL := hid hL
 have HN := hid hn
 have HZ := hid hz
 have HR := hid hR
 have hp : (0 : Int) < (n : Int) := by omega
 clear hL hn hz hR
 have HE : Hid (R = (false, false)) := by
  have e := HR.out
  rw [xu x t (.inl (by rw [HZ.out]; have := HN.out; omega))] at e
  exact e
 go_enter Tryz.func157, Tryz.ntmps157
 go_wp2
 go_ret2
 rw [HE.out]
 exact ⟨rfl, rfl⟩
theorem aiM (b off cap : Nat) (x : UInt8) (t : List UInt8) (n : Nat) (w : World) (hn : t.length + 1 = n) (hm : n ≤ 16) (hz : size x.toNat = 0)
  (hL : ∀ j (h : j < (x :: t).length), w.cell? ⟨b, off + j, none⟩ = some (.int .u8 ((x :: t)[j].toNat : Int)))
  (k1 : 245 ≤ (x.toNat : Int))
  (R : Bool × Bool) (hR : R = st (x :: t)) :
  Calls Tryz.prog 157 #[.slice (some ⟨b, off, none⟩) n cap] w fun e w' => e = .returned (.tuple #[.bool R.1, .bool R.2]) ∧ w = w' := by
 have hc0 : w.cell? ⟨b, off, none⟩ = some (.int .u8 (x.toNat : Int)) := by
  have := hL 0 (by simp)
  rw [Nat.add_zero] at this
  exact this
 have HL := hid hL
 have HN := hid hn
 have HZ := hid hz
 have HR := hid hR
 have hp : (0 : Int) < (n : Int) := by omega
 clear hL hn hz hR
 have HE : Hid (R = (false, false)) := by
  have e := HR.out
  rw [xu x t (.inl (by rw [HZ.out]; have := HN.out; omega))] at e
  exact e
 go_enter Tryz.func157, Tryz.ntmps157
 go_wp2
 go_ret2
 rw [HE.out]
 exact ⟨rfl, rfl⟩
end Go.Proofs.YtmpeaoacaecgpaaGreatDoor.RefS
namespace Go.Proofs.YtmpeaoacaecgpaaGreatDoor.RefN
open Go.RowKit Base Base2 qh RefS
def inR : Int → Int → List UInt8 → Prop
 | _, _, [] => True
 | l, h, c :: t => l ≤ (c.toNat : Int) ∧ (c.toNat : Int) ≤ h ∧ inR 128 191 t
def fo (r : Int) (t : List UInt8) : Int := t.foldl (fun r c => r * 64 + (c.toNat : Int) % 64) r
theorem RY : ∀ (p : List UInt8) (m k : Nat) (l h r : Int) (rest : List UInt8), inR l h p → p.length = m → tail m k l h r (p ++ rest) = (fo r p, ((k + m : Nat) : Int), true)
 | [], m, k, l, h, r, rest, _, hm => by
  simp at hm
  subst hm
  simp [tail, fo]
 | c :: p, 0, k, l, h, r, rest, _, hm => by simp at hm
 | c :: p, m + 1, k, l, h, r, rest, hi, hm => by
  obtain ⟨h1, h2, h3⟩ := hi
  rw [List.cons_append, tail, if_neg (by omega), RY p m (k + 1) 128 191 _ rest h3 (by simpa using hm)]
  refine Prod.ext rfl (Prod.ext ?_ rfl)
  simp only
  omega
theorem Wh : ∀ (p : List UInt8) (m k : Nat) (l h r : Int) (rest : List UInt8), inR l h p → p.length < m → (rest = [] ∨ ∃ c t, rest = c :: t ∧ (p = [] → ((c.toNat : Int) < l ∨ h < (c.toNat : Int))) ∧ (p ≠ [] → ((c.toNat : Int) < 128 ∨ 191 < (c.toNat : Int)))) →
  tail m k l h r (p ++ rest) = (65533, ((k + p.length : Nat) : Int), false)
 | _, 0, _, _, _, _, _, _, hm, _ => by simp at hm
 | [], m + 1, k, l, h, r, rest, _, hm, hr => by
  rcases hr with rfl | ⟨c, t, rfl, hc, _⟩
  ·simp [tail]
  ·rw [List.nil_append, tail, if_pos (hc rfl)]
   simp
 | c :: p, m + 1, k, l, h, r, rest, hi, hm, hr => by
  obtain ⟨h1, h2, h3⟩ := hi
  rw [List.cons_append, tail, if_neg (by omega), Wh p m (k + 1) 128 191 _ rest h3 (by simpa using hm) (by
   rcases hr with hr | ⟨c', t', e, _, h5⟩
   ·exact .inl hr
   ·exact .inr ⟨c', t', e, fun _ => h5 (by simp), fun _ => h5 (by simp)⟩)]
  refine Prod.ext rfl (Prod.ext ?_ rfl)
  simp only [List.length_cons]
  omega
theorem amb : ∀ t : List UInt8, inR 128 191 t ↔ JV t
 | [] => by simp [inR, JV]
 | c :: t => by
  have := amb t
  unfold JV at this ⊢
  simp only [inR, List.forall_mem_cons, this, and_assoc]
theorem aaT (c : UInt8) (t : List UInt8) : JV (c :: t) ↔ (128 ≤ (c.toNat : Int) ∧ (c.toNat : Int) ≤ 191) ∧ JV t := by
 unfold JV
 simp only [List.forall_mem_cons]
theorem Vp (x : Int) (hs : 2 ≤ size x) (p : List UInt8) : inR (lo x) (hi x) p ↔ JV p ∧ ¬ bad x p := by
 have hx : 194 ≤ x ∧ x ≤ 244 := by
  unfold size at hs
  (repeat' split at hs) <;> omega
 cases p with
 | nil => simp [inR, JV, bad]
 | cons c t =>
  rw [aaT, inR, amb]
  unfold bad Fv lo hi
  constructor
  ·rintro ⟨h1, h2, h3⟩
   refine ⟨⟨?_, h3⟩, ?_⟩
   ·(repeat' split at h1) <;> (repeat' split at h2) <;> omega
   ·(repeat' split at h1) <;> (repeat' split at h2) <;> omega
  ·rintro ⟨⟨h1, h3⟩, h2⟩
   refine ⟨?_, ?_, h3⟩
   ·(repeat' split) <;> omega
   ·(repeat' split) <;> omega
def first (x : Int) : Int := if x ≤ 127 then x else if x ≤ 223 then x % 32 else if x ≤ 239 then x % 16 else x % 8
theorem size_le (x : Int) : 0 ≤ size x ∧ size x ≤ 4 := by unfold size; (repeat' split) <;> omega
theorem agh (x : UInt8) (T : List UInt8) (hs : 1 ≤ size x.toNat) : rd (x :: T) = tail (size x.toNat - 1).toNat 1 (lo x.toNat) (hi x.toNat) (first x.toNat) T := by
 have hx0 : 0 ≤ (x.toNat : Int) := by omega
 by_cases a : (x.toNat : Int) ≤ 127
 ·have e : size x.toNat = 1 := by unfold size; rw [if_pos a]
  rw [rd, if_pos a, e]
  simp [tail, first, a]
 ·by_cases b : (x.toNat : Int) ≤ 193 ∨ 245 ≤ (x.toNat : Int)
  ·exfalso
   unfold size at hs
   (repeat' split at hs) <;> omega
  ·rw [rd, if_neg a, if_neg b]
   unfold first
   rw [if_neg a]
   by_cases c : (x.toNat : Int) ≤ 223
   ·have e : size x.toNat = 2 := by unfold size; rw [if_neg a, if_pos (by omega)]
    rw [if_pos c, if_pos c, e]
    rfl
   ·rw [if_neg c, if_neg c]
    by_cases d : (x.toNat : Int) ≤ 239
    ·have e : size x.toNat = 3 := by unfold size; rw [if_neg a, if_neg (by omega), if_pos (by omega)]
     rw [if_pos d, if_pos d, e]
     rfl
    ·have e : size x.toNat = 4 := by unfold size; rw [if_neg a, if_neg (by omega), if_neg (by omega), if_pos (by omega)]
     rw [if_neg d, if_neg d, e]
     rfl
theorem rd_zero (x : UInt8) (T : List UInt8) (hs : size x.toNat < 1) : rd (x :: T) = (65533, 1, false) := by
 have b : ((x.toNat : Int) ≤ 193 ∨ 245 ≤ (x.toNat : Int)) ∧ ¬ (x.toNat : Int) ≤ 127 := by
  unfold size at hs
  (repeat' split at hs) <;> omega
 rw [rd, if_neg b.2, if_pos b.1]
theorem JC (x : UInt8) (p : List UInt8) (W : Bool) (h : st (x :: p) = (true, W)) : ¬ size x.toNat < (p.length : Int) + 1 ∧ JV p ∧ ¬ bad x.toNat p ∧ W = decide ((p.length : Int) + 1 = size x.toNat) := by
 rw [st] at h
 split at h
 ·cases h
 ·rename_i hn
  injection h with h1 h2
  refine ⟨fun a => hn (.inl a), ?_, fun a => hn (.inr (.inr a)), h2.symm⟩
  exact Decidable.byContradiction fun a => hn (.inr (.inl a))
theorem afF (x : Int) (p : List UInt8) (hs : 1 ≤ size x) (hp : (p.length : Int) + 1 ≤ size x) (h1 : JV p) (h2 : ¬ bad x p) : inR (lo x) (hi x) p := by
 by_cases a : 2 ≤ size x
 ·exact (Vp x a p).2 ⟨h1, h2⟩
 ·cases p with
  | nil => trivial
  | cons c t => simp at hp; omega
theorem an2 (x : UInt8) (p rest : List UInt8) (h : st (x :: p) = (true, true)) : rd (x :: (p ++ rest)) = (fo (first x.toNat) p, (p.length : Int) + 1, true) := by
 obtain ⟨h1, h2, h3, h4⟩ := JC x p true h
 have h5 : (p.length : Int) + 1 = size x.toNat := by simpa using h4.symm
 rw [agh x _ (by omega), RY p _ 1 _ _ _ rest (afF _ p (by omega) (by omega) h2 h3) (by omega)]
 refine Prod.ext rfl (Prod.ext ?_ rfl)
 simp only
 omega
theorem part_rd (x : UInt8) (p rest : List UInt8) (h : st (x :: p) = (true, false)) (hr : rest = [] ∨ ∃ c t, rest = c :: t ∧ (st (x :: (p ++ [c]))).1 = false) : rd (x :: (p ++ rest)) = (65533, (p.length : Int) + 1, false) := by
 obtain ⟨h1, h2, h3, h4⟩ := JC x p false h
 have h5 : ¬ (p.length : Int) + 1 = size x.toNat := by simpa using h4.symm
 have h6 : 2 ≤ size x.toNat := by omega
 rw [agh x _ (by omega), Wh p _ 1 _ _ _ rest (afF _ p (by omega) (by omega) h2 h3) (by omega) (by
  rcases hr with hr | ⟨c, t, rfl, hc⟩
  ·exact .inl hr
  ·refine .inr ⟨c, t, rfl, ?_, ?_⟩
   ·rintro rfl
    have hn : ¬ inR (lo x.toNat) (hi x.toNat) [c] := by
     intro hi
     obtain ⟨a1, a2⟩ := (Vp _ h6 [c]).1 hi
     have : st (x :: ([] ++ [c])) = (true, decide ((([c] : List UInt8).length : Int) + 1 = size x.toNat)) := vT x [c] (QO (by simp; omega) a1 a2)
     rw [this] at hc
     cases hc
    simp only [inR, and_true] at hn
    omega
   ·intro hp
    have hn : ¬ JV [c] := by
     intro hok
     have a1 : JV (p ++ [c]) := by
      intro d hd
      rcases List.mem_append.1 hd with hd | hd
      ·exact h2 d hd
      ·exact hok d hd
     have a2 : ¬ bad x.toNat (p ++ [c]) := by
      cases p with
      | nil => exact absurd rfl hp
      | cons d p => exact h3
     have : st (x :: (p ++ [c])) = (true, decide (((p ++ [c]).length : Int) + 1 = size x.toNat)) := vT x _ (QO (by simp; omega) a1 a2)
     rw [this] at hc
     cases hc
    rw [aaT] at hn
    have : JV [] := by intro d hd; cases hd
    simp only [this, and_true] at hn
    omega)]
 refine Prod.ext rfl (Prod.ext ?_ rfl)
 simp only
 omega
theorem none_rd (x : UInt8) (T : List UInt8) (h : (st [x]).1 = false) : rd (x :: T) = (65533, 1, false) := by
 refine rd_zero x T ?_
 rcases Int.lt_or_le (size x.toNat) 1 with h1 | h1
 ·exact h1
 ·have : st [x] = (true, decide ((([] : List UInt8).length : Int) + 1 = size x.toNat)) := vT x [] (QO (by simp; omega) (by intro d hd; cases hd) (fun h => h))
  rw [this] at h
  cases h
end Go.Proofs.YtmpeaoacaecgpaaGreatDoor.RefN
namespace Go.Proofs.YtmpeaoacaecgpaaGreatDoor.RefM
open Go.RowKit Base Base2 qh RefS RefN
theorem amF (b off cap : Nat) (x : UInt8) (t : List UInt8) (w : World) (hn : t.length = 0) (k2 : (x.toNat : Int) ≤ 127)
  (hL : ∀ j (h : j < (x :: t).length), w.cell? ⟨b, off + j, none⟩ = some (.int .u8 ((x :: t)[j].toNat : Int))) (hok : JV t) :
  Calls Tryz.prog 158 #[.slice (some ⟨b, off, none⟩) 1 cap] w fun e w' => e = .returned (.int .i32 (fo (first x.toNat) t)) ∧ w = w' := by
 have hc0 : w.cell? ⟨b, off, none⟩ = some (.int .u8 (x.toNat : Int)) := by
  have := hL 0 (by simp)
  rw [Nat.add_zero] at this
  exact this
 have hx0 : 0 ≤ (x.toNat : Int) := by omega
 have hf : first x.toNat = (x.toNat : Int) := by unfold first; (repeat' split) <;> omega
 obtain ⟨f, hf2⟩ : ∃ f, f = first x.toNat := ⟨_, rfl⟩
 rw [← hf2] at hf ⊢
 have hb0 : 0 ≤ (x.toNat : Int) ∧ (x.toNat : Int) < 128 := by omega
 have HL := hid hL
 have HN := hid hn
 have HO := hid hok
 have HF := hid hf
 clear hL hn hok hf hf2
 go_enter Tryz.func158, Tryz.ntmps158
 go_wp2
 go_loop [3, 4] (fun vr vk => ∃ (k : Nat) (r : Int), 1 ≤ k ∧ k ≤ 1 ∧ vk = .int .i64 k ∧ vr = .int .i32 r ∧ 0 ≤ r ∧ r < 4 * room k ∧ Hid (fo r (t.drop (k - 1)) = fo f t)) (fun _ vk => 1 - (intOf vk).toNat)
 case atStart => exact ⟨1, (x.toNat : Int), by omega, by omega, rfl, rfl, by omega, by have : room 1 = 32 := rfl; omega, by rw [HF.out]; exact rfl⟩
 case round =>
  obtain ⟨k, r, hk1, hk2, rfl, rfl, hr1, hr2, HT⟩ := hrel
  by_cases hlt : k < 1
  ·exact absurd hlt (by omega)
  ·obtain rfl : k = 1 := by omega
   have HE : Hid (fo f t = r) := by
    have e := HT.out
    rw [List.drop_of_length_le (by have := HN.out; omega)] at e
    exact e.symm
   go_wp2
   go_ret
   rw [HE.out]
   exact ⟨rfl, rfl⟩
theorem amG (b off cap : Nat) (x : UInt8) (t : List UInt8) (w : World) (hn : t.length = 1) (k1 : 194 ≤ (x.toNat : Int)) (k2 : (x.toNat : Int) ≤ 223)
  (hL : ∀ j (h : j < (x :: t).length), w.cell? ⟨b, off + j, none⟩ = some (.int .u8 ((x :: t)[j].toNat : Int))) (hok : JV t) :
  Calls Tryz.prog 158 #[.slice (some ⟨b, off, none⟩) 2 cap] w fun e w' => e = .returned (.int .i32 (fo (first x.toNat) t)) ∧ w = w' := by
 have hc0 : w.cell? ⟨b, off, none⟩ = some (.int .u8 (x.toNat : Int)) := by
  have := hL 0 (by simp)
  rw [Nat.add_zero] at this
  exact this
 have hx0 : 0 ≤ (x.toNat : Int) := by omega
 have hf : first x.toNat = (x.toNat : Int) - 192 := by unfold first; (repeat' split) <;> omega
 obtain ⟨f, hf2⟩ : ∃ f, f = first x.toNat := ⟨_, rfl⟩
 rw [← hf2] at hf ⊢
 have hb0 : 0 ≤ (x.toNat : Int) - 192 ∧ (x.toNat : Int) - 192 < 128 := by omega
 have HL := hid hL
 have HN := hid hn
 have HO := hid hok
 have HF := hid hf
 clear hL hn hok hf hf2
 go_enter Tryz.func158, Tryz.ntmps158
 go_wp2
 go_loop [3, 4] (fun vr vk => ∃ (k : Nat) (r : Int), 1 ≤ k ∧ k ≤ 2 ∧ vk = .int .i64 k ∧ vr = .int .i32 r ∧ 0 ≤ r ∧ r < 4 * room k ∧ Hid (fo r (t.drop (k - 1)) = fo f t)) (fun _ vk => 2 - (intOf vk).toNat)
 case atStart => exact ⟨1, (x.toNat : Int) - 192, by omega, by omega, rfl, rfl, by omega, by have : room 1 = 32 := rfl; omega, by rw [HF.out]; exact rfl⟩
 case round =>
  obtain ⟨k, r, hk1, hk2, rfl, rfl, hr1, hr2, HT⟩ := hrel
  by_cases hlt : k < 2
  ·obtain ⟨hb1, hb2⟩ := uI k hk1 (by omega)
   have HB := hid hb1
   clear hb1
   have hr3 : r < 524288 := by omega
   have hlx : k - 1 < t.length := by have := HN.out; omega
   obtain ⟨c, hc⟩ : ∃ c, c = t[k - 1] := ⟨_, rfl⟩
   have hcell : w.cell? ⟨b, off + k, none⟩ = some (.int .u8 (c.toNat : Int)) := by
    rw [HL.out k (by simp; omega), hc]
    obtain ⟨i, rfl⟩ : ∃ i, k = i + 1 := ⟨k - 1, by omega⟩
    simp
   obtain ⟨hc1, hc2⟩ := HO.out c (by rw [hc]; exact List.getElem_mem _)
   have HD : Hid (fo (r * 64 + ((c.toNat : Int) - 128)) (t.drop k) = fo f t) := by
    have e := HT.out
    rw [List.drop_eq_getElem_cons hlx, ← hc, show k - 1 + 1 = k by omega] at e
    rw [show (c.toNat : Int) - 128 = (c.toNat : Int) % 64 by omega]
    exact e
   clear hc HT
   go_wp2
   go_round
   case rel => exact ⟨k + 1, r * 64 + ((c.toNat : Int) - 128), by omega, by omega, by go_num, int_eq (by omega), by omega, by rw [HB.out]; omega, HD⟩
   case measure => simp [intOf]; omega
  ·obtain rfl : k = 2 := by omega
   have HE : Hid (fo f t = r) := by
    have e := HT.out
    rw [List.drop_of_length_le (by have := HN.out; omega)] at e
    exact e.symm
   go_wp2
   go_ret
   rw [HE.out]
   exact ⟨rfl, rfl⟩
theorem amH (b off cap : Nat) (x : UInt8) (t : List UInt8) (w : World) (hn : t.length = 2) (k1 : 224 ≤ (x.toNat : Int)) (k2 : (x.toNat : Int) ≤ 239)
  (hL : ∀ j (h : j < (x :: t).length), w.cell? ⟨b, off + j, none⟩ = some (.int .u8 ((x :: t)[j].toNat : Int))) (hok : JV t) :
  Calls Tryz.prog 158 #[.slice (some ⟨b, off, none⟩) 3 cap] w fun e w' => e = .returned (.int .i32 (fo (first x.toNat) t)) ∧ w = w' := by
 have hc0 : w.cell? ⟨b, off, none⟩ = some (.int .u8 (x.toNat : Int)) := by
  have := hL 0 (by simp)
  rw [Nat.add_zero] at this
  exact this
 have hx0 : 0 ≤ (x.toNat : Int) := by omega
 have hf : first x.toNat = (x.toNat : Int) - 224 := by unfold first; (repeat' split) <;> omega
 obtain ⟨f, hf2⟩ : ∃ f, f = first x.toNat := ⟨_, rfl⟩
 rw [← hf2] at hf ⊢
 have hb0 : 0 ≤ (x.toNat : Int) - 224 ∧ (x.toNat : Int) - 224 < 128 := by omega
 have HL := hid hL
 have HN := hid hn
 have HO := hid hok
 have HF := hid hf
 clear hL hn hok hf hf2
 go_enter Tryz.func158, Tryz.ntmps158
 go_wp2
 go_loop [3, 4] (fun vr vk => ∃ (k : Nat) (r : Int), 1 ≤ k ∧ k ≤ 3 ∧ vk = .int .i64 k ∧ vr = .int .i32 r ∧ 0 ≤ r ∧ r < 4 * room k ∧ Hid (fo r (t.drop (k - 1)) = fo f t)) (fun _ vk => 3 - (intOf vk).toNat)
 case atStart => exact ⟨1, (x.toNat : Int) - 224, by omega, by omega, rfl, rfl, by omega, by have : room 1 = 32 := rfl; omega, by rw [HF.out]; exact rfl⟩
 case round =>
  obtain ⟨k, r, hk1, hk2, rfl, rfl, hr1, hr2, HT⟩ := hrel
  by_cases hlt : k < 3
  ·obtain ⟨hb1, hb2⟩ := uI k hk1 (by omega)
   have HB := hid hb1
   clear hb1
   have hr3 : r < 524288 := by omega
   have hlx : k - 1 < t.length := by have := HN.out; omega
   obtain ⟨c, hc⟩ : ∃ c, c = t[k - 1] := ⟨_, rfl⟩
   have hcell : w.cell? ⟨b, off + k, none⟩ = some (.int .u8 (c.toNat : Int)) := by
    rw [HL.out k (by simp; omega), hc]
    obtain ⟨i, rfl⟩ : ∃ i, k = i + 1 := ⟨k - 1, by omega⟩
    simp
   obtain ⟨hc1, hc2⟩ := HO.out c (by rw [hc]; exact List.getElem_mem _)
   have HD : Hid (fo (r * 64 + ((c.toNat : Int) - 128)) (t.drop k) = fo f t) := by
    have e := HT.out
    rw [List.drop_eq_getElem_cons hlx, ← hc, show k - 1 + 1 = k by omega] at e
    rw [show (c.toNat : Int) - 128 = (c.toNat : Int) % 64 by omega]
    exact e
   clear hc HT
   go_wp2
   go_round
   case rel => exact ⟨k + 1, r * 64 + ((c.toNat : Int) - 128), by omega, by omega, by go_num, int_eq (by omega), by omega, by rw [HB.out]; omega, HD⟩
   case measure => simp [intOf]; omega
  ·obtain rfl : k = 3 := by omega
   have HE : Hid (fo f t = r) := by
    have e := HT.out
    rw [List.drop_of_length_le (by have := HN.out; omega)] at e
    exact e.symm
   go_wp2
   go_ret
   rw [HE.out]
   exact ⟨rfl, rfl⟩
theorem amI (b off cap : Nat) (x : UInt8) (t : List UInt8) (w : World) (hn : t.length = 3) (k1 : 240 ≤ (x.toNat : Int)) (k2 : (x.toNat : Int) ≤ 244)
  (hL : ∀ j (h : j < (x :: t).length), w.cell? ⟨b, off + j, none⟩ = some (.int .u8 ((x :: t)[j].toNat : Int))) (hok : JV t) :
  Calls Tryz.prog 158 #[.slice (some ⟨b, off, none⟩) 4 cap] w fun e w' => e = .returned (.int .i32 (fo (first x.toNat) t)) ∧ w = w' := by
 have hc0 : w.cell? ⟨b, off, none⟩ = some (.int .u8 (x.toNat : Int)) := by
  have := hL 0 (by simp)
  rw [Nat.add_zero] at this
  exact this
 have hx0 : 0 ≤ (x.toNat : Int) := by omega
 have hf : first x.toNat = (x.toNat : Int) - 240 := by unfold first; (repeat' split) <;> omega
 obtain ⟨f, hf2⟩ : ∃ f, f = first x.toNat := ⟨_, rfl⟩
 rw [← hf2] at hf ⊢
 have hb0 : 0 ≤ (x.toNat : Int) - 240 ∧ (x.toNat : Int) - 240 < 128 := by omega
 have HL := hid hL
 have HN := hid hn
 have HO := hid hok
 have HF := hid hf
 clear hL hn hok hf hf2
 go_enter Tryz.func158, Tryz.ntmps158
 go_wp2
 go_loop [3, 4] (fun vr vk => ∃ (k : Nat) (r : Int), 1 ≤ k ∧ k ≤ 4 ∧ vk = .int .i64 k ∧ vr = .int .i32 r ∧ 0 ≤ r ∧ r < 4 * room k ∧ Hid (fo r (t.drop (k - 1)) = fo f t)) (fun _ vk => 4 - (intOf vk).toNat)
 case atStart => exact ⟨1, (x.toNat : Int) - 240, by omega, by omega, rfl, rfl, by omega, by have : room 1 = 32 := rfl; omega, by rw [HF.out]; exact rfl⟩
 case round =>
  obtain ⟨k, r, hk1, hk2, rfl, rfl, hr1, hr2, HT⟩ := hrel
  by_cases hlt : k < 4
  ·obtain ⟨hb1, hb2⟩ := uI k hk1 (by omega)
   have HB := hid hb1
   clear hb1
   have hr3 : r < 524288 := by omega
   have hlx : k - 1 < t.length := by have := HN.out; omega
   obtain ⟨c, hc⟩ : ∃ c, c = t[k - 1] := ⟨_, rfl⟩
   have hcell : w.cell? ⟨b, off + k, none⟩ = some (.int .u8 (c.toNat : Int)) := by
    rw [HL.out k (by simp; omega), hc]
    obtain ⟨i, rfl⟩ : ∃ i, k = i + 1 := ⟨k - 1, by omega⟩
    simp
   obtain ⟨hc1, hc2⟩ := HO.out c (by rw [hc]; exact List.getElem_mem _)
   have HD : Hid (fo (r * 64 + ((c.toNat : Int) - 128)) (t.drop k) = fo f t) := by
    have e := HT.out
    rw [List.drop_eq_getElem_cons hlx, ← hc, show k - 1 + 1 = k by omega] at e
    rw [show (c.toNat : Int) - 128 = (c.toNat : Int) % 64 by omega]
    exact e
   clear hc HT
   go_wp2
   go_round
   case rel => exact ⟨k + 1, r * 64 + ((c.toNat : Int) - 128), by omega, by omega, by go_num, int_eq (by omega), by omega, by rw [HB.out]; omega, HD⟩
   case measure => simp [intOf]; omega
  ·obtain rfl : k = 4 := by omega
   have HE : Hid (fo f t = r) := by
    have e := HT.out
    rw [List.drop_of_length_le (by have := HN.out; omega)] at e
    exact e.symm
   go_wp2
   go_ret
   rw [HE.out]
   exact ⟨rfl, rfl⟩
theorem aeC (b off n cap : Nat) (x : UInt8) (t : List UInt8) (w : World) (h : aY w (some ⟨b, off, none⟩) n (ah (x :: t))) (hm : n ≤ 16) :
  Calls Tryz.prog 157 #[.slice (some ⟨b, off, none⟩) n cap] w fun e w' => e = .returned (.tuple #[.bool (st (x :: t)).1, .bool (st (x :: t)).2]) ∧ w = w' := by
 have hn : t.length + 1 = n := by have := h.1; rw [aI] at this; exact this
 have hL : ∀ j (hj : j < (x :: t).length), w.cell? ⟨b, off + j, none⟩ = some (.int .u8 ((x :: t)[j].toNat : Int)) := fun j hj => h.byte j hj
 by_cases a : (x.toNat : Int) < 128
 ·exact anF b off cap x t n w hn hm (by unfold size; (repeat' split) <;> omega) hL a _ rfl
 by_cases b0 : (x.toNat : Int) ≤ 193
 ·exact aiL b off cap x t n w hn hm (by unfold size; (repeat' split) <;> omega) hL (by omega) b0 _ rfl
 by_cases b1 : (x.toNat : Int) ≤ 223
 ·exact anG b off cap x t n w hn hm (by unfold size; (repeat' split) <;> omega) hL (by omega) b1 _ rfl
 by_cases b2 : (x.toNat : Int) ≤ 239
 ·exact anH b off cap x t n w hn hm (by unfold size; (repeat' split) <;> omega) hL (by omega) b2 _ rfl
 by_cases b3 : (x.toNat : Int) ≤ 244
 ·exact anI b off cap x t n w hn hm (by unfold size; (repeat' split) <;> omega) hL (by omega) b3 _ rfl
 ·exact aiM b off cap x t n w hn hm (by unfold size; (repeat' split) <;> omega) hL (by omega) _ rfl
theorem bf (b off n cap : Nat) (x : UInt8) (t : List UInt8) (w : World) (h : aY w (some ⟨b, off, none⟩) n (ah (x :: t))) (hs : st (x :: t) = (true, true)) :
  Calls Tryz.prog 158 #[.slice (some ⟨b, off, none⟩) n cap] w fun e w' => e = .returned (.int .i32 (fo (first x.toNat) t)) ∧ w = w' := by
 have hn : t.length + 1 = n := by have := h.1; rw [aI] at this; exact this
 have hL : ∀ j (hj : j < (x :: t).length), w.cell? ⟨b, off + j, none⟩ = some (.int .u8 ((x :: t)[j].toNat : Int)) := fun j hj => h.byte j hj
 obtain ⟨h1, h2, h3, h4⟩ := JC x t true hs
 have h5 : (t.length : Int) + 1 = size x.toNat := by simpa using h4.symm
 have h6 := size_le x.toNat
 have hx0 : 0 ≤ (x.toNat : Int) := by omega
 have hcase : n = 1 ∨ n = 2 ∨ n = 3 ∨ n = 4 := by omega
 rcases hcase with rfl | rfl | rfl | rfl
 ·exact amF b off cap x t w (by omega) (by
    have e : size x.toNat = 1 := by omega
    unfold size at e; (repeat' split at e) <;> omega) hL h2
 ·have e : 194 ≤ (x.toNat : Int) ∧ (x.toNat : Int) ≤ 223 := by
   have e : size x.toNat = 2 := by omega
   unfold size at e
   (repeat' split at e) <;> omega
  exact amG b off cap x t w (by omega) e.1 e.2 hL h2
 ·have e : 224 ≤ (x.toNat : Int) ∧ (x.toNat : Int) ≤ 239 := by
   have e : size x.toNat = 3 := by omega
   unfold size at e
   (repeat' split at e) <;> omega
  exact amH b off cap x t w (by omega) e.1 e.2 hL h2
 ·have e : 240 ≤ (x.toNat : Int) ∧ (x.toNat : Int) ≤ 244 := by
   have e : size x.toNat = 4 := by omega
   unfold size at e
   (repeat' split at e) <;> omega
  exact amI b off cap x t w (by omega) e.1 e.2 hL h2
end Go.Proofs.YtmpeaoacaecgpaaGreatDoor.RefM
namespace Go.Proofs.YtmpeaoacaecgpaaGreatDoor.RefC
open Go.RowKit Base Base2 acU
def ahf (r : Int) : Bool := decide (Cc r)
theorem C9 (r : Int) (w : World) : Calls Tryz.prog 253 #[.int .i32 r] w fun e w' => e = .returned (.bool (ahf r)) ∧ w = w' := by
 go_enter Tryz.func253, Tryz.ntmps253
 go_wp2
 all_goals
  go_ret
  exact ⟨ak (by unfold ahf Cc; rw [Bool.eq_iff_iff]; simp; omega), rfl⟩
theorem made (w : World) (xs : List Value) (n : Nat) (t : TypeId) (hn : xs.length = n) : aY (w.alloc (.cells xs.toArray t)) (some ⟨w.heap.size, 0, none⟩) n xs :=
 aY.jF hn (by simp) (fun j hj => by
  rw [Nat.zero_add, World.cell?_alloc_mark]
  simp)
theorem rds_at {w : World} {g o n : Nat} {xs : List Value} (h : aY w (some ⟨g, o, none⟩) n xs) : ∀ j u, xs[j]? = some u → w.cell? ((⟨g, o, none⟩ : Addr).add j) = some u := by
 intro j u hu
 obtain ⟨hj, e⟩ := List.getElem?_eq_some_iff.1 hu
 obtain ⟨b, off, e1, _, hc⟩ := h.2 j hj
 injection e1 with e1
 injection e1 with e2 e3
 subst e2 e3
 have ha : (⟨g, o, none⟩ : Addr).add j = ⟨g, o + j, none⟩ := by
  unfold Addr.add
  split <;> simp_all
 rw [ha, hc, e]
def Zv (w : World) (r : Int) (e : Ending) (w' : World) : Prop :=
 ∃ A c, e = .returned (.slice A (Lib.encodeRune r).length c) ∧ aY w' A (Lib.encodeRune r).length (ah (Lib.encodeRune r)) ∧ (∃ g o, A = some ⟨g, o, none⟩) ∧ (Lib.encodeRune r).length ≤ c ∧ Below w.heap.size w w'
theorem fin (w : World) (news : List Value) (n : Nat) (r : Int) (h : ah (Lib.encodeRune r) = news) (hn : news.length = n) :
  Zv w r (.returned (.slice (some ⟨w.heap.size, 0, none⟩) n n)) (w.alloc (.cells news.toArray 5)) := by
 have hl : (Lib.encodeRune r).length = n := by rw [← aI, h, hn]
 unfold Zv
 rw [h, hl]
 exact ⟨_, n, rfl, made w news n _ hn, ⟨_, _, rfl⟩, Nat.le_refl _, (Below.refl _ _).alloc (Nat.le_refl _) _⟩
theorem one_chr (r : Int) (hc : Cc r) (w : World) : Calls Tryz.prog 156 #[.int .i32 r] w (Zv w r) := by
 have hB : Hid (ahf r = true) := by unfold Hid ahf; simpa using hc
 obtain ⟨h0, h1, h2⟩ := hc
 by_cases a : r ≤ 127
 ·have a' : r < 128 := by omega
  have e1 := hid (jw r h0 (by omega))
  have HE := hid (enc1 r h0 a)
  clear h2
  go_enter Tryz.func156, Tryz.ntmps156
  go_wp2_with fail
  refine (C9 _ _).mono ?_
  rintro e w1 ⟨rfl, rfl⟩
  rw [hB.out]
  go_wp2
  go_ret
  exact fin w [.int .u8 r] 1 r (by
   rw [HE.out]
   simp only [ah, List.map_cons, List.map_nil, e1.out]) rfl
 by_cases b : r ≤ 2047
 ·have a' : ¬ r < 128 := by omega
  have b' : r < 2048 := by omega
  have e1 := hid (jw (192 + r / 64) (by omega) (by omega))
  have e2 := hid (jw (128 + r % 64) (by omega) (by omega))
  have HE := hid (enc2 r (by omega) b)
  clear h2 a b
  go_enter Tryz.func156, Tryz.ntmps156
  go_wp2_with fail
  refine (C9 _ _).mono ?_
  rintro e w1 ⟨rfl, rfl⟩
  rw [hB.out]
  go_wp2
  go_ret
  exact fin w [.int .u8 (192 + r / 64), .int .u8 (128 + r % 64)] 2 r (by
   rw [HE.out]
   simp only [ah, List.map_cons, List.map_nil, e1.out, e2.out]) rfl
 by_cases c : r ≤ 65535
 ·have b' : ¬ r < 2048 := by omega
  have c' : r < 65536 := by omega
  have e1 := hid (jw (224 + r / 4096) (by omega) (by omega))
  have e2 := hid (jw (128 + r / 64 % 64) (by omega) (by omega))
  have e3 := hid (jw (128 + r % 64) (by omega) (by omega))
  have HE := hid (enc3 r (by omega))
  clear h2 a b c
  go_enter Tryz.func156, Tryz.ntmps156
  go_wp2_with fail
  refine (C9 _ _).mono ?_
  rintro e w1 ⟨rfl, rfl⟩
  rw [hB.out]
  go_wp2
  go_ret
  exact fin w [.int .u8 (224 + r / 4096), .int .u8 (128 + r / 64 % 64), .int .u8 (128 + r % 64)] 3 r (by
   rw [HE.out]
   simp only [ah, List.map_cons, List.map_nil, e1.out, e2.out, e3.out]) rfl
 ·have c' : ¬ r < 65536 := by omega
  have e1 := hid (jw (240 + r / 262144) (by omega) (by omega))
  have e2 := hid (jw (128 + r / 4096 % 64) (by omega) (by omega))
  have e3 := hid (jw (128 + r / 64 % 64) (by omega) (by omega))
  have e4 := hid (jw (128 + r % 64) (by omega) (by omega))
  have HE := hid (enc4 r (by omega) h1)
  clear h2 a b c
  go_enter Tryz.func156, Tryz.ntmps156
  go_wp2_with fail
  refine (C9 _ _).mono ?_
  rintro e w1 ⟨rfl, rfl⟩
  rw [hB.out]
  go_wp2
  go_ret
  exact fin w [.int .u8 (240 + r / 262144), .int .u8 (128 + r / 4096 % 64), .int .u8 (128 + r / 64 % 64), .int .u8 (128 + r % 64)] 4 r (by
   rw [HE.out]
   simp only [ah, List.map_cons, List.map_nil, e1.out, e2.out, e3.out, e4.out]) rfl
theorem one_bad (r : Int) (hc : ¬ Cc r) (w : World) : Calls Tryz.prog 156 #[.int .i32 r] w (Zv w r) := by
 have hB : Hid (ahf r = false) := by unfold Hid ahf; simpa using hc
 have HE : Hid (Lib.encodeRune r = [239, 191, 189]) := by
  show Lib.encodeRune r = [239, 191, 189]
  rw [encBad r hc]
  decide
 clear hc
 go_enter Tryz.func156, Tryz.ntmps156
 go_wp2_with fail
 refine (C9 _ _).mono ?_
 rintro e w1 ⟨rfl, rfl⟩
 rw [hB.out]
 go_wp2
 go_ret
 exact fin w [.int .u8 239, .int .u8 191, .int .u8 189] 3 r (by rw [HE.out]; rfl) rfl
theorem one_any (r : Int) (w : World) : Calls Tryz.prog 156 #[.int .i32 r] w (Zv w r) := by
 by_cases h : Cc r
 ·exact one_chr r h w
 ·exact one_bad r h w
theorem Rn (A : Option Addr) (n cap : Nat) (l : List Int) (w : World) (h : aY w A n (gV .i32 l)) (hm : n ≤ 1073741824) :
  Calls Tryz.prog 60 #[.slice A n cap] w fun e w' => ∃ v, e = .returned v ∧ w'.ownsRow w.heap.size 5 1 v (BI.enc l).length (ah (BI.enc l)) ∧ Below w.heap.size w w' := by
 have hl : l.length = n := by rw [← jA .i32]; exact h.1
 have HL := hid hl
 clear hl
 obtain ⟨i0, hi, hz0, hz1, hz2⟩ := info_parts iR
 have HH := hid h
 clear h
 go_enter Tryz.func60, Tryz.ntmps60
 go_wp2
 go_loopw [3, 7] (fun v vk wr => ∃ (k : Nat), k ≤ n ∧ vk = .int .i64 k ∧ wr.ownsRow w.heap.size 5 1 v (BI.enc (l.take k)).length (ah (BI.enc (l.take k))) ∧ Below w.heap.size w wr) (fun _ vk _ => n - (intOf vk).toNat)
 case atStart => exact ⟨0, Nat.zero_le _, rfl, World.ownsRow_nil _ _ _ _, Below.refl _ _⟩
 case round =>
  obtain ⟨k, hk, rfl, hown, hbel⟩ := hrel
  by_cases hlt : k < n
  ·obtain ⟨b, off, rfl, hb, _⟩ := (HH.out).spot (by omega)
   obtain ⟨r, hx⟩ : ∃ r, r = l[k]'(by rw [HL.out]; exact hlt) := ⟨_, rfl⟩
   have hcell : wr.cell? ⟨b, off + k, none⟩ = some (.int .i32 r) := by
    rw [hx, ← HH.out.int k (by rw [HL.out]; exact hlt)]
    exact hbel.cell (p := ⟨b, off + k, none⟩) hb
   have HS : Hid (l.take (k + 1) = l.take k ++ [r]) := by
    rw [hx]
    exact List.take_succ_eq_append_getElem (by rw [HL.out]; exact hlt)
   clear hx
   have hle := (BI.iW (l.take k)).1
   have hle2 : (l.take k).length ≤ k := List.length_take_le _ _
   have hle3 := BI.Jy r
   obtain ⟨m, hmm⟩ : ∃ m, m = (BI.enc (l.take k)).length := ⟨_, rfl⟩
   rw [← hmm] at hle hown
   have HM := hid hmm
   clear hmm
   obtain ⟨q, hq⟩ : ∃ q, q = (Lib.encodeRune r).length := ⟨_, rfl⟩
   rw [← hq] at hle3
   have HQ := hid hq
   clear hq
   go_wp2_with fail
   refine (one_any _ _).mono ?_
   rintro e w1 ⟨A1, c1, rfl, hr1, ⟨g, o, rfl⟩, hc1, hb1⟩
   rw [← HQ.out] at hr1 hc1 ⊢
   have hown1 := aP hown hb1
   have gW := hbel.trans (hb1.mono hbel.size)
   clear hown hbel
   go_wp2_with (at_builtin; refine wpList_append_own _ rfl _ _ 45 rfl w.heap.size 5 i0 (.int .u8 0) 1 1 Tryz.underlying45 hi hz0 hz1 hz2 rfl (by decide) _ m _ rfl hown1 ⟨g, o, none⟩ q c1 (ah (Lib.encodeRune r)) rfl (by rw [aI, ← HQ.out, Nat.mul_one]) (rds_at hr1) (nR _) (by unfold maxLen; omega) (by omega) gW.size ?_)
   intro v' w2 hown2 hg2 _
   have dZ : Below w.heap.size w w2 := gW.grown hg2 gW.size (fun g hg => (hown1.lt g hg).1)
   clear hown1 gW hg2
   go_wp2
   go_roundw
   case rel => exact ⟨k + 1, by omega, by go_num, by
     rw [HS.out, BI.rM, List.length_append, aS, ← HM.out, ← HQ.out]
     exact hown2, dZ⟩
   case measure => simp [intOf]; omega
  ·obtain rfl : k = n := by omega
   have HE : Hid (l.take k = l) := by
    rw [← HL.out]; exact List.take_length
   go_wp2
   go_ret
   exact ⟨_, rfl, by rw [HE.out] at hown; exact hown, hbel⟩
end Go.Proofs.YtmpeaoacaecgpaaGreatDoor.RefC
namespace Go.Proofs.YtmpeaoacaecgpaaGreatDoor.RefD
open Go.RowKit Base Base2 qh RefS RefN RefM
def akr (L : List UInt8) (j : Nat) (wh : Bool) : Prop := j = 0 ∧ wh = false ∨ 1 ≤ j ∧ j ≤ L.length ∧ st (L.take j) = (true, wh)
theorem LG (x : UInt8) (T : List UInt8) (j : Nat) (wh : Bool) (h : akr (x :: T) j wh) (hend : wh = true ∨ j = T.length + 1 ∨ j ≤ T.length ∧ (st ((x :: T).take (j + 1))).1 = false) :
  (wh = true → rd (x :: T) = (fo (first x.toNat) ((x :: T).take j).tail, (j : Int), true) ∧ st ((x :: T).take j) = (true, true) ∧ 1 ≤ j ∧ j ≤ T.length + 1) ∧ (wh = false → rd (x :: T) = (65533, ((max j 1 : Nat) : Int), false)) := by
 constructor
 ·rintro rfl
  rcases h with ⟨_, h⟩ | ⟨h1, h2, h3⟩
  ·cases h
  ·obtain ⟨i, rfl⟩ : ∃ i, j = i + 1 := ⟨j - 1, by omega⟩
   rw [List.take_succ_cons] at h3 ⊢
   have e := an2 x (T.take i) (T.drop i) h3
   rw [List.take_append_drop] at e
   refine ⟨?_, h3, by omega, by simpa using h2⟩
   rw [e]
   simp only [List.tail_cons, List.length_take, List.length_cons] at h2 ⊢
   refine Prod.ext rfl (Prod.ext ?_ rfl)
   simp only
   omega
 ·rintro rfl
  rcases h with ⟨rfl, _⟩ | ⟨h1, h2, h3⟩
  ·rcases hend with h | h | ⟨_, h⟩
   ·cases h
   ·omega
   ·rw [List.take_succ_cons, List.take_zero] at h
    exact none_rd x T h
  ·obtain ⟨i, rfl⟩ : ∃ i, j = i + 1 := ⟨j - 1, by omega⟩
   rw [List.take_succ_cons] at h3
   simp only [List.length_cons] at h2
   have e := part_rd x (T.take i) (T.drop i) h3 (by
    rcases hend with h | h | ⟨h4, h⟩
    ·cases h
    ·exact .inl (List.drop_of_length_le (by omega))
    ·refine .inr ⟨T[i], T.drop (i + 1), List.drop_eq_getElem_cons (by omega), ?_⟩
     rw [List.take_succ_cons, List.take_succ_eq_append_getElem (by omega)] at h
     exact h)
   rw [List.take_append_drop] at e
   rw [e]
   refine Prod.ext rfl (Prod.ext ?_ rfl)
   simp only [List.length_take]
   omega
theorem abD (L : List UInt8) (j : Nat) (wh : Bool) (h : akr L j wh) : j ≤ 4 ∧ j ≤ L.length := by
 rcases h with ⟨rfl, _⟩ | ⟨h1, h2, h3⟩
 ·exact ⟨by omega, by omega⟩
 ·obtain ⟨x, T, rfl⟩ : ∃ x T, L = x :: T := by
   cases L with
   | nil => simp at h2; omega
   | cons x T => exact ⟨x, T, rfl⟩
  obtain ⟨i, rfl⟩ : ∃ i, j = i + 1 := ⟨j - 1, by omega⟩
  rw [List.take_succ_cons] at h3
  obtain ⟨h4, _⟩ := JC x _ _ h3
  have := size_le x.toNat
  simp only [List.length_take, List.length_cons] at h4 h2
  exact ⟨by omega, by simp; omega⟩
def KT : Value → Nat
 | .slice _ n _ => n
 | _ => 0
theorem decode_any (A0 : Option Addr) (n0 cap0 : Nat) (L : List UInt8) (w : World) (h : aY w A0 n0 (ah L)) (hm : n0 ≤ 1073741824) (hcap : n0 ≤ cap0) :
  Calls Tryz.prog 61 #[.slice A0 n0 cap0] w fun e w' => ∃ v, e = .returned v ∧ w'.ownsRow w.heap.size 21 1 v (dec L).length (gV .i32 (dec L)) ∧ Below w.heap.size w w' := by
 have hl : L.length = n0 := by rw [← aI]; exact h.1
 have HL := hid hl
 clear hl
 obtain ⟨i0, hi, hz0, hz1, hz2⟩ := info_parts info21
 have HH := hid h
 clear h
 go_enter Tryz.func61, Tryz.ntmps61
 go_wp2
 go_loopw [0, 3] (fun vb v wr => ∃ (A : Option Addr) (n cap : Nat) (R : List UInt8) (acc : List Int), n ≤ cap ∧ acc.length + n ≤ 1073741824 ∧ vb = .slice A n cap ∧ aY w A n (ah R) ∧ wr.ownsRow w.heap.size 21 1 v acc.length (gV .i32 acc) ∧ Below w.heap.size w wr ∧ Hid (acc ++ dec R = dec L)) (fun vb _ _ => KT vb)
 case atStart => exact ⟨A0, n0, cap0, L, [], hcap, by simpa using hm, rfl, HH.out, World.ownsRow_nil _ _ _ _, Below.refl _ _, rfl⟩
 case round =>
  clear HH HL hcap hm
  obtain ⟨A, n, cap, R, acc, hcap, hlen, rfl, hr, hown, hbel, HT⟩ := hrel
  cases R with
  | nil =>
   have hn0 : n = 0 := by have := hr.1; simp [ah] at this; omega
   subst hn0
   clear hr
   have HE : Hid (acc = dec L) := by
    have e := HT.out
    rw [lT, List.append_nil] at e
    exact e
   go_wp2
   go_ret
   exact ⟨_, rfl, by rw [← HE.out]; exact hown, hbel⟩
  | cons x T =>
   have hn1 : n = T.length + 1 := by have := hr.1; rw [aI] at this; exact this.symm
   obtain ⟨b, off, rfl, hb, _⟩ := hr.spot (by omega)
   have hp : 0 < n := by omega
   have HLEN := hid hn1
   clear hn1
   have hrw : aY wr (some ⟨b, off, none⟩) n (ah (x :: T)) := hr.below hbel
   have HRW := hid hrw
   have HR := hid hr
   clear hrw hr
   go_wp2
   go_loop [4, 5, 6, 7] (fun vn vw _ _ => ∃ (j : Nat) (wh : Bool), j ≤ n ∧ j ≤ 4 ∧ vn = .int .i64 j ∧ vw = .bool wh ∧ Hid (akr (x :: T) j wh)) (fun vn _ _ _ => n - (intOf vn).toNat)
   case atStart => exact ⟨0, false, Nat.zero_le _, by omega, rfl, rfl, .inl ⟨rfl, rfl⟩⟩
   case round =>
    obtain ⟨j, wh, hj, hj4, rfl, rfl, HS⟩ := hrel
    cases wh with
    | true =>
     obtain ⟨hrd, hst, hj1, hjT⟩ := (LG x T j true HS.out (.inl rfl)).1 rfl
     have uq := hid hrd
     have hcut : Hid (aY wr (some ⟨b, off, none⟩) j (ah (x :: ((x :: T).take j).tail))) := by
      have := HRW.out.upto j hj
      rw [← lC] at this
      obtain ⟨i, rfl⟩ : ∃ i, j = i + 1 := ⟨j - 1, by omega⟩
      exact this
     have hst' : Hid (st (x :: ((x :: T).take j).tail) = (true, true)) := by
      obtain ⟨i, rfl⟩ : ∃ i, j = i + 1 := ⟨j - 1, by omega⟩
      exact hst
     clear hrd hst
     have hjc : (j : Int) ≤ (cap : Int) := by omega
     obtain ⟨q, hq⟩ : ∃ q, q = fo (first x.toNat) ((x :: T).take j).tail := ⟨_, rfl⟩
     have HQ := hid hq
     clear hq
     by_cases hlt : j < n
     all_goals
      go_wp2_with fail
      refine (bf b off j cap x ((x :: T).take j).tail _ hcut.out hst'.out).mono ?_
      rintro e w1 ⟨rfl, rfl⟩
      rw [← HQ.out]
      go_wp2_with (at_builtin; refine aQ rfl _ _ 73 rfl w.heap.size 21 i0 (.int .i32 0) 4 Tryz.underlying73 hi hz0 hz1 hz2 rfl _ acc.length _ rfl hown hbel hbel.size [.int .i32 (q)] 1 rfl rfl (by intro u hu; simp at hu; subst hu; rfl) (by unfold maxLen; omega) (by omega) ?_)
      intro v' w3 hown3 dG
      clear hown hbel
      have OI : Hid (dec (x :: T) = (q) :: dec ((x :: T).drop (j))) := by
       rw [iK, uq.out, ← HQ.out]
       exact rfl
      by_cases hcm : cap = j
      ·have hnm : n = j := by omega
       have OL : Hid ((x :: T).drop (j) = []) := List.drop_of_length_le (by have := HLEN.out; rw [List.length_cons]; omega)
       go_wp2
       go_roundw
       case rel => exact ⟨some ⟨b, off, none⟩, 0, 0, [], acc ++ [q], by omega, by simp; omega, (by first | (simp; done) | (simp; omega)), aY.nil _, by rw [iE, List.length_append]; exact hown3, dG, by
         have e := HT.out
         rw [OI.out, OL.out] at e
         rw [List.append_assoc]
         exact e⟩
       case measure => simp [KT]; omega
      ·go_wp2
       go_roundw
       case rel => exact ⟨some ⟨b, off + (j), none⟩, n - (j), cap - (j), (x :: T).drop (j), acc ++ [q], by omega, by simp; omega, (by first | rfl | (simp; done) | (simp; omega)), by rw [jl]; exact HR.out.cut _ (by omega), by rw [iE, List.length_append]; exact hown3, dG, by
         have e := HT.out
         rw [OI.out] at e
         rw [List.append_assoc]
         exact e⟩
       case measure => simp [KT]; omega
    | false =>
     by_cases hlt : j < n
     ·have hcut : Hid (aY wr (some ⟨b, off, none⟩) (j + 1) (ah (x :: T.take j))) := by
       have := HRW.out.upto (j + 1) (by omega)
       rw [← lC, List.take_succ_cons] at this
       exact this
      have hcm : (j : Int) + 1 ≤ (cap : Int) := by omega
      obtain ⟨p, hpp⟩ : ∃ p, p = st (x :: T.take j) := ⟨_, rfl⟩
      have HP := hid hpp
      clear hpp
      go_wp2_with fail
      refine (aeC b off (j + 1) cap x (T.take j) _ hcut.out (by omega)).mono ?_
      rintro e w1 ⟨rfl, rfl⟩
      rw [← HP.out]
      obtain ⟨ok, is⟩ := p
      cases ok with
      | true =>
       go_wp2
       go_round
       case rel => exact ⟨j + 1, is, by omega, by
         have := (abD (x :: T) (j + 1) is (.inr ⟨by omega, by simp; have := HLEN.out; omega, by rw [List.take_succ_cons]; exact HP.out.symm⟩)).1
         omega, by go_num, rfl, .inr ⟨by omega, by simp; have := HLEN.out; omega, by rw [List.take_succ_cons]; exact HP.out.symm⟩⟩
       case measure => simp [intOf]; omega
      | false =>
       have uq : Hid (rd (x :: T) = (65533, ((max j 1 : Nat) : Int), false)) := (LG x T j false HS.out (.inr (.inr ⟨by have := HLEN.out; omega, by rw [List.take_succ_cons, ← HP.out]⟩))).2 rfl
       by_cases hj0 : j = 0
       ·subst hj0
        go_wp2_with (at_builtin; refine aQ rfl _ _ 73 rfl w.heap.size 21 i0 (.int .i32 0) 4 Tryz.underlying73 hi hz0 hz1 hz2 rfl _ acc.length _ rfl hown hbel hbel.size [.int .i32 (65533)] 1 rfl rfl (by intro u hu; simp at hu; subst hu; rfl) (by unfold maxLen; omega) (by omega) ?_)
        intro v' w3 hown3 dG
        clear hown hbel
        have OI : Hid (dec (x :: T) = (65533) :: dec ((x :: T).drop (1))) := by
         rw [iK, uq.out]
         exact rfl
        by_cases hcm : cap = 1
        ·have hnm : n = 1 := by omega
         have OL : Hid ((x :: T).drop (1) = []) := List.drop_of_length_le (by have := HLEN.out; rw [List.length_cons]; omega)
         go_wp2
         go_roundw
         case rel => exact ⟨some ⟨b, off, none⟩, 0, 0, [], acc ++ [65533], by omega, by simp; omega, (by first | (simp; done) | (simp; omega)), aY.nil _, by rw [iE, List.length_append]; exact hown3, dG, by
           have e := HT.out
           rw [OI.out, OL.out] at e
           rw [List.append_assoc]
           exact e⟩
         case measure => simp [KT]; omega
        ·go_wp2
         go_roundw
         case rel => exact ⟨some ⟨b, off + (1), none⟩, n - (1), cap - (1), (x :: T).drop (1), acc ++ [65533], by omega, by simp; omega, (by first | rfl | (simp; done) | (simp; omega)), by rw [jl]; exact HR.out.cut _ (by omega), by rw [iE, List.length_append]; exact hown3, dG, by
           have e := HT.out
           rw [OI.out] at e
           rw [List.append_assoc]
           exact e⟩
         case measure => simp [KT]; omega
       ·have hj1 : 1 ≤ j := by omega
        have hmx : Hid (max j 1 = j) := by show max j 1 = j; omega
        rw [hmx.out] at uq
        go_wp2_with (at_builtin; refine aQ rfl _ _ 73 rfl w.heap.size 21 i0 (.int .i32 0) 4 Tryz.underlying73 hi hz0 hz1 hz2 rfl _ acc.length _ rfl hown hbel hbel.size [.int .i32 (65533)] 1 rfl rfl (by intro u hu; simp at hu; subst hu; rfl) (by unfold maxLen; omega) (by omega) ?_)
        intro v' w3 hown3 dG
        clear hown hbel
        have OI : Hid (dec (x :: T) = (65533) :: dec ((x :: T).drop (j))) := by
         rw [iK, uq.out]
         exact rfl
        by_cases hcm : cap = j
        ·have hnm : n = j := by omega
         have OL : Hid ((x :: T).drop (j) = []) := List.drop_of_length_le (by have := HLEN.out; rw [List.length_cons]; omega)
         go_wp2
         go_roundw
         case rel => exact ⟨some ⟨b, off, none⟩, 0, 0, [], acc ++ [65533], by omega, by simp; omega, (by first | (simp; done) | (simp; omega)), aY.nil _, by rw [iE, List.length_append]; exact hown3, dG, by
           have e := HT.out
           rw [OI.out, OL.out] at e
           rw [List.append_assoc]
           exact e⟩
         case measure => simp [KT]; omega
        ·go_wp2
         go_roundw
         case rel => exact ⟨some ⟨b, off + (j), none⟩, n - (j), cap - (j), (x :: T).drop (j), acc ++ [65533], by omega, by simp; omega, (by first | rfl | (simp; done) | (simp; omega)), by rw [jl]; exact HR.out.cut _ (by omega), by rw [iE, List.length_append]; exact hown3, dG, by
           have e := HT.out
           rw [OI.out] at e
           rw [List.append_assoc]
           exact e⟩
         case measure => simp [KT]; omega
     ·have hjn : j = n := by omega
      subst hjn
      have uq : Hid (rd (x :: T) = (65533, ((max j 1 : Nat) : Int), false)) := (LG x T j false HS.out (.inr (.inl HLEN.out))).2 rfl
      by_cases hj0 : j = 0
      ·exact absurd hp (by omega)
      ·have hj1 : 1 ≤ j := by omega
       have hmx : Hid (max j 1 = j) := by show max j 1 = j; omega
       rw [hmx.out] at uq
       go_wp2_with (at_builtin; refine aQ rfl _ _ 73 rfl w.heap.size 21 i0 (.int .i32 0) 4 Tryz.underlying73 hi hz0 hz1 hz2 rfl _ acc.length _ rfl hown hbel hbel.size [.int .i32 (65533)] 1 rfl rfl (by intro u hu; simp at hu; subst hu; rfl) (by unfold maxLen; omega) (by omega) ?_)
       intro v' w3 hown3 dG
       clear hown hbel
       have OI : Hid (dec (x :: T) = (65533) :: dec ((x :: T).drop (j))) := by
        rw [iK, uq.out]
        exact rfl
       by_cases hcm : cap = j
       ·have hnm : j = j := rfl
        have OL : Hid ((x :: T).drop (j) = []) := List.drop_of_length_le (by have := HLEN.out; rw [List.length_cons]; omega)
        go_wp2
        go_roundw
        case rel => exact ⟨some ⟨b, off, none⟩, 0, 0, [], acc ++ [65533], by omega, by simp; omega, (by first | (simp; done) | (simp; omega)), aY.nil _, by rw [iE, List.length_append]; exact hown3, dG, by
          have e := HT.out
          rw [OI.out, OL.out] at e
          rw [List.append_assoc]
          exact e⟩
        case measure => simp [KT]; omega
       ·go_wp2
        go_roundw
        case rel => exact ⟨some ⟨b, off + (j), none⟩, j - (j), cap - (j), (x :: T).drop (j), acc ++ [65533], by omega, by simp; omega, (by first | rfl | (simp; done) | (simp; omega)), by rw [jl]; exact HR.out.cut _ (by omega), by rw [iE, List.length_append]; exact hown3, dG, by
          have e := HT.out
          rw [OI.out] at e
          rw [List.append_assoc]
          exact e⟩
        case measure => simp [KT]; omega
end Go.Proofs.YtmpeaoacaecgpaaGreatDoor.RefD
namespace Go.Proofs.YtmpeaoacaecgpaaGreatDoor.akn
open Go.RowKit Base Base2 qh acU
theorem ku (L : List UInt8) : (dec L).length ≤ L.length := by
 have H : ∀ (n : Nat) (L : List UInt8), L.length ≤ n → (dec L).length ≤ L.length := by
  intro n
  induction n with
  | zero => intro L hl; obtain rfl : L = [] := List.eq_nil_of_length_eq_zero (by omega); simp [lT]
  | succ n ih =>
   intro L hl
   cases L with
   | nil => simp [lT]
   | cons x t =>
    have hs := nJ x t
    rw [iK, List.length_cons, List.length_cons]
    have := ih ((x :: t).drop (rd (x :: t)).2.1.toNat) (by simp only [List.length_drop, List.length_cons] at hl ⊢; omega)
    simp only [List.length_drop, List.length_cons] at this
    omega
 exact H _ L (Nat.le_refl _)
theorem fF (A : Option Addr) (n cap : Nat) (L : List UInt8) (w : World) (h : aY w A n (ah L)) (hm : n ≤ 1073741824) (hcap : n ≤ cap) :
  Calls Tryz.prog 99 #[.slice A n cap] w fun e w' => e = .returned (.bool (val L)) ∧ Below w.heap.size w w' := by
 have hl : L.length = n := by rw [← aI]; exact h.1
 have HDL : Hid ((dec L).length ≤ 1073741824) := by have := ku L; show _ ≤ _; omega
 have hs0 := aF 45 9 5 Tryz.underlying45 Tryz.underlying5 Tryz.underlying9 _ cap h
 have hs0' := aF 45 9 5 Tryz.underlying45 Tryz.underlying5 Tryz.underlying9 _ cap (uT h)
 have hbel0 : Below w.heap.size w w := Below.refl _ _
 have HV : Hid (((strOf (BI.enc (dec L))).toList == (strOf L).toList) = val L) := by
  show _ = _
  rw [strOf, strOf, ByteArray.toList_mk, ByteArray.toList_mk, val_iff, Bool.eq_iff_iff]
  simp
 clear hl
 go_enter Tryz.func99, Tryz.ntmps99
 go_wp2
 go_region_with (first
  | (go_at_call 61; refine (RefD.decode_any _ _ _ L _ (by first | assumption | exact uT (by assumption)) hm hcap).mono ?_; rintro e w2 ⟨v, rfl, hown, hb2⟩; obtain ⟨A2, c2, rfl, hc2, _, hr2⟩ := aJ hown; have dZ : Below w.heap.size w w2 := (by first | exact bel (by assumption) hb2 | exact CY (by assumption) hb2); have hl2 : aY w2 A n (ah L) := (by first | exact aY.below (by assumption) hb2 | exact D5 (by assumption) hb2); have hs2 := aF 45 9 5 Tryz.underlying45 Tryz.underlying5 Tryz.underlying9 _ cap hl2; have hs2' := aF 45 9 5 Tryz.underlying45 Tryz.underlying5 Tryz.underlying9 _ cap (uT hl2); clear hown)
  | (go_at_call 60; refine (RefC.Rn _ _ _ (dec L) _ (by first | assumption | exact uT (by assumption)) HDL.out).mono ?_; rintro e w3 ⟨v, rfl, hown, hb3⟩; obtain ⟨A3, c3, rfl, hc3, _, hr3⟩ := aJ hown; have dG : Below w.heap.size w w3 := (by first | exact bel (by assumption) hb3 | exact CY (by assumption) hb3); have hl3 : aY w3 A n (ah L) := (by first | exact aY.below (by assumption) hb3 | exact D5 (by assumption) hb3); have hs3 := aF 45 9 5 Tryz.underlying45 Tryz.underlying5 Tryz.underlying9 _ cap hl3; have hs3' := aF 45 9 5 Tryz.underlying45 Tryz.underlying5 Tryz.underlying9 _ cap (uT hl3); have he3 := aF 45 9 5 Tryz.underlying45 Tryz.underlying5 Tryz.underlying9 _ c3 hr3; have he3' := aF 45 9 5 Tryz.underlying45 Tryz.underlying5 Tryz.underlying9 _ c3 (uT hr3); clear hown))
 all_goals
  go_wp2
  go_ret
  refine ⟨ak ?_, by first | assumption | exact Below.drew (by assumption)⟩
  rw [← HV.out]
end Go.Proofs.YtmpeaoacaecgpaaGreatDoor.akn
namespace Go.Proofs.YtmpeaoacaecgpaaGreatDoor.WZ
open Go.RowKit Base Base2
theorem drop_at (s : ByteArray) (k : Nat) (h : k < s.size) : s.data.toList.drop k = s[k] :: s.data.toList.drop (k + 1) := by
 have h' : k < s.data.toList.length := by rw [Array.length_toList]; exact h
 rw [List.drop_eq_getElem_cons h']
 rfl
theorem Dl (c d : UInt8) (h : (c.toNat : Int) = (d.toNat : Int)) : c = d := UInt8.toNat_inj.1 (by omega)
end Go.Proofs.YtmpeaoacaecgpaaGreatDoor.WZ
namespace Go.Proofs.YtmpeaoacaecgpaaGreatDoor.Gn
open Go.RowKit Base Base2 dI WZ
def has (L : List UInt8) (c : UInt8) : Bool := L.contains c
theorem kC (s : ByteArray) (c : UInt8) (w : World) (hs : s.size ≤ 1073741824) :
  Calls Tryz.prog 85 #[.string s, .int .u8 (c.toNat : Int)] w fun e w' => e = .returned (.bool (has s.data.toList c)) ∧ w = w' := by
 have hl : s.data.toList.length = s.size := Array.length_toList
 have HL := hid hl
 clear hl
 go_enter Tryz.func85, Tryz.ntmps85
 go_wp2
 go_loop [8] (fun vk => ∃ j : Nat, j ≤ s.size ∧ vk = .int .i64 j ∧ Hid (has s.data.toList c = has (s.data.toList.drop j) c)) (fun vk => s.size - (intOf vk).toNat)
 case atStart => exact ⟨0, Nat.zero_le _, rfl, rfl⟩
 case round =>
  obtain ⟨j, hj, rfl, HT⟩ := hrel
  by_cases hlt : j < s.size
  ·obtain ⟨d, hd⟩ : ∃ d, s[j] = d := ⟨_, rfl⟩
   have HC : Hid (s.data.toList.drop j = d :: s.data.toList.drop (j + 1)) := by
    have := drop_at s j hlt
    rw [hd] at this
    exact this
   by_cases h : (d.toNat : Int) = (c.toNat : Int)
   ·have e1 : ((d.toNat : Int) == (c.toNat : Int)) = true := by simp [h]
    have HV : Hid (has s.data.toList c = true) := by
     show _ = _
     rw [HT.out, HC.out, Dl d c h]
     simp [has]
    clear h
    go_wp2
    go_ret
    rw [HV.out]
    exact ⟨rfl, rfl⟩
   ·have e1 : ((d.toNat : Int) == (c.toNat : Int)) = false := by simp; omega
    have HV : Hid (has s.data.toList c = has (s.data.toList.drop (j + 1)) c) := by
     show _ = _
     rw [HT.out, HC.out, has, List.contains_cons, show (c == d) = false by simp; intro e; exact h (by rw [e]), Bool.false_or]
     rfl
    clear h
    go_wp2
    go_round
    case rel => exact ⟨j + 1, by omega, by go_num, HV⟩
    case measure => simp [intOf]; omega
  ·obtain rfl : j = s.size := by omega
   have HV : Hid (has s.data.toList c = false) := by
    show _ = _
    rw [HT.out, ← HL.out, List.drop_length]
    rfl
   go_wp2
   go_ret
   rw [HV.out]
   exact ⟨rfl, rfl⟩
end Go.Proofs.YtmpeaoacaecgpaaGreatDoor.Gn
