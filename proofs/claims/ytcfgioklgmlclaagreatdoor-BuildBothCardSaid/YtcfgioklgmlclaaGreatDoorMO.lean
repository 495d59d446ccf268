/- Texts that belong together: Ym, EscF, Gy, J6. -/
import Derived.Test.YtcfgioklgmlclaaGreatDoorMH
import Derived.Test.YtcfgioklgmlclaaGreatDoorME
import Derived.IntWalk
import Derived.Test.YtcfgioklgmlclaaGreatDoorMF
set_option linter.unusedSimpArgs false
set_option linter.unusedVariables false
set_option maxRecDepth 100000
set_option maxHeartbeats 64000000
namespace Go.Proofs.YtcfgioklgmlclaaGreatDoor.Ym
open Go.RowKit Base uy xw fE pV xZ pU qM ng zN aH
theorem jo {α : Type} {c : Prop} [Decidable c] {x : Option α} {u : α} (h : (if c then none else x) = some u) : ¬ c ∧ x = some u := by
 by_cases hc : c
 ·rw [if_pos hc] at h; cases h
 ·rw [if_neg hc] at h; exact ⟨hc, h⟩
end Go.Proofs.YtcfgioklgmlclaaGreatDoor.Ym
namespace Go.Proofs.YtcfgioklgmlclaaGreatDoor.EscF
open Go.RowKit Base eX pO
theorem str_rest (R : List UInt8) (k : Nat) (h : k ≤ R.length) : (strOf R).extract k (strOf R).size = strOf (R.drop k) := by
 have e := extract_drop (strOf R) k (by rw [ah]; exact h)
 have e2 : (strOf R).data.toList = R := rfl
 rw [e2] at e
 rw [← ay ((strOf R).extract k (strOf R).size), e]
theorem esc_hex (a b c : UInt8) (t : List UInt8) : (a = 37 ∧ 0 ≤ hex b.toNat ∧ 0 ≤ hex c.toNat → esc (a :: b :: c :: t) = some (UInt8.ofNat (16 * hex b.toNat + hex c.toNat).toNat)) ∧ (¬ (a = 37 ∧ 0 ≤ hex b.toNat ∧ 0 ≤ hex c.toNat) → esc (a :: b :: c :: t) = none) := by
 constructor <;> intro h
 ·rw [esc, if_pos h]
 ·rw [esc, if_neg h]
theorem Y7 (c : Int) (w : World) : Calls Tryz.prog 83 #[.int .u8 c] w fun e w' => e = .returned (.int .i64 (hex c)) ∧ w' = w :=
 (AP.kL c w).mono fun _ _ ⟨he, hw⟩ => ⟨he, hw.symm⟩
theorem one_one (a : Int) : ∀ u ∈ [Value.int .u8 a], u.oneCell' = true := by
 intro u hu
 simp at hu
 subst hu
 rfl
attribute [local go_sem ↓] Go.wp_at_zero Go.wp_at_succ
def lenOf : Value → Nat
 | .string q => q.size
 | _ => 0
theorem UK (s : ByteArray) (w : World) (hs : s.size ≤ 1073741824) : Calls Tryz.prog 38 #[.string s] w fun e w' => e = .returned (.string (strOf (dec s.data.toList))) ∧ Below w.heap.size w w' := by
 obtain ⟨i0, hi, hz0, hz1, hz2⟩ := info_parts jU
 obtain ⟨R0, hR0⟩ : ∃ R0, R0 = s.data.toList := ⟨_, rfl⟩
 have hs0 : s = strOf R0 := by rw [hR0]; exact (ay s).symm
 subst hs0
 rw [ah] at hs
 rw [← hR0]
 clear hR0
 go_enter Tryz.func38, Tryz.ntmps38
 go_wp2
 go_loopw [0, 3] (fun vs v wr => ∃ (R X : List UInt8), R.length + X.length ≤ 1073741824 ∧ vs = .string (strOf R) ∧ wr.ownsRow w.heap.size 5 1 v X.length (ak X) ∧ Below w.heap.size w wr ∧ Hid (X ++ dec R = dec R0)) (fun vs _ _ => lenOf vs)
 case atStart => exact ⟨R0, [], by simpa using hs, rfl, World.ownsRow_nil _ _ _ _, Below.refl _ _, rfl⟩
 case round =>
  obtain ⟨R, X, hlen, rfl, hown, hbel, HT⟩ := hrel
  cases R with
  | nil =>
   have HE : Hid (X = dec R0) := by
    have e := HT.out
    rw [kK, List.append_nil] at e
    exact e
   have hsz : (strOf []).size = 0 := rfl
   rw [HE.out] at hown
   obtain ⟨A', c', rfl, _, _, hrd⟩ := bZ hown
   have hst := aQ 30 9 5 Tryz.underlying30 Tryz.underlying5 Tryz.underlying9 _ c' hrd
   go_wp2
   go_ret
   exact ⟨rfl, hbel⟩
  | cons a t =>
   have hsz : (strOf (a :: t)).size = t.length + 1 := by rw [ah, List.length_cons]
   have hx0 : ∀ h : 0 < (strOf (a :: t)).size, (strOf (a :: t))[0]'h = a := fun _ => rfl
   have hc1 : (strOf (a :: t)).extract 1 (t.length + 1) = strOf t := by
    have := str_rest (a :: t) 1 (by simp)
    rw [hsz] at this
    exact this
   have hlen' : t.length + 1 + X.length ≤ 1073741824 := by simpa using hlen
   by_cases h37 : a = 37
   ·subst h37
    have t37 : (((37 : UInt8).toNat : Int) == 37) = true := by decide
    by_cases h3 : t.length < 2
    ·have HN : Hid (dec (37 :: t) = 37 :: dec t) := kC _ _ (by
      match t, h3 with
      | [], _ => rfl
      | [_], _ => rfl)
     have h3' : ¬ (2 : Int) < (t.length : Int) + 1 := by omega
     go_wp2_with (at_builtin; refine bC rfl _ _ 30 rfl w.heap.size 5 i0 (.int .u8 0) 1 Tryz.underlying30 hi hz0 hz1 hz2 rfl _ X.length _ rfl hown hbel hbel.size [.int .u8 37] 1 rfl rfl (by intro u hu; simp at hu; subst hu; rfl) (by unfold maxLen; omega) (by omega) ?_)
     intro v' w3 hown3 dK
     clear hown hbel
     go_wp2
     go_roundw
     case rel => exact ⟨t, X ++ [37], by simp at hlen' ⊢; omega, rfl, by rw [aX, List.length_append]; exact hown3, dK, by
       rw [List.append_assoc]
       have := HT.out
       rw [HN.out] at this
       exact this⟩
     case measure => simp [lenOf, ah]
    ·obtain ⟨b, c, t', rfl⟩ : ∃ b c t', t = b :: c :: t' := by
      match t, h3 with
      | b :: c :: t', _ => exact ⟨b, c, t', rfl⟩
      | [], h => simp at h
      | [_], h => simp at h
     clear h3
     have h3' : (2 : Int) < (((b :: c :: t').length : Nat) : Int) + 1 := by simp; omega
     have hx1 : ∀ h : 1 < (strOf (37 :: b :: c :: t')).size, (strOf (37 :: b :: c :: t'))[1]'h = b := fun _ => rfl
     have hx2 : ∀ h : 2 < (strOf (37 :: b :: c :: t')).size, (strOf (37 :: b :: c :: t'))[2]'h = c := fun _ => rfl
     have hc3 : (strOf (37 :: b :: c :: t')).extract 3 ((b :: c :: t').length + 1) = strOf t' := by
      have := str_rest (37 :: b :: c :: t') 3 (by simp)
      rw [hsz] at this
      exact this
     obtain ⟨hb1, hb2⟩ := Bc b
     obtain ⟨hd1, hd2⟩ := Bc c
     obtain ⟨HY, HZ⟩ := esc_hex 37 b c t'
     obtain ⟨m, hm⟩ : ∃ m, m = (b :: c :: t').length := ⟨_, rfl⟩
     have hm' : m = t'.length + 2 := by rw [hm]; simp
     rw [← hm] at hsz hc1 hc3 h3' hlen'
     have HM := hid hm'
     clear hm hm'
     by_cases hx : hex b.toNat < 0
     ·have HN : Hid (dec (37 :: b :: c :: t') = 37 :: dec (b :: c :: t')) := kC _ _ (HZ (by intro h; omega))
      clear HY HZ
      go_wp2_with fail
      refine (Y7 _ _).mono ?_
      rintro e w2 ⟨rfl, hw⟩
      subst hw
      go_wp2_with (at_builtin; refine bC rfl _ _ 30 rfl w.heap.size 5 i0 (.int .u8 0) 1 Tryz.underlying30 hi hz0 hz1 hz2 rfl _ X.length _ rfl hown hbel hbel.size [.int .u8 37] 1 rfl rfl (by intro u hu; simp at hu; subst hu; rfl) (by unfold maxLen; omega) (by omega) ?_)
      intro v' w3 hown3 dK
      clear hown hbel
      go_wp2
      go_roundw
      case rel => exact ⟨b :: c :: t', X ++ [37], by simp; have := HM.out; omega, rfl, by rw [aX, List.length_append]; exact hown3, dK, by
        rw [List.append_assoc]
        have := HT.out
        rw [HN.out] at this
        exact this⟩
      case measure => simp [lenOf, ah]
     ·have hx' : 0 ≤ hex b.toNat := by omega
      clear hx hb1
      by_cases hy : hex c.toNat < 0
      ·have HN : Hid (dec (37 :: b :: c :: t') = 37 :: dec (b :: c :: t')) := kC _ _ (HZ (by intro h; omega))
       clear HY HZ
       go_wp2_with fail
       refine (Y7 _ _).mono ?_
       rintro e w2 ⟨rfl, hw⟩
       subst hw
       go_wp2_with fail
       refine (Y7 _ _).mono ?_
       rintro e w2 ⟨rfl, hw⟩
       subst hw
       go_wp2_with (at_builtin; refine bC rfl _ _ 30 rfl w.heap.size 5 i0 (.int .u8 0) 1 Tryz.underlying30 hi hz0 hz1 hz2 rfl _ X.length _ rfl hown hbel hbel.size [.int .u8 37] 1 rfl rfl (by intro u hu; simp at hu; subst hu; rfl) (by unfold maxLen; omega) (by omega) ?_)
       intro v' w3 hown3 dK
       clear hown hbel
       go_wp2
       go_roundw
       case rel => exact ⟨b :: c :: t', X ++ [37], by simp; have := HM.out; omega, rfl, by rw [aX, List.length_append]; exact hown3, dK, by
         rw [List.append_assoc]
         have := HT.out
         rw [HN.out] at this
         exact this⟩
       case measure => simp [lenOf, ah]
      ·have hy' : 0 ≤ hex c.toNat := by omega
       clear hy hd1
       have HN : Hid (dec (37 :: b :: c :: t') = UInt8.ofNat (16 * hex b.toNat + hex c.toNat).toNat :: dec t') := by
        rw [uI _ _ _ (HY ⟨rfl, hx', hy'⟩)]
        exact rfl
       clear HY HZ
       have HU : Hid (((UInt8.ofNat (16 * hex b.toNat + hex c.toNat).toNat).toNat : Int) = 16 * hex b.toNat + hex c.toNat) := u8_of _ (by omega) (by omega)
       go_wp2_with fail
       refine (Y7 _ _).mono ?_
       rintro e w2 ⟨rfl, hw⟩
       subst hw
       go_wp2_with fail
       refine (Y7 _ _).mono ?_
       rintro e w2 ⟨rfl, hw⟩
       subst hw
       have s1 : IntKind.i64.wrap (16 * hex b.toNat) = 16 * hex b.toNat := IntWalk.i64_in _ (by omega)
       have s2 : IntKind.i64.wrap (16 * hex b.toNat + hex c.toNat) = 16 * hex b.toNat + hex c.toNat := IntWalk.i64_in _ (by omega)
       have s3 : (16 * hex b.toNat + hex c.toNat) % 256 = 16 * hex b.toNat + hex c.toNat := by omega
       have s4 : IntKind.u8.wrap (16 * hex b.toNat + hex c.toNat) = 16 * hex b.toNat + hex c.toNat := by rw [IntKind.wrap_u8]; omega
       go_wp2
       have s5 : (1 : Int) < (m : Int) + 1 := by omega
       go_region_held3 (fun _ => True) (trivial) (first | (go_at_call 83; refine (Y7 _ _).mono ?_; rintro e w' ⟨rfl, rfl⟩) | (refine Tf (by rfl) _ _ 30 (by rfl) w.heap.size 5 i0 (.int .u8 0) 1 Tryz.underlying30 hi hz0 hz1 hz2 (by rfl) _ X.length _ (by rfl) hown hbel hbel.size [.int .u8 (16 * hex b.toNat + hex c.toNat)] 1 (by rfl) (by decide) (by rfl) (one_one _) (by unfold maxLen; omega) (by omega) ⟨⟨rfl, rfl, rfl, Nat.le_refl _, fun _ _ => rfl⟩, fun _ => rfl, by simp⟩ ?_; intro v' w3 hown3 dK))
       go_goals
       all_goals
        clear hown hbel s1 s2 s3 s4 s5
        go_wp2
        go_roundw
        case rel => exact ⟨t', X ++ [UInt8.ofNat (16 * hex b.toNat + hex c.toNat).toNat], by simp; have := HM.out; omega, rfl, by
          rw [aX, List.length_append]
          show World.ownsRow _ _ _ _ _ _ (ak X ++ [Value.int .u8 ((UInt8.ofNat (16 * hex b.toNat + hex c.toNat).toNat).toNat : Int)])
          rw [HU.out]
          exact hown3, dK, by
          rw [List.append_assoc]
          have := HT.out
          rw [HN.out] at this
          exact this⟩
        case measure => simp [lenOf, ah]; omega
   ·have HN : Hid (dec (a :: t) = a :: dec t) := kC _ _ (by
     match t with
     | [] => rfl
     | [_] => rfl
     | _ :: _ :: _ => rw [esc, if_neg (by intro h; exact h37 h.1)])
    have t37 : ((a.toNat : Int) == 37) = false := by
     simp
     intro h
     exact h37 (UInt8.toNat_inj.1 (by simp; omega))
    clear h37
    go_wp2_with (at_builtin; refine bC rfl _ _ 30 rfl w.heap.size 5 i0 (.int .u8 0) 1 Tryz.underlying30 hi hz0 hz1 hz2 rfl _ X.length _ rfl hown hbel hbel.size [.int .u8 (a.toNat : Int)] 1 rfl rfl (by intro u hu; simp at hu; subst hu; rfl) (by unfold maxLen; omega) (by omega) ?_)
    intro v' w3 hown3 dK
    clear hown hbel
    go_wp2
    go_roundw
    case rel => exact ⟨t, X ++ [a], by simp at hlen ⊢; omega, rfl, by rw [aX, List.length_append]; exact hown3, dK, by
      rw [List.append_assoc]
      have := HT.out
      rw [HN.out] at this
      exact this⟩
    case measure => simp [lenOf, ah]
end Go.Proofs.YtcfgioklgmlclaaGreatDoor.EscF
namespace Go.Proofs.YtcfgioklgmlclaaGreatDoor.Gy
open Go.RowKit Base MX aJ pO eX
theorem WX (n : Nat) (h : n < 16) : hex (aJ.ru n).toNat = n := by
 have H : ∀ k : Fin 16, hex ((aJ.ru k.val).toNat : Int) = (k.val : Int) := by decide
 exact H ⟨n, h⟩
theorem dW (k : Int) (c : UInt8) (L : List UInt8) : enc k (c :: L) = one k c ++ enc k L := by simp [enc]
theorem oK (k : Int) (L : List UInt8) (h : ∀ c ∈ L, jO k c.toNat = false) : enc k L = L := by
 induction L with
 | nil => rfl
 | cons c L ih =>
  rw [dW, ih (fun d hd => h d (by simp [hd]))]
  unfold one
  rw [h c (by simp)]
  rfl
theorem Xa (c : UInt8) (rest : List UInt8) : esc (37 :: aJ.ru (c.toNat / 16) :: aJ.ru (c.toNat % 16) :: rest) = some c := by
 have hc := c.toNat_lt
 have h1 := WX (c.toNat / 16) (by omega)
 have h2 := WX (c.toNat % 16) (by omega)
 rw [esc, if_pos ⟨rfl, by rw [h1]; omega, by rw [h2]; omega⟩, h1, h2]
 congr 1
 apply UInt8.toNat_inj.1
 simp
 omega
theorem Dk (x : UInt8) (t : List UInt8) (h : x ≠ 37) : esc (x :: t) = none := by
 match t with
 | [] => rfl
 | [_] => rfl
 | _ :: _ :: _ => rw [esc, if_neg (fun e => h e.1)]
end Go.Proofs.YtcfgioklgmlclaaGreatDoor.Gy
namespace Go.Proofs.YtcfgioklgmlclaaGreatDoor.J6
open Go.RowKit Base eX fE nO tC QA aaW zN Qu
theorem Rn {s : List UInt8} {sp : Bool} {R : List UInt8} (h : hst s sp = some R) : R.length ≤ 3 * s.length + 200 := by
 unfold hst at h
 split at h
 ·unfold hbr at h
  split at h
  ·unfold addr at h
   split at h
   ·cases h
   ·injection h with h
    subst h
    simp only [List.length_cons, List.length_append, List.length_nil]
    unfold adz
    rename_i V _
    have := XD (fun i => V.getD i 0)
    omega
  ·cases h
 ·split at h
  ·unfold WZ at h
   split at h
   ·unfold dm2 at h
    split at h
    ·cases h
    ·split at h
     ·cases hp : OM (lower (pO.dec s)) with
      | none => rw [hp] at h; cases h
      | some n =>
       rw [hp] at h
       injection h with h
       subst h
       have := G8.pr_len n (VA hp)
       omega
     ·injection h with h
      subst h
      have := pO.lu s
      simp [lower]
      omega
   ·cases h
  ·unfold plc at h
   split at h
   ·injection h with h
    subst h
    have := aJ.iL 0 s
    omega
   ·cases h
end Go.Proofs.YtcfgioklgmlclaaGreatDoor.J6
