/- Texts that belong together: VO, EscF, Gv, FQ. -/
import Derived.Test.YtmdofbccebkbiaaGreatDoorMH
import Derived.Test.YtmdofbccebkbiaaGreatDoorME
import Derived.IntWalk
import Derived.Test.YtmdofbccebkbiaaGreatDoorMF
set_option linter.unusedSimpArgs false
set_option linter.unusedVariables false
set_option maxRecDepth 100000
set_option maxHeartbeats 64000000
namespace Go.Proofs.YtmdofbccebkbiaaGreatDoor.VO
open Go.RowKit Base qK wU iT kX xK pR oW mY uY aI
theorem jm {α : Type} {c : Prop} [Decidable c] {x : Option α} {u : α} (h : (if c then none else x) = some u) : ¬ c ∧ x = some u := by
 by_cases hc : c
 ·rw [if_pos hc] at h; cases h
 ·rw [if_neg hc] at h; exact ⟨hc, h⟩
end Go.Proofs.YtmdofbccebkbiaaGreatDoor.VO
namespace Go.Proofs.YtmdofbccebkbiaaGreatDoor.EscF
open Go.RowKit Base dM fA
theorem str_rest (R : List UInt8) (k : Nat) (h : k ≤ R.length) : (strOf R).extract k (strOf R).size = strOf (R.drop k) := by
 have e := extract_drop (strOf R) k (by rw [ah]; exact h)
 have e2 : (strOf R).data.toList = R := rfl
 rw [e2] at e
 rw [← aS ((strOf R).extract k (strOf R).size), e]
theorem esc_hex (a b c : UInt8) (t : List UInt8) : (a = 37 ∧ 0 ≤ hex b.toNat ∧ 0 ≤ hex c.toNat → esc (a :: b :: c :: t) = some (UInt8.ofNat (16 * hex b.toNat + hex c.toNat).toNat)) ∧ (¬ (a = 37 ∧ 0 ≤ hex b.toNat ∧ 0 ≤ hex c.toNat) → esc (a :: b :: c :: t) = none) := by
 constructor <;> intro h
 ·rw [esc, if_pos h]
 ·rw [esc, if_neg h]
theorem WH (c : Int) (w : World) : Calls Tryz.prog 133 #[.int .u8 c] w fun e w' => e = .returned (.int .i64 (hex c)) ∧ w' = w :=
 (kM.dG c w).mono fun _ _ ⟨he, hw⟩ => ⟨he, hw.symm⟩
theorem one_one (a : Int) : ∀ u ∈ [Value.int .u8 a], u.oneCell' = true := by
 intro u hu
 simp at hu
 subst hu
 rfl
attribute [local go_sem ↓] Go.wp_at_zero Go.wp_at_succ
def lenOf : Value → Nat
 | .string q => q.size
 | _ => 0
theorem Bh (s : ByteArray) (w : World) (hs : s.size ≤ 1073741824) : Calls Tryz.prog 63 #[.string s] w fun e w' => e = .returned (.string (strOf (dec s.data.toList))) ∧ Below w.heap.size w w' := by
 obtain ⟨i0, hi, hz0, hz1, hz2⟩ := info_parts rU
 obtain ⟨R0, hR0⟩ : ∃ R0, R0 = s.data.toList := ⟨_, rfl⟩
 have hs0 : s = strOf R0 := by rw [hR0]; exact (aS s).symm
 subst hs0
 rw [ah] at hs
 rw [← hR0]
 clear hR0
 go_enter Tryz.func63, Tryz.ntmps63
 go_wp2
 go_loopw [0, 3] (fun vs v wr => ∃ (R X : List UInt8), R.length + X.length ≤ 1073741824 ∧ vs = .string (strOf R) ∧ wr.ownsRow w.heap.size 5 1 v X.length (aJ X) ∧ Below w.heap.size w wr ∧ Hid (X ++ dec R = dec R0)) (fun vs _ _ => lenOf vs)
 case atStart => exact ⟨R0, [], by simpa using hs, rfl, World.ownsRow_nil _ _ _ _, Below.refl _ _, rfl⟩
 case round =>
  obtain ⟨R, X, hlen, rfl, hown, hbel, HT⟩ := hrel
  cases R with
  | nil =>
   have HE : Hid (X = dec R0) := by
    have e := HT.out
    rw [mZ, List.append_nil] at e
    exact e
   have hsz : (strOf []).size = 0 := rfl
   rw [HE.out] at hown
   obtain ⟨A', c', rfl, _, _, hrd⟩ := aU hown
   have hst := aP 61 9 5 Tryz.underlying61 Tryz.underlying5 Tryz.underlying9 _ c' hrd
   go_wp2
   go_ret
   exact ⟨rfl, hbel⟩
  | cons a t =>
   have hsz : (strOf (a :: t)).size = t.length + 1 := by rw [ah, List.length_cons]
   have hx0 : ∀ h : 0 < (strOf (a :: t)).size, (strOf (a :: t))[0]'h = a := fun _ => rfl
   have hc1 : (strOf (a :: t)).extract 1 (t.length + 1) = strOf t := by
    have := str_rest (a :: t) 1 (by simp)
    rw [hsz] at this
    exact this
   have hlen' : t.length + 1 + X.length ≤ 1073741824 := by simpa using hlen
   by_cases h37 : a = 37
   ·subst h37
    have t37 : (((37 : UInt8).toNat : Int) == 37) = true := by decide
    by_cases h3 : t.length < 2
    ·have HN : Hid (dec (37 :: t) = 37 :: dec t) := lu _ _ (by
      match t, h3 with
      | [], _ => rfl
      | [_], _ => rfl)
     have h3' : ¬ (2 : Int) < (t.length : Int) + 1 := by omega
     go_wp2_with (at_builtin; refine bC rfl _ _ 61 rfl w.heap.size 5 i0 (.int .u8 0) 1 Tryz.underlying61 hi hz0 hz1 hz2 rfl _ X.length _ rfl hown hbel hbel.size [.int .u8 37] 1 rfl rfl (by intro u hu; simp at hu; subst hu; rfl) (by unfold maxLen; omega) (by omega) ?_)
     intro v' w3 hown3 gI
     clear hown hbel
     go_wp2
     go_roundw
     case rel => exact ⟨t, X ++ [37], by simp at hlen' ⊢; omega, rfl, by rw [dV, List.length_append]; exact hown3, gI, by
       rw [List.append_assoc]
       have := HT.out
       rw [HN.out] at this
       exact this⟩
     case measure => simp [lenOf, ah]
    ·obtain ⟨b, c, t', rfl⟩ : ∃ b c t', t = b :: c :: t' := by
      match t, h3 with
      | b :: c :: t', _ => exact ⟨b, c, t', rfl⟩
      | [], h => simp at h
      | [_], h => simp at h
     clear h3
     have h3' : (2 : Int) < (((b :: c :: t').length : Nat) : Int) + 1 := by simp; omega
     have hx1 : ∀ h : 1 < (strOf (37 :: b :: c :: t')).size, (strOf (37 :: b :: c :: t'))[1]'h = b := fun _ => rfl
     have hx2 : ∀ h : 2 < (strOf (37 :: b :: c :: t')).size, (strOf (37 :: b :: c :: t'))[2]'h = c := fun _ => rfl
     have hc3 : (strOf (37 :: b :: c :: t')).extract 3 ((b :: c :: t').length + 1) = strOf t' := by
      have := str_rest (37 :: b :: c :: t') 3 (by simp)
      rw [hsz] at this
      exact this
     obtain ⟨hb1, hb2⟩ := qQ b
     obtain ⟨hd1, hd2⟩ := qQ c
     obtain ⟨HY, HZ⟩ := esc_hex 37 b c t'
     obtain ⟨m, hm⟩ : ∃ m, m = (b :: c :: t').length := ⟨_, rfl⟩
     have hm' : m = t'.length + 2 := by rw [hm]; simp
     rw [← hm] at hsz hc1 hc3 h3' hlen'
     have HM := hid hm'
     clear hm hm'
     by_cases hx : hex b.toNat < 0
     ·have HN : Hid (dec (37 :: b :: c :: t') = 37 :: dec (b :: c :: t')) := lu _ _ (HZ (by intro h; omega))
      clear HY HZ
      go_wp2_with fail
      refine (WH _ _).mono ?_
      rintro e w2 ⟨rfl, hw⟩
      subst hw
      go_wp2_with (at_builtin; refine bC rfl _ _ 61 rfl w.heap.size 5 i0 (.int .u8 0) 1 Tryz.underlying61 hi hz0 hz1 hz2 rfl _ X.length _ rfl hown hbel hbel.size [.int .u8 37] 1 rfl rfl (by intro u hu; simp at hu; subst hu; rfl) (by unfold maxLen; omega) (by omega) ?_)
      intro v' w3 hown3 gI
      clear hown hbel
      go_wp2
      go_roundw
      case rel => exact ⟨b :: c :: t', X ++ [37], by simp; have := HM.out; omega, rfl, by rw [dV, List.length_append]; exact hown3, gI, by
        rw [List.append_assoc]
        have := HT.out
        rw [HN.out] at this
        exact this⟩
      case measure => simp [lenOf, ah]
     ·have hx' : 0 ≤ hex b.toNat := by omega
      clear hx hb1
      by_cases hy : hex c.toNat < 0
      ·have HN : Hid (dec (37 :: b :: c :: t') = 37 :: dec (b :: c :: t')) := lu _ _ (HZ (by intro h; omega))
       clear HY HZ
       go_wp2_with fail
       refine (WH _ _).mono ?_
       rintro e w2 ⟨rfl, hw⟩
       subst hw
       go_wp2_with fail
       refine (WH _ _).mono ?_
       rintro e w2 ⟨rfl, hw⟩
       subst hw
       go_wp2_with (at_builtin; refine bC rfl _ _ 61 rfl w.heap.size 5 i0 (.int .u8 0) 1 Tryz.underlying61 hi hz0 hz1 hz2 rfl _ X.length _ rfl hown hbel hbel.size [.int .u8 37] 1 rfl rfl (by intro u hu; simp at hu; subst hu; rfl) (by unfold maxLen; omega) (by omega) ?_)
       intro v' w3 hown3 gI
       clear hown hbel
       go_wp2
       go_roundw
       case rel => exact ⟨b :: c :: t', X ++ [37], by simp; have := HM.out; omega, rfl, by rw [dV, List.length_append]; exact hown3, gI, by
         rw [List.append_assoc]
         have := HT.out
         rw [HN.out] at this
         exact this⟩
       case measure => simp [lenOf, ah]
      ·have hy' : 0 ≤ hex c.toNat := by omega
       clear hy hd1
       have HN : Hid (dec (37 :: b :: c :: t') = UInt8.ofNat (16 * hex b.toNat + hex c.toNat).toNat :: dec t') := by
        rw [tX _ _ _ (HY ⟨rfl, hx', hy'⟩)]
        exact rfl
       clear HY HZ
       have HU : Hid (((UInt8.ofNat (16 * hex b.toNat + hex c.toNat).toNat).toNat : Int) = 16 * hex b.toNat + hex c.toNat) := u8_of _ (by omega) (by omega)
       go_wp2_with fail
       refine (WH _ _).mono ?_
       rintro e w2 ⟨rfl, hw⟩
       subst hw
       go_wp2_with fail
       refine (WH _ _).mono ?_
       rintro e w2 ⟨rfl, hw⟩
       subst hw
       have s1 : IntKind.i64.wrap (16 * hex b.toNat) = 16 * hex b.toNat := IntWalk.i64_in _ (by omega)
       have s2 : IntKind.i64.wrap (16 * hex b.toNat + hex c.toNat) = 16 * hex b.toNat + hex c.toNat := IntWalk.i64_in _ (by omega)
       have s3 : (16 * hex b.toNat + hex c.toNat) % 256 = 16 * hex b.toNat + hex c.toNat := by omega
       have s4 : IntKind.u8.wrap (16 * hex b.toNat + hex c.toNat) = 16 * hex b.toNat + hex c.toNat := by rw [IntKind.wrap_u8]; omega
       go_wp2
       have s5 : (1 : Int) < (m : Int) + 1 := by omega
       go_region_held3 (fun _ => True) (trivial) (first | (go_at_call 133; refine (WH _ _).mono ?_; rintro e w' ⟨rfl, rfl⟩) | (refine Qs (by rfl) _ _ 61 (by rfl) w.heap.size 5 i0 (.int .u8 0) 1 Tryz.underlying61 hi hz0 hz1 hz2 (by rfl) _ X.length _ (by rfl) hown hbel hbel.size [.int .u8 (16 * hex b.toNat + hex c.toNat)] 1 (by rfl) (by decide) (by rfl) (one_one _) (by unfold maxLen; omega) (by omega) ⟨⟨rfl, rfl, rfl, Nat.le_refl _, fun _ _ => rfl⟩, fun _ => rfl, by simp⟩ ?_; intro v' w3 hown3 gI))
       go_goals
       all_goals
        clear hown hbel s1 s2 s3 s4 s5
        go_wp2
        go_roundw
        case rel => exact ⟨t', X ++ [UInt8.ofNat (16 * hex b.toNat + hex c.toNat).toNat], by simp; have := HM.out; omega, rfl, by
          rw [dV, List.length_append]
          show World.ownsRow _ _ _ _ _ _ (aJ X ++ [Value.int .u8 ((UInt8.ofNat (16 * hex b.toNat + hex c.toNat).toNat).toNat : Int)])
          rw [HU.out]
          exact hown3, gI, by
          rw [List.append_assoc]
          have := HT.out
          rw [HN.out] at this
          exact this⟩
        case measure => simp [lenOf, ah]; omega
   ·have HN : Hid (dec (a :: t) = a :: dec t) := lu _ _ (by
     match t with
     | [] => rfl
     | [_] => rfl
     | _ :: _ :: _ => rw [esc, if_neg (by intro h; exact h37 h.1)])
    have t37 : ((a.toNat : Int) == 37) = false := by
     simp
     intro h
     exact h37 (UInt8.toNat_inj.1 (by simp; omega))
    clear h37
    go_wp2_with (at_builtin; refine bC rfl _ _ 61 rfl w.heap.size 5 i0 (.int .u8 0) 1 Tryz.underlying61 hi hz0 hz1 hz2 rfl _ X.length _ rfl hown hbel hbel.size [.int .u8 (a.toNat : Int)] 1 rfl rfl (by intro u hu; simp at hu; subst hu; rfl) (by unfold maxLen; omega) (by omega) ?_)
    intro v' w3 hown3 gI
    clear hown hbel
    go_wp2
    go_roundw
    case rel => exact ⟨t, X ++ [a], by simp at hlen ⊢; omega, rfl, by rw [dV, List.length_append]; exact hown3, gI, by
      rw [List.append_assoc]
      have := HT.out
      rw [HN.out] at this
      exact this⟩
    case measure => simp [lenOf, ah]
end Go.Proofs.YtmdofbccebkbiaaGreatDoor.EscF
namespace Go.Proofs.YtmdofbccebkbiaaGreatDoor.Gv
open Go.RowKit Base zN aH fA dM
theorem vI (k : Int) (hk : k ≠ 6) (n : Nat) (h : n < 16) : iU k (aH.kV n).toNat = false := by
 by_cases ho : k < 0 ∨ 6 < k
 ·exact Gg k _ ho
 ·have H : ∀ (a : Fin 6) (b : Fin 16), iU (a.val : Int) ((aH.kV b.val).toNat : Int) = false := by decide
  have := H ⟨k.toNat, by omega⟩ ⟨n, h⟩
  simpa [Int.toNat_of_nonneg (show 0 ≤ k by omega)] using this
theorem Gn (k : Int) (hk : k ≠ 6) : iU k ((37 : UInt8).toNat : Int) = false := by
 by_cases ho : k < 0 ∨ 6 < k
 ·exact Gg k _ ho
 ·have H : ∀ (a : Fin 6), iU (a.val : Int) ((37 : UInt8).toNat : Int) = false := by decide
  have := H ⟨k.toNat, by omega⟩
  simpa [Int.toNat_of_nonneg (show 0 ≤ k by omega)] using this
theorem dO (k : Int) (c : UInt8) (L : List UInt8) : enc k (c :: L) = one k c ++ enc k L := by simp [enc]
theorem oJ (k : Int) (L : List UInt8) (h : ∀ c ∈ L, iU k c.toNat = false) : enc k L = L := by
 induction L with
 | nil => rfl
 | cons c L ih =>
  rw [dO, ih (fun d hd => h d (by simp [hd]))]
  unfold one
  rw [h c (by simp)]
  rfl
theorem vV (k : Int) (hk : k ≠ 6) (c : UInt8) : ∀ d ∈ one k c, iU k d.toNat = false := by
 intro d hd
 have hc := c.toNat_lt
 unfold one at hd
 split at hd
 ·simp only [List.mem_cons, List.not_mem_nil, or_false] at hd
  rcases hd with rfl | rfl | rfl
  ·exact Gn k hk
  ·exact vI k hk _ (by omega)
  ·exact vI k hk _ (by omega)
 ·rename_i hn
  simp only [List.mem_cons, List.not_mem_nil, or_false] at hd
  subst hd
  simpa using hn
theorem MR (k : Int) (hk : k ≠ 6) (L : List UInt8) : enc k (enc k L) = enc k L := by
 refine oJ k _ fun d hd => ?_
 simp only [enc, List.mem_flatMap] at hd
 obtain ⟨c, _, hd⟩ := hd
 exact vV k hk c d hd
theorem CW (x : UInt8) (t : List UInt8) (h : x ≠ 37) : esc (x :: t) = none := by
 match t with
 | [] => rfl
 | [_] => rfl
 | _ :: _ :: _ => rw [esc, if_neg (fun e => h e.1)]
end Go.Proofs.YtmdofbccebkbiaaGreatDoor.Gv
namespace Go.Proofs.YtmdofbccebkbiaaGreatDoor.FQ
open Go.RowKit Base dM iT mX rH Md Yf uY LW
theorem dW {p : UInt8 → Prop} [∀ c, Decidable (p c)] (h : ∀ n : Fin 256, p (UInt8.ofNat n.val)) (c : UInt8) : p c := by
 have := h ⟨c.toNat, c.toNat_lt⟩
 simpa using this
theorem low_low (c : UInt8) : low (low c) = low c := dW (p := fun c => low (low c) = low c) (by decide +kernel) c
theorem Fg (L : List UInt8) : lower (lower L) = lower L := by
 unfold lower
 rw [List.map_map]
 exact List.map_congr_left fun c _ => low_low c
theorem WO (c : UInt8) (h : jV 16 c = true) : 33 ≤ c.toNat ∧ c.toNat ≤ 126 := by
 have := dW (p := fun c => jV 16 c = true → 33 ≤ c.toNat ∧ c.toNat ≤ 126) (by decide +kernel) c
 exact this h
theorem WL (c : UInt8) (h : jV 10 c = true) : okb true c = true ∧ low c = c ∧ c ≠ 37 := by
 have := dW (p := fun c => jV 10 c = true → okb true c = true ∧ low c = c ∧ c ≠ 37) (by decide +kernel) c
 exact this h
theorem jX (c : UInt8) (h : okb true c = true) : 33 ≤ c.toNat ∧ c.toNat ≤ 126 ∧ D9 true c = false ∧ c ≠ 91 ∧ c ≠ 37 := by
 have := dW (p := fun c => okb true c = true → 33 ≤ c.toNat ∧ c.toNat ≤ 126 ∧ D9 true c = false ∧ c ≠ 91 ∧ c ≠ 37) (by decide +kernel) c
 exact this h
theorem EI {x : UInt8} : ∀ (ws : List (List UInt8)), x ∈ iM ws → x = 58 ∨ ∃ v ∈ ws, x ∈ v
 | [], h => by simp [iM] at h
 | [v], h => .inr ⟨v, by simp, h⟩
 | v :: u :: r, h => by
  have h' : x ∈ v ++ 58 :: iM (u :: r) := h
  rcases List.mem_append.1 h' with h1 | h1
  ·exact .inr ⟨v, by simp, h1⟩
  ·rcases List.mem_cons.1 h1 with h2 | h2
   ·exact .inl h2
   ·rcases EI (u :: r) h2 with h3 | ⟨t, ht, hx⟩
    ·exact .inl h3
    ·exact .inr ⟨t, by simp at ht ⊢; exact .inr ht, hx⟩
theorem SG {x : UInt8} {L : List Nat} (hL : ∀ n ∈ L, n < 65536) (h : x ∈ jx L) : 33 ≤ x.toNat ∧ x.toNat ≤ 126 := by
 unfold jx at h
 rcases EI _ h with rfl | ⟨v, hv, hx⟩
 ·decide
 ·obtain ⟨n, hn, rfl⟩ := List.mem_map.1 hv
  exact WO x (List.all_eq_true.1 (Dl n n (Nat.le_refl _) (hL n hn)).1 x hx)
theorem prt_mem {x : UInt8} {f : Nat → Nat} (h6 : ∀ i, f i < 65536) (h : x ∈ lJ.prt f) : 33 ≤ x.toNat ∧ x.toNat ≤ 126 := by
 have hV := lJ.MC h6
 unfold lJ.prt at h
 split at h
 ·exact SG hV h
 ·simp only [List.mem_append, List.mem_cons, List.not_mem_nil, or_false] at h
  rcases h with (h | rfl | rfl) | h
  ·exact SG (fun n hn => hV n (List.mem_of_mem_take hn)) h
  ·decide
  ·decide
  ·exact SG (fun n hn => hV n (List.mem_of_mem_drop hn)) h
theorem Kw : ∀ (L : List UInt8), (∀ c ∈ L, c ≠ 37) → fA.dec L = L
 | [], _ => rfl
 | c :: L, h => by
  rw [fA.lu c L (Gv.CW c L (h c (by simp))), Kw L fun d hd => h d (by simp [hd])]
theorem zH {d : Bool} {L : List UInt8} (h : oks d L = true) {c : UInt8} (hc : c ∈ L) : okb d c = true := List.all_eq_true.1 h c hc
theorem ZK {d : Bool} {L : List UInt8} (h : ∀ c ∈ L, okb d c = true) : oks d L = true := List.all_eq_true.2 h
theorem ZJ {L : List UInt8} (h : oks true L = true) : L.head? ≠ some 91 := by
 intro e
 cases L with
 | nil => cases e
 | cons c r =>
  simp at e
  exact (jX c (zH h (by simp))).2.2.2.1 e
theorem Z9 {c : UInt8} (n : Nat) (h : c ∈ Bc.pr n) : okb true c = true ∧ low c = c ∧ c ≠ 37 := by
 have hd : ∀ m : Nat, c ∈ Lib.decDigits m → okb true c = true ∧ low c = c ∧ c ≠ 37 := fun m hm =>
  WL c (List.all_eq_true.1 (VP.F8 (m + 1) m (by omega)).2 c hm)
 rw [VP.Vb] at h
 simp only [List.mem_append, List.mem_cons] at h
 rcases h with h | rfl | h | rfl | h | rfl | h
 ·exact hd _ h
 ·decide
 ·exact hd _ h
 ·decide
 ·exact hd _ h
 ·decide
 ·exact hd _ h
theorem pr_ne (n : Nat) : Bc.pr n ≠ [] := by
 obtain ⟨c, r, h, _⟩ := VP.pr_head n
 rw [h]
 simp
theorem Zi {M : List UInt8} (ho : oks true M = true) (hl : lower M = M) : hst M true = MQ M := by
 unfold hst
 rw [if_neg (ZJ ho), if_pos rfl, Kw M fun c hc => (jX c (zH ho hc)).2.2.2.2]
 unfold RH
 rw [if_pos ho, hl]
def Good (sp : Bool) (R : List UInt8) : Prop := hst R sp = some R ∧ (∀ c ∈ R, 33 ≤ c.toNat ∧ c.toNat ≤ 126) ∧ (R.head? ≠ some 91 → ∀ c ∈ R, D9 sp c = false)
theorem UD {R : List UInt8} (ho : oks true R = true) (hl : lower R = R) (hd : MQ R = some R) : Good true R :=
 ⟨by rw [Zi ho hl, hd], fun c hc => ⟨(jX c (zH ho hc)).1, (jX c (zH ho hc)).2.1⟩, fun _ c hc => (jX c (zH ho hc)).2.2.1⟩
theorem YQ {L : List UInt8} (ho : oks false L = true) {c : UInt8} (h : c ∈ aH.enc 0 L) : Wy c = false ∧ 33 ≤ c.toNat ∧ c.toNat ≤ 126 := by
 unfold aH.enc at h
 obtain ⟨x, hx, hc⟩ := List.mem_flatMap.1 h
 have hb := zH ho hx
 have H := dW (p := fun x => okb false x = true → ∀ c ∈ aH.one 0 x, Wy c = false ∧ 33 ≤ c.toNat ∧ c.toNat ≤ 126) (by decide +kernel) x
 exact H hb c hc
theorem Ic {s : List UInt8} {sp : Bool} {R : List UInt8} (h : hst s sp = some R) : Good sp R := by
 unfold hst at h
 split at h
 ·unfold hbr at h
  split at h
  ·unfold addr at h
   split at h
   ·cases h
   ·rename_i V hv
    injection h with h
    obtain ⟨f, rfl, h6⟩ := NI hv
    rw [Gp] at h
    subst h
    refine ⟨?_, ?_, ?_⟩
    ·unfold hst
     rw [if_pos (show (91 :: (lJ.prt f ++ [93])).head? = some 91 from rfl)]
     show hbr (lJ.prt f ++ [93]) = _
     have hs : Lib.hasSuffix (lJ.prt f ++ [93]) [93] = true := by
      unfold Lib.hasSuffix
      rw [List.isSuffixOf_iff_suffix]
      exact ⟨_, rfl⟩
     have ht : Lib.trimSuffix (lJ.prt f ++ [93]) [93] = lJ.prt f := by
      unfold Lib.trimSuffix
      rw [if_pos hs]
      simp
     unfold hbr
     rw [if_pos hs, ht]
     unfold addr
     rw [six_prt f h6]
     show some (91 :: (aad (V8 f) ++ [93])) = _
     rw [Gp]
    ·intro c hc
     simp only [List.mem_cons, List.mem_append, List.not_mem_nil, or_false] at hc
     rcases hc with rfl | hc | rfl
     ·decide
     ·exact prt_mem h6 hc
     ·decide
    ·intro hn
     exact absurd rfl hn
  ·cases h
 ·split at h
  ·rename_i hsp
   subst hsp
   unfold RH at h
   split at h
   ·rename_i ho
    have ho2 : oks true (lower (fA.dec s)) = true := by rw [KZ]; exact ho
    unfold MQ at h
    split at h
    ·cases h
    ·rename_i hne
     split at h
     ·rename_i he
      cases hp : FX (lower (fA.dec s)) with
      | none => rw [hp] at h; cases h
      | some n =>
       rw [hp] at h
       injection h with h
       subst h
       have hn := IQ hp
       refine UD (ZK fun c hc => (Z9 n hc).1) ?_ ?_
       ·unfold lower
        conv => rhs; rw [← List.map_id (Bc.pr n)]
        exact List.map_congr_left fun c hc => (Z9 n hc).2.1
       ·unfold MQ
        rw [if_neg (pr_ne n), if_pos (VP.ends_pr n), VP.prs_pr n hn]
        rfl
     ·rename_i he
      injection h with h
      subst h
      refine UD ho2 (Fg _) ?_
      unfold MQ
      rw [if_neg hne, if_neg he]
   ·cases h
  ·rename_i hsp
   have hsp' : sp = false := by simpa using hsp
   subst hsp'
   unfold plc at h
   split at h
   ·rename_i ho
    injection h with h
    subst h
    have hm := fun c hc => YQ ho (c := c) hc
    refine ⟨?_, fun c hc => (hm c hc).2, fun _ c hc => by rw [KF]; exact (hm c hc).1⟩
    unfold hst
    rw [if_neg, if_neg (by simp)]
    ·unfold plc
     rw [if_pos (ZK fun c hc => by rw [WV, (hm c hc).1]; rfl), Gv.MR 0 (by decide)]
    ·intro e
     cases hE : aH.enc 0 s with
     | nil => rw [hE] at e; cases e
     | cons a r =>
      rw [hE] at e
      simp at e
      subst e
      have := (hm 91 (by rw [hE]; simp)).1
      revert this
      decide
   ·cases h
theorem Ph {s : List UInt8} {sp : Bool} {R : List UInt8} (h : hst s sp = some R) : R.length ≤ 3 * s.length + 200 := by
 unfold hst at h
 split at h
 ·unfold hbr at h
  split at h
  ·unfold addr at h
   split at h
   ·cases h
   ·injection h with h
    subst h
    simp only [List.length_cons, List.length_append, List.length_nil]
    unfold aad
    rename_i V _
    have := Ve (fun i => V.getD i 0)
    omega
  ·cases h
 ·split at h
  ·unfold RH at h
   split at h
   ·unfold MQ at h
    split at h
    ·cases h
    ·split at h
     ·cases hp : FX (lower (fA.dec s)) with
      | none => rw [hp] at h; cases h
      | some n =>
       rw [hp] at h
       injection h with h
       subst h
       have := Bc.pr_len n (IQ hp)
       omega
     ·injection h with h
      subst h
      have := fA.iF s
      simp [lower]
      omega
   ·cases h
  ·unfold plc at h
   split at h
   ·injection h with h
    subst h
    have := aH.iG 0 s
    omega
   ·cases h
end Go.Proofs.YtmdofbccebkbiaaGreatDoor.FQ
