/- Texts that belong together: PrsL, EscF, EscP, HstQ. -/
import Derived.Test.YtmdofbccebkbiaaGreatDoorMH
import Derived.Test.YtmdofbccebkbiaaGreatDoorME
import Derived.IntWalk
import Derived.Test.YtmdofbccebkbiaaGreatDoorMF
set_option linter.unusedSimpArgs false
set_option linter.unusedVariables false
namespace Go.Proofs.YtmdofbccebkbiaaGreatDoor.PrsL
open Go.RowKit Base UtfR UtfE UtfL PthP PthE PthG PthJ UrlA HstP PrsP
theorem some_of_ite {α : Type} {c : Prop} [Decidable c] {x : Option α} {u : α} (h : (if c then none else x) = some u) : ¬ c ∧ x = some u := by
 by_cases hc : c
 ·rw [if_pos hc] at h; cases h
 ·rw [if_neg hc] at h; exact ⟨hc, h⟩
end Go.Proofs.YtmdofbccebkbiaaGreatDoor.PrsL
namespace Go.Proofs.YtmdofbccebkbiaaGreatDoor.EscF
open Go.RowKit Base UtfA EscD
theorem str_rest (R : List UInt8) (k : Nat) (h : k ≤ R.length) : (strOf R).extract k (strOf R).size = strOf (R.drop k) := by
 have e := extract_drop (strOf R) k (by rw [size_strOf]; exact h)
 have e2 : (strOf R).data.toList = R := rfl
 rw [e2] at e
 rw [← strOf_toList ((strOf R).extract k (strOf R).size), e]
theorem esc_hex (a b c : UInt8) (t : List UInt8) : (a = 37 ∧ 0 ≤ hex b.toNat ∧ 0 ≤ hex c.toNat → esc (a :: b :: c :: t) = some (UInt8.ofNat (16 * hex b.toNat + hex c.toNat).toNat)) ∧ (¬ (a = 37 ∧ 0 ≤ hex b.toNat ∧ 0 ≤ hex c.toNat) → esc (a :: b :: c :: t) = none) := by
 constructor <;> intro h
 ·rw [esc, if_pos h]
 ·rw [esc, if_neg h]
theorem hexr (c : Int) (w : World) : Calls Tryz.prog 133 #[.int .u8 c] w fun e w' => e = .returned (.int .i64 (hex c)) ∧ w' = w :=
 (RefA.hex_any c w).mono fun _ _ ⟨he, hw⟩ => ⟨he, hw.symm⟩
theorem one_one (a : Int) : ∀ u ∈ [Value.int .u8 a], u.oneCell' = true := by
 intro u hu
 simp at hu
 subst hu
 rfl
attribute [local go_sem ↓] Go.wp_at_zero Go.wp_at_succ
def lenOf : Value → Nat
 | .string q => q.size
 | _ => 0
set_option maxHeartbeats 4000000 in
set_option maxRecDepth 100000 in
theorem decode_ref (s : ByteArray) (w : World) (hs : s.size ≤ 1073741824) : Calls Tryz.prog 63 #[.string s] w fun e w' => e = .returned (.string (strOf (dec s.data.toList))) ∧ Below w.heap.size w w' := by
 obtain ⟨i0, hi, hz0, hz1, hz2⟩ := info_parts info_u8
 obtain ⟨R0, hR0⟩ : ∃ R0, R0 = s.data.toList := ⟨_, rfl⟩
 have hs0 : s = strOf R0 := by rw [hR0]; exact (strOf_toList s).symm
 subst hs0
 rw [size_strOf] at hs
 rw [← hR0]
 clear hR0
 go_enter Tryz.func63, Tryz.ntmps63
 go_wp2
 go_loopw [0, 3] (fun vs v wr => ∃ (R X : List UInt8), R.length + X.length ≤ 1073741824 ∧ vs = .string (strOf R) ∧ wr.ownsRow w.heap.size 5 1 v X.length (bcells X) ∧ Below w.heap.size w wr ∧ Hid (X ++ dec R = dec R0)) (fun vs _ _ => lenOf vs)
 case atStart => exact ⟨R0, [], by simpa using hs, rfl, World.ownsRow_nil _ _ _ _, Below.refl _ _, rfl⟩
 case round =>
  obtain ⟨R, X, hlen, rfl, hown, hbel, HT⟩ := hrel
  cases R with
  | nil =>
   have HE : Hid (X = dec R0) := by
    have e := HT.out
    rw [dec_nil, List.append_nil] at e
    exact e
   have hsz : (strOf []).size = 0 := rfl
   rw [HE.out] at hown
   obtain ⟨A', c', rfl, _, _, hrd⟩ := owns_form hown
   have hst := run_string_of 61 9 5 Tryz.underlying61 Tryz.underlying5 Tryz.underlying9 _ c' hrd
   go_wp2
   go_ret
   exact ⟨rfl, hbel⟩
  | cons a t =>
   have hsz : (strOf (a :: t)).size = t.length + 1 := by rw [size_strOf, List.length_cons]
   have hx0 : ∀ h : 0 < (strOf (a :: t)).size, (strOf (a :: t))[0]'h = a := fun _ => rfl
   have hc1 : (strOf (a :: t)).extract 1 (t.length + 1) = strOf t := by
    have := str_rest (a :: t) 1 (by simp)
    rw [hsz] at this
    exact this
   have hlen' : t.length + 1 + X.length ≤ 1073741824 := by simpa using hlen
   by_cases h37 : a = 37
   ·subst h37
    have t37 : (((37 : UInt8).toNat : Int) == 37) = true := by decide
    by_cases h3 : t.length < 2
    ·have HN : Hid (dec (37 :: t) = 37 :: dec t) := dec_none _ _ (by
      match t, h3 with
      | [], _ => rfl
      | [_], _ => rfl)
     have h3' : ¬ (2 : Int) < (t.length : Int) + 1 := by omega
     go_wp2_with (at_builtin; refine wpList_app rfl _ _ 61 rfl w.heap.size 5 i0 (.int .u8 0) 1 Tryz.underlying61 hi hz0 hz1 hz2 rfl _ X.length _ rfl hown hbel hbel.size [.int .u8 37] 1 rfl rfl (by intro u hu; simp at hu; subst hu; rfl) (by unfold maxLen; omega) (by omega) ?_)
     intro v' w3 hown3 hbel3
     clear hown hbel
     go_wp2
     go_roundw
     case rel => exact ⟨t, X ++ [37], by simp at hlen' ⊢; omega, rfl, by rw [bcells_append, List.length_append]; exact hown3, hbel3, by
       rw [List.append_assoc]
       have := HT.out
       rw [HN.out] at this
       exact this⟩
     case measure => simp [lenOf, size_strOf]
    ·obtain ⟨b, c, t', rfl⟩ : ∃ b c t', t = b :: c :: t' := by
      match t, h3 with
      | b :: c :: t', _ => exact ⟨b, c, t', rfl⟩
      | [], h => simp at h
      | [_], h => simp at h
     clear h3
     have h3' : (2 : Int) < (((b :: c :: t').length : Nat) : Int) + 1 := by simp; omega
     have hx1 : ∀ h : 1 < (strOf (37 :: b :: c :: t')).size, (strOf (37 :: b :: c :: t'))[1]'h = b := fun _ => rfl
     have hx2 : ∀ h : 2 < (strOf (37 :: b :: c :: t')).size, (strOf (37 :: b :: c :: t'))[2]'h = c := fun _ => rfl
     have hc3 : (strOf (37 :: b :: c :: t')).extract 3 ((b :: c :: t').length + 1) = strOf t' := by
      have := str_rest (37 :: b :: c :: t') 3 (by simp)
      rw [hsz] at this
      exact this
     obtain ⟨hb1, hb2⟩ := hex_le b
     obtain ⟨hd1, hd2⟩ := hex_le c
     obtain ⟨HY, HZ⟩ := esc_hex 37 b c t'
     obtain ⟨m, hm⟩ : ∃ m, m = (b :: c :: t').length := ⟨_, rfl⟩
     have hm' : m = t'.length + 2 := by rw [hm]; simp
     rw [← hm] at hsz hc1 hc3 h3' hlen'
     have HM := hid hm'
     clear hm hm'
     by_cases hx : hex b.toNat < 0
     ·have HN : Hid (dec (37 :: b :: c :: t') = 37 :: dec (b :: c :: t')) := dec_none _ _ (HZ (by intro h; omega))
      clear HY HZ
      go_wp2_with fail
      refine (hexr _ _).mono ?_
      rintro e w2 ⟨rfl, hw⟩
      subst hw
      go_wp2_with (at_builtin; refine wpList_app rfl _ _ 61 rfl w.heap.size 5 i0 (.int .u8 0) 1 Tryz.underlying61 hi hz0 hz1 hz2 rfl _ X.length _ rfl hown hbel hbel.size [.int .u8 37] 1 rfl rfl (by intro u hu; simp at hu; subst hu; rfl) (by unfold maxLen; omega) (by omega) ?_)
      intro v' w3 hown3 hbel3
      clear hown hbel
      go_wp2
      go_roundw
      case rel => exact ⟨b :: c :: t', X ++ [37], by simp; have := HM.out; omega, rfl, by rw [bcells_append, List.length_append]; exact hown3, hbel3, by
        rw [List.append_assoc]
        have := HT.out
        rw [HN.out] at this
        exact this⟩
      case measure => simp [lenOf, size_strOf]
     ·have hx' : 0 ≤ hex b.toNat := by omega
      clear hx hb1
      by_cases hy : hex c.toNat < 0
      ·have HN : Hid (dec (37 :: b :: c :: t') = 37 :: dec (b :: c :: t')) := dec_none _ _ (HZ (by intro h; omega))
       clear HY HZ
       go_wp2_with fail
       refine (hexr _ _).mono ?_
       rintro e w2 ⟨rfl, hw⟩
       subst hw
       go_wp2_with fail
       refine (hexr _ _).mono ?_
       rintro e w2 ⟨rfl, hw⟩
       subst hw
       go_wp2_with (at_builtin; refine wpList_app rfl _ _ 61 rfl w.heap.size 5 i0 (.int .u8 0) 1 Tryz.underlying61 hi hz0 hz1 hz2 rfl _ X.length _ rfl hown hbel hbel.size [.int .u8 37] 1 rfl rfl (by intro u hu; simp at hu; subst hu; rfl) (by unfold maxLen; omega) (by omega) ?_)
       intro v' w3 hown3 hbel3
       clear hown hbel
       go_wp2
       go_roundw
       case rel => exact ⟨b :: c :: t', X ++ [37], by simp; have := HM.out; omega, rfl, by rw [bcells_append, List.length_append]; exact hown3, hbel3, by
         rw [List.append_assoc]
         have := HT.out
         rw [HN.out] at this
         exact this⟩
       case measure => simp [lenOf, size_strOf]
      ·have hy' : 0 ≤ hex c.toNat := by omega
       clear hy hd1
       have HN : Hid (dec (37 :: b :: c :: t') = UInt8.ofNat (16 * hex b.toNat + hex c.toNat).toNat :: dec t') := by
        rw [dec_some _ _ _ (HY ⟨rfl, hx', hy'⟩)]
        exact rfl
       clear HY HZ
       have HU : Hid (((UInt8.ofNat (16 * hex b.toNat + hex c.toNat).toNat).toNat : Int) = 16 * hex b.toNat + hex c.toNat) := u8_of _ (by omega) (by omega)
       go_wp2_with fail
       refine (hexr _ _).mono ?_
       rintro e w2 ⟨rfl, hw⟩
       subst hw
       go_wp2_with fail
       refine (hexr _ _).mono ?_
       rintro e w2 ⟨rfl, hw⟩
       subst hw
       have s1 : IntKind.i64.wrap (16 * hex b.toNat) = 16 * hex b.toNat := IntWalk.i64_in _ (by omega)
       have s2 : IntKind.i64.wrap (16 * hex b.toNat + hex c.toNat) = 16 * hex b.toNat + hex c.toNat := IntWalk.i64_in _ (by omega)
       have s3 : (16 * hex b.toNat + hex c.toNat) % 256 = 16 * hex b.toNat + hex c.toNat := by omega
       have s4 : IntKind.u8.wrap (16 * hex b.toNat + hex c.toNat) = 16 * hex b.toNat + hex c.toNat := by rw [IntKind.wrap_u8]; omega
       go_wp2
       have s5 : (1 : Int) < (m : Int) + 1 := by omega
       go_region_held3 (fun _ => True) (trivial) (first | (go_at_call 133; refine (hexr _ _).mono ?_; rintro e w' ⟨rfl, rfl⟩) | (refine step_app (by rfl) _ _ 61 (by rfl) w.heap.size 5 i0 (.int .u8 0) 1 Tryz.underlying61 hi hz0 hz1 hz2 (by rfl) _ X.length _ (by rfl) hown hbel hbel.size [.int .u8 (16 * hex b.toNat + hex c.toNat)] 1 (by rfl) (by decide) (by rfl) (one_one _) (by unfold maxLen; omega) (by omega) ⟨⟨rfl, rfl, rfl, Nat.le_refl _, fun _ _ => rfl⟩, fun _ => rfl, by simp⟩ ?_; intro v' w3 hown3 hbel3))
       go_goals
       all_goals
        clear hown hbel s1 s2 s3 s4 s5
        go_wp2
        go_roundw
        case rel => exact ⟨t', X ++ [UInt8.ofNat (16 * hex b.toNat + hex c.toNat).toNat], by simp; have := HM.out; omega, rfl, by
          rw [bcells_append, List.length_append]
          show World.ownsRow _ _ _ _ _ _ (bcells X ++ [Value.int .u8 ((UInt8.ofNat (16 * hex b.toNat + hex c.toNat).toNat).toNat : Int)])
          rw [HU.out]
          exact hown3, hbel3, by
          rw [List.append_assoc]
          have := HT.out
          rw [HN.out] at this
          exact this⟩
        case measure => simp [lenOf, size_strOf]; omega
   ·have HN : Hid (dec (a :: t) = a :: dec t) := dec_none _ _ (by
     match t with
     | [] => rfl
     | [_] => rfl
     | _ :: _ :: _ => rw [esc, if_neg (by intro h; exact h37 h.1)])
    have t37 : ((a.toNat : Int) == 37) = false := by
     simp
     intro h
     exact h37 (UInt8.toNat_inj.1 (by simp; omega))
    clear h37
    go_wp2_with (at_builtin; refine wpList_app rfl _ _ 61 rfl w.heap.size 5 i0 (.int .u8 0) 1 Tryz.underlying61 hi hz0 hz1 hz2 rfl _ X.length _ rfl hown hbel hbel.size [.int .u8 (a.toNat : Int)] 1 rfl rfl (by intro u hu; simp at hu; subst hu; rfl) (by unfold maxLen; omega) (by omega) ?_)
    intro v' w3 hown3 hbel3
    clear hown hbel
    go_wp2
    go_roundw
    case rel => exact ⟨t, X ++ [a], by simp at hlen ⊢; omega, rfl, by rw [bcells_append, List.length_append]; exact hown3, hbel3, by
      rw [List.append_assoc]
      have := HT.out
      rw [HN.out] at this
      exact this⟩
    case measure => simp [lenOf, size_strOf]
end Go.Proofs.YtmdofbccebkbiaaGreatDoor.EscF
namespace Go.Proofs.YtmdofbccebkbiaaGreatDoor.EscP
open Go.RowKit Base EscI EscE EscD UtfA
theorem dig_out (k : Int) (hk : k ≠ 6) (n : Nat) (h : n < 16) : inS k (EscE.dig n).toNat = false := by
 by_cases ho : k < 0 ∨ 6 < k
 ·exact inS_out k _ ho
 ·have H : ∀ (a : Fin 6) (b : Fin 16), inS (a.val : Int) ((EscE.dig b.val).toNat : Int) = false := by decide
  have := H ⟨k.toNat, by omega⟩ ⟨n, h⟩
  simpa [Int.toNat_of_nonneg (show 0 ≤ k by omega)] using this
theorem pct_out (k : Int) (hk : k ≠ 6) : inS k ((37 : UInt8).toNat : Int) = false := by
 by_cases ho : k < 0 ∨ 6 < k
 ·exact inS_out k _ ho
 ·have H : ∀ (a : Fin 6), inS (a.val : Int) ((37 : UInt8).toNat : Int) = false := by decide
  have := H ⟨k.toNat, by omega⟩
  simpa [Int.toNat_of_nonneg (show 0 ≤ k by omega)] using this
theorem enc_cons (k : Int) (c : UInt8) (L : List UInt8) : enc k (c :: L) = one k c ++ enc k L := by simp [enc]
theorem enc_fix (k : Int) (L : List UInt8) (h : ∀ c ∈ L, inS k c.toNat = false) : enc k L = L := by
 induction L with
 | nil => rfl
 | cons c L ih =>
  rw [enc_cons, ih (fun d hd => h d (by simp [hd]))]
  unfold one
  rw [h c (by simp)]
  rfl
theorem one_out (k : Int) (hk : k ≠ 6) (c : UInt8) : ∀ d ∈ one k c, inS k d.toNat = false := by
 intro d hd
 have hc := c.toNat_lt
 unfold one at hd
 split at hd
 ·simp only [List.mem_cons, List.not_mem_nil, or_false] at hd
  rcases hd with rfl | rfl | rfl
  ·exact pct_out k hk
  ·exact dig_out k hk _ (by omega)
  ·exact dig_out k hk _ (by omega)
 ·rename_i hn
  simp only [List.mem_cons, List.not_mem_nil, or_false] at hd
  subst hd
  simpa using hn
theorem enc_enc (k : Int) (hk : k ≠ 6) (L : List UInt8) : enc k (enc k L) = enc k L := by
 refine enc_fix k _ fun d hd => ?_
 simp only [enc, List.mem_flatMap] at hd
 obtain ⟨c, _, hd⟩ := hd
 exact one_out k hk c d hd
theorem esc_not (x : UInt8) (t : List UInt8) (h : x ≠ 37) : esc (x :: t) = none := by
 match t with
 | [] => rfl
 | [_] => rfl
 | _ :: _ :: _ => rw [esc, if_neg (fun e => h e.1)]
end Go.Proofs.YtmdofbccebkbiaaGreatDoor.EscP
namespace Go.Proofs.YtmdofbccebkbiaaGreatDoor.HstQ
open Go.RowKit Base UtfA UtfL QudP SixP SixH SixL HstP HstB
theorem byteAll {p : UInt8 → Prop} [∀ c, Decidable (p c)] (h : ∀ n : Fin 256, p (UInt8.ofNat n.val)) (c : UInt8) : p c := by
 have := h ⟨c.toNat, c.toNat_lt⟩
 simpa using this
theorem low_low (c : UInt8) : low (low c) = low c := byteAll (p := fun c => low (low c) = low c) (by decide +kernel) c
theorem lower_lower (L : List UInt8) : lower (lower L) = lower L := by
 unfold lower
 rw [List.map_map]
 exact List.map_congr_left fun c _ => low_low c
theorem isD_print (c : UInt8) (h : isD 16 c = true) : 33 ≤ c.toNat ∧ c.toNat ≤ 126 := by
 have := byteAll (p := fun c => isD 16 c = true → 33 ≤ c.toNat ∧ c.toNat ≤ 126) (by decide +kernel) c
 exact this h
theorem isD10_okb (c : UInt8) (h : isD 10 c = true) : okb true c = true ∧ low c = c ∧ c ≠ 37 := by
 have := byteAll (p := fun c => isD 10 c = true → okb true c = true ∧ low c = c ∧ c ≠ 37) (by decide +kernel) c
 exact this h
theorem okb_true_facts (c : UInt8) (h : okb true c = true) : 33 ≤ c.toNat ∧ c.toNat ≤ 126 ∧ fbd true c = false ∧ c ≠ 91 ∧ c ≠ 37 := by
 have := byteAll (p := fun c => okb true c = true → 33 ≤ c.toNat ∧ c.toNat ≤ 126 ∧ fbd true c = false ∧ c ≠ 91 ∧ c ≠ 37) (by decide +kernel) c
 exact this h
theorem joinC_mem {x : UInt8} : ∀ (ws : List (List UInt8)), x ∈ joinC ws → x = 58 ∨ ∃ v ∈ ws, x ∈ v
 | [], h => by simp [joinC] at h
 | [v], h => .inr ⟨v, by simp, h⟩
 | v :: u :: r, h => by
  have h' : x ∈ v ++ 58 :: joinC (u :: r) := h
  rcases List.mem_append.1 h' with h1 | h1
  ·exact .inr ⟨v, by simp, h1⟩
  ·rcases List.mem_cons.1 h1 with h2 | h2
   ·exact .inl h2
   ·rcases joinC_mem (u :: r) h2 with h3 | ⟨t, ht, hx⟩
    ·exact .inl h3
    ·exact .inr ⟨t, by simp at ht ⊢; exact .inr ht, hx⟩
theorem jx_mem {x : UInt8} {L : List Nat} (hL : ∀ n ∈ L, n < 65536) (h : x ∈ jx L) : 33 ≤ x.toNat ∧ x.toNat ≤ 126 := by
 unfold jx at h
 rcases joinC_mem _ h with rfl | ⟨v, hv, hx⟩
 ·decide
 ·obtain ⟨n, hn, rfl⟩ := List.mem_map.1 hv
  exact isD_print x (List.all_eq_true.1 (hx_reads n n (Nat.le_refl _) (hL n hn)).1 x hx)
theorem prt_mem {x : UInt8} {f : Nat → Nat} (h6 : ∀ i, f i < 65536) (h : x ∈ SixI.prt f) : 33 ≤ x.toNat ∧ x.toNat ≤ 126 := by
 have hV := SixI.V8_mem h6
 unfold SixI.prt at h
 split at h
 ·exact jx_mem hV h
 ·simp only [List.mem_append, List.mem_cons, List.not_mem_nil, or_false] at h
  rcases h with (h | rfl | rfl) | h
  ·exact jx_mem (fun n hn => hV n (List.mem_of_mem_take hn)) h
  ·decide
  ·decide
  ·exact jx_mem (fun n hn => hV n (List.mem_of_mem_drop hn)) h
theorem dec_plain : ∀ (L : List UInt8), (∀ c ∈ L, c ≠ 37) → EscD.dec L = L
 | [], _ => rfl
 | c :: L, h => by
  rw [EscD.dec_none c L (EscP.esc_not c L (h c (by simp))), dec_plain L fun d hd => h d (by simp [hd])]
theorem oks_mem {d : Bool} {L : List UInt8} (h : oks d L = true) {c : UInt8} (hc : c ∈ L) : okb d c = true := List.all_eq_true.1 h c hc
theorem oks_of {d : Bool} {L : List UInt8} (h : ∀ c ∈ L, okb d c = true) : oks d L = true := List.all_eq_true.2 h
theorem oks_head {L : List UInt8} (h : oks true L = true) : L.head? ≠ some 91 := by
 intro e
 cases L with
 | nil => cases e
 | cons c r =>
  simp at e
  exact (okb_true_facts c (oks_mem h (by simp))).2.2.2.1 e
theorem pr_mem {c : UInt8} (n : Nat) (h : c ∈ QudG.pr n) : okb true c = true ∧ low c = c ∧ c ≠ 37 := by
 have hd : ∀ m : Nat, c ∈ Lib.decDigits m → okb true c = true ∧ low c = c ∧ c ≠ 37 := fun m hm =>
  isD10_okb c (List.all_eq_true.1 (QudI.dec_val (m + 1) m (by omega)).2 c hm)
 rw [QudI.pr_eq] at h
 simp only [List.mem_append, List.mem_cons] at h
 rcases h with h | rfl | h | rfl | h | rfl | h
 ·exact hd _ h
 ·decide
 ·exact hd _ h
 ·decide
 ·exact hd _ h
 ·decide
 ·exact hd _ h
theorem pr_ne (n : Nat) : QudG.pr n ≠ [] := by
 obtain ⟨c, r, h, _⟩ := QudI.pr_head n
 rw [h]
 simp
theorem hst_same {M : List UInt8} (ho : oks true M = true) (hl : lower M = M) : hst M true = dm2 M := by
 unfold hst
 rw [if_neg (oks_head ho), if_pos rfl, dec_plain M fun c hc => (okb_true_facts c (oks_mem ho hc)).2.2.2.2]
 unfold dmn
 rw [if_pos ho, hl]
def Good (sp : Bool) (R : List UInt8) : Prop := hst R sp = some R ∧ (∀ c ∈ R, 33 ≤ c.toNat ∧ c.toNat ≤ 126) ∧ (R.head? ≠ some 91 → ∀ c ∈ R, fbd sp c = false)
theorem good_sp {R : List UInt8} (ho : oks true R = true) (hl : lower R = R) (hd : dm2 R = some R) : Good true R :=
 ⟨by rw [hst_same ho hl, hd], fun c hc => ⟨(okb_true_facts c (oks_mem ho hc)).1, (okb_true_facts c (oks_mem ho hc)).2.1⟩, fun _ c hc => (okb_true_facts c (oks_mem ho hc)).2.2.1⟩
theorem enc0_mem {L : List UInt8} (ho : oks false L = true) {c : UInt8} (h : c ∈ EscE.enc 0 L) : frb c = false ∧ 33 ≤ c.toNat ∧ c.toNat ≤ 126 := by
 unfold EscE.enc at h
 obtain ⟨x, hx, hc⟩ := List.mem_flatMap.1 h
 have hb := oks_mem ho hx
 have H := byteAll (p := fun x => okb false x = true → ∀ c ∈ EscE.one 0 x, frb c = false ∧ 33 ≤ c.toNat ∧ c.toNat ≤ 126) (by decide +kernel) x
 exact H hb c hc
theorem hst_back {s : List UInt8} {sp : Bool} {R : List UInt8} (h : hst s sp = some R) : Good sp R := by
 unfold hst at h
 split at h
 ·unfold hbr at h
  split at h
  ·unfold addr at h
   split at h
   ·cases h
   ·rename_i V hv
    injection h with h
    obtain ⟨f, rfl, h6⟩ := six_fun hv
    rw [prtL_V8] at h
    subst h
    refine ⟨?_, ?_, ?_⟩
    ·unfold hst
     rw [if_pos (show (91 :: (SixI.prt f ++ [93])).head? = some 91 from rfl)]
     show hbr (SixI.prt f ++ [93]) = _
     have hs : Lib.hasSuffix (SixI.prt f ++ [93]) [93] = true := by
      unfold Lib.hasSuffix
      rw [List.isSuffixOf_iff_suffix]
      exact ⟨_, rfl⟩
     have ht : Lib.trimSuffix (SixI.prt f ++ [93]) [93] = SixI.prt f := by
      unfold Lib.trimSuffix
      rw [if_pos hs]
      simp
     unfold hbr
     rw [if_pos hs, ht]
     unfold addr
     rw [six_prt f h6]
     show some (91 :: (prtL (V8 f) ++ [93])) = _
     rw [prtL_V8]
    ·intro c hc
     simp only [List.mem_cons, List.mem_append, List.not_mem_nil, or_false] at hc
     rcases hc with rfl | hc | rfl
     ·decide
     ·exact prt_mem h6 hc
     ·decide
    ·intro hn
     exact absurd rfl hn
  ·cases h
 ·split at h
  ·rename_i hsp
   subst hsp
   unfold dmn at h
   split at h
   ·rename_i ho
    have ho2 : oks true (lower (EscD.dec s)) = true := by rw [oks_lower]; exact ho
    unfold dm2 at h
    split at h
    ·cases h
    ·rename_i hne
     split at h
     ·rename_i he
      cases hp : prs (lower (EscD.dec s)) with
      | none => rw [hp] at h; cases h
      | some n =>
       rw [hp] at h
       injection h with h
       subst h
       have hn := prs_lt hp
       refine good_sp (oks_of fun c hc => (pr_mem n hc).1) ?_ ?_
       ·unfold lower
        conv => rhs; rw [← List.map_id (QudG.pr n)]
        exact List.map_congr_left fun c hc => (pr_mem n hc).2.1
       ·unfold dm2
        rw [if_neg (pr_ne n), if_pos (QudI.ends_pr n), QudI.prs_pr n hn]
        rfl
     ·rename_i he
      injection h with h
      subst h
      refine good_sp ho2 (lower_lower _) ?_
      unfold dm2
      rw [if_neg hne, if_neg he]
   ·cases h
  ·rename_i hsp
   have hsp' : sp = false := by simpa using hsp
   subst hsp'
   unfold plc at h
   split at h
   ·rename_i ho
    injection h with h
    subst h
    have hm := fun c hc => enc0_mem ho (c := c) hc
    refine ⟨?_, fun c hc => (hm c hc).2, fun _ c hc => by rw [fbd_false]; exact (hm c hc).1⟩
    unfold hst
    rw [if_neg, if_neg (by simp)]
    ·unfold plc
     rw [if_pos (oks_of fun c hc => by rw [okb_false, (hm c hc).1]; rfl), EscP.enc_enc 0 (by decide)]
    ·intro e
     cases hE : EscE.enc 0 s with
     | nil => rw [hE] at e; cases e
     | cons a r =>
      rw [hE] at e
      simp at e
      subst e
      have := (hm 91 (by rw [hE]; simp)).1
      revert this
      decide
   ·cases h
theorem hst_size {s : List UInt8} {sp : Bool} {R : List UInt8} (h : hst s sp = some R) : R.length ≤ 3 * s.length + 200 := by
 unfold hst at h
 split at h
 ·unfold hbr at h
  split at h
  ·unfold addr at h
   split at h
   ·cases h
   ·injection h with h
    subst h
    simp only [List.length_cons, List.length_append, List.length_nil]
    unfold prtL
    rename_i V _
    have := prt_len (fun i => V.getD i 0)
    omega
  ·cases h
 ·split at h
  ·unfold dmn at h
   split at h
   ·unfold dm2 at h
    split at h
    ·cases h
    ·split at h
     ·cases hp : prs (lower (EscD.dec s)) with
      | none => rw [hp] at h; cases h
      | some n =>
       rw [hp] at h
       injection h with h
       subst h
       have := QudG.pr_len n (prs_lt hp)
       omega
     ·injection h with h
      subst h
      have := EscD.dec_len s
      simp [lower]
      omega
   ·cases h
  ·unfold plc at h
   split at h
   ·injection h with h
    subst h
    have := EscE.enc_len 0 s
    omega
   ·cases h
end Go.Proofs.YtmdofbccebkbiaaGreatDoor.HstQ
