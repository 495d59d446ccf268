/- Contract of span.Print; what is printed of a range that is read is read as it. -/
import Derived.Test.YtiencfgmdikepaaDoorSpnE
import Derived.Test.YtiencfgmdikepaaDoorTab
namespace Go.Proofs.YtiencfgmdikepaaDoor.SpnF
open Go.RowKit Go.Proofs.YtiencfgmdikepaaDoor.Base Go.Proofs.YtiencfgmdikepaaDoor.Base2 Go.Proofs.YtiencfgmdikepaaDoor.UtfA Go.Proofs.YtiencfgmdikepaaDoor.SpnP Go.Proofs.YtiencfgmdikepaaDoor.SpnA

theorem dd (u : Nat) : Lib.decDigits u = if u < 10 then [UInt8.ofNat (48 + u)] else Lib.decDigits (u / 10) ++ [UInt8.ofNat (48 + u % 10)] := by
  rw [Lib.decDigits]
  split <;> rfl
theorem of_nat (d : Nat) (h : d < 10) : ((UInt8.ofNat (48 + d)).toNat : Int) = 48 + (d : Int) := by simp; omega
theorem is_digit (d : Nat) (h : d < 10) : digit ((UInt8.ofNat (48 + d)).toNat : Int) = true := by
  rw [of_nat d h]
  unfold digit
  rw [decide_eq_true_iff]
  omega
/-- A number's digits are read as it, whatever stands behind. -/
theorem num_dec : ∀ (k u : Nat), u < k → u ≤ 4611686018427387904 → ∀ t, num 0 (Lib.decDigits u ++ t) = num (u : Int) t
  | 0, _, h, _, _ => absurd h (by omega)
  | k + 1, u, h, hm, t => by
    rw [dd]
    by_cases h10 : u < 10
    · rw [if_pos h10, List.singleton_append, num, if_pos (is_digit u h10)]
      congr 1
      unfold nstep
      rw [of_nat u h10, if_neg (by omega), if_neg (by omega)]
      omega
    · rw [if_neg h10, List.append_assoc, num_dec k (u / 10) (by omega) (by omega), List.singleton_append, num, if_pos (is_digit (u % 10) (by omega))]
      congr 1
      unfold nstep
      rw [of_nat (u % 10) (by omega), if_neg (by omega), if_neg (by omega)]
      omega
theorem dd_head (u : Nat) : ∃ c t, Lib.decDigits u = c :: t ∧ digit c.toNat = true := by
  have H : ∀ k u : Nat, u < k → ∃ c t, Lib.decDigits u = c :: t ∧ digit c.toNat = true := by
    intro k
    induction k with
    | zero => intro u h; omega
    | succ k ih =>
      intro u h
      rw [dd]
      split
      · rename_i h10
        exact ⟨_, [], rfl, is_digit u h10⟩
      · obtain ⟨c, t, e, hc⟩ := ih (u / 10) (by omega)
        exact ⟨c, t ++ [UInt8.ofNat (48 + u % 10)], by rw [e]; rfl, hc⟩
  exact H (u + 1) u (by omega)
theorem dd_len : ∀ (k u : Nat), u < k → u < 10 ^ 19 → (Lib.decDigits u).length ≤ 19 := by
  have H : ∀ (n u : Nat), u < 10 ^ (n + 1) → (Lib.decDigits u).length ≤ n + 1 := by
    intro n
    induction n with
    | zero => intro u h; rw [dd, if_pos (by omega)]; simp
    | succ n ih =>
      intro u h
      rw [dd]
      split
      · simp
      · have := ih (u / 10) (by rw [Nat.pow_succ] at h; omega)
        simp
        omega
  intro _ u _ h
  exact H 18 u h
/-- The number's digits, if it is there. -/
def dg (h : Bool) (n : Nat) : List UInt8 := if h = true then Lib.decDigits n else []
def prt (F T : Nat) (hf ht : Bool) : List UInt8 := [98, 121, 116, 101, 115, 61] ++ dg hf F ++ [45] ++ dg ht T
theorem num_stop' (z : Int) (t : List UInt8) : num z (45 :: t) = (z, 45 :: t) := by rw [num, if_neg (by decide)]
theorem pass_dig (c : UInt8) (t : List UInt8) (h : digit c.toNat = true) : pass (c :: t) = c :: t := by
  obtain ⟨h1, h2⟩ := digit_range c h
  rw [pass_cons, if_neg]
  rw [sp_has]
  simp
  omega
theorem pass_dg (h : Bool) (n : Nat) (t : List UInt8) (ht : pass t = t) : pass (dg h n ++ t) = dg h n ++ t := by
  unfold dg
  split
  · obtain ⟨c, u, e, hc⟩ := dd_head n
    rw [e]
    exact pass_dig c _ hc
  · exact ht
theorem num_dg (h : Bool) (n : Nat) (hn : n ≤ 4611686018427387904) (t : List UInt8) (h0 : h = false → n = 0) : num 0 (dg h n ++ t) = num (n : Int) t := by
  unfold dg
  split
  · exact num_dec (n + 1) n (by omega) hn t
  · rename_i h'
    rw [h0 (by simpa using h')]
    rfl
theorem has_dg (h : Bool) (n : Nat) (t : List UInt8) (e : (num 0 (dg h n ++ t)).2 = t) : hasNum (dg h n ++ t) = h := by
  unfold hasNum
  rw [e]
  unfold dg
  cases h
  · simp
  · obtain ⟨c, u, e', _⟩ := dd_head n
    simp [e']
    omega
theorem says_prt (F T : Nat) (hf ht : Bool) (hF : F ≤ 4611686018427387904) (hT : T ≤ 4611686018427387904) (h0 : hf = false → F = 0) (h1 : ht = false → T = 0) (h2 : hf = true ∨ ht = true) (h3 : hf = true → ht = true → F ≤ T) :
    says (prt F T hf ht) = ((F : Int), (T : Int), hf, ht, true) := by
  have p45 : ∀ t, pass (45 :: t) = 45 :: t := fun t => by rw [pass_cons, if_neg (by decide)]
  have e0 : pass ((prt F T hf ht).drop 5) = 61 :: (dg hf F ++ (45 :: dg ht T)) := by
    have : (prt F T hf ht).drop 5 = 61 :: (dg hf F ++ (45 :: dg ht T)) := by simp [prt]
    rw [this, pass_cons, if_neg (by decide)]
  have ef : from_ (prt F T hf ht) = dg hf F ++ (45 :: dg ht T) := by
    unfold from_
    rw [e0, cut, if_pos rfl, pass_dg _ _ _ (p45 _)]
  have en : num 0 (from_ (prt F T hf ht)) = ((F : Int), 45 :: dg ht T) := by rw [ef, num_dg hf F hF _ h0, num_stop']
  have et : to_ (prt F T hf ht) = dg ht T := by
    unfold to_
    rw [en]
    show pass (cut 45 (pass (45 :: dg ht T))) = _
    rw [p45, cut, if_pos rfl]
    have := pass_dg ht T [] rfl
    simpa using this
  have em : num 0 (to_ (prt F T hf ht)) = ((T : Int), []) := by
    have := num_dg ht T hT [] h1
    rw [List.append_nil] at this
    rw [et, this]
    rfl
  have hhf : hasNum (from_ (prt F T hf ht)) = hf := by
    rw [ef]
    refine has_dg _ _ _ ?_
    rw [← ef, en]
  have hht : hasNum (to_ (prt F T hf ht)) = ht := by
    have := has_dg ht T [] (by rw [List.append_nil, ← et, em])
    rw [List.append_nil] at this
    rw [et]
    exact this
  have hok : okB (prt F T hf ht) = true := by
    unfold okB
    rw [e0, en, em, hhf, hht]
    have q1 : decide (5 ≤ (prt F T hf ht).length) = true := by simp [prt] <;> omega
    have q2 : decide (UtfL.lower ((prt F T hf ht).take 5) = bytesL) = true := by simp [prt]; rfl
    have q3 : is 61 (61 :: (dg hf F ++ (45 :: dg ht T))) = true := rfl
    have q4 : is 45 (pass (45 :: dg ht T)) = true := by rw [p45]; rfl
    rw [q1, q2, q3]
    show (true && true && true && is 45 (pass (45 :: dg ht T)) && _ && _ && _) = true
    rw [q4]
    simp
    refine ⟨h2, ?_⟩
    cases hf <;> cases ht <;> simp_all
  unfold says
  rw [if_pos hok, en, em, hhf, hht]
theorem says_facts (L : List UInt8) (h : (says L).2.2.2.2 = true) : 0 ≤ (says L).1 ∧ (says L).1 ≤ 4611686018427387904 ∧ 0 ≤ (says L).2.1 ∧ (says L).2.1 ≤ 4611686018427387904 ∧ ((says L).2.2.1 = false → (says L).1 = 0) ∧ ((says L).2.2.2.1 = false → (says L).2.1 = 0) ∧ ((says L).2.2.1 = true ∨ (says L).2.2.2.1 = true) ∧ ((says L).2.2.1 = true → (says L).2.2.2.1 = true → (says L).1 ≤ (says L).2.1) := by
  have hz : ∀ M : List UInt8, hasNum M = false → (num 0 M).1 = 0 := by
    intro M hM
    cases M with
    | nil => rfl
    | cons c t =>
      unfold hasNum at hM
      rw [num] at hM ⊢
      split
      · rename_i hd
        rw [if_pos hd] at hM
        have := num_len t (nstep 0 c)
        simp at hM
        omega
      · rfl
  unfold says at h ⊢
  split at h
  · rename_i hok
    rw [if_pos hok]
    have r1 := num_range (from_ L) 0 (by omega) (by omega)
    have r2 := num_range (to_ L) 0 (by omega) (by omega)
    unfold okB at hok
    simp only [Bool.and_eq_true, Bool.or_eq_true, Bool.not_eq_true', Bool.and_eq_false_iff] at hok
    obtain ⟨⟨_, h6⟩, h7⟩ := hok
    refine ⟨r1.1, r1.2, r2.1, r2.2, hz _, hz _, h6, fun a b => ?_⟩
    simp only at a b
    rcases h7 with (h7 | h7) | h7
    · rw [a] at h7; cases h7
    · rw [b] at h7; cases h7
    · simp at h7; exact h7
  · cases h
set_option maxRecDepth 100000 in
set_option maxHeartbeats 1000000 in
theorem print_any (F T : Nat) (hf ht : Bool) (w : World) (hF : F ≤ 4611686018427387904) (hT : T ≤ 4611686018427387904) (hP : Tab.Pow w) :
    Calls Tryd.prog 14 #[.agg #[.int .i64 (F : Int), .int .i64 (T : Int), .bool hf, .bool ht]] w fun e w' => e = .returned (.string (strOf (prt F T hf ht))) ∧ Below w.heap.size w w' := by
  have lF : (Lib.decDigits F).length ≤ 19 := dd_len (F + 1) F (by omega) (by omega)
  have lT : (Lib.decDigits T).length ≤ 19 := dd_len (T + 1) T (by omega) (by omega)
  obtain ⟨X, hX⟩ : ∃ X, X = Lib.decDigits F := ⟨_, rfl⟩
  obtain ⟨Y, hY⟩ : ∃ X, X = Lib.decDigits T := ⟨_, rfl⟩
  have hdf : ∀ b, dg b F = if b = true then X else [] := fun b => by rw [hX]; rfl
  have hdt : ∀ b, dg b T = if b = true then Y else [] := fun b => by rw [hY]; rfl
  rw [← hX] at lF
  rw [← hY] at lT
  have HX := hid hX
  have HY := hid hY
  clear hX hY
  obtain ⟨a1, ha1⟩ : ∃ Z, Z = [98, 121, 116, 101, 115, 61] ++ dg hf F := ⟨_, rfl⟩
  obtain ⟨a2, ha2⟩ : ∃ Z, Z = a1 ++ [45] := ⟨_, rfl⟩
  have hR : prt F T hf ht = a2 ++ dg ht T := by rw [ha2, ha1]; rfl
  have l1 : a1.length ≤ 30 := by rw [ha1, hdf]; cases hf <;> simp <;> omega
  have l2 : a2.length ≤ 31 := by rw [ha2]; simp; omega
  have A2 : Hid (∀ w, (Op.stringOp .add (strOf a1) ⟨#[45]⟩).run Tryd.prog w = .ok (.string (strOf a2)) w) := fun w => by rw [ha2]; exact str_add a1 [45] w (by simp; omega)
  have HR := hid hR
  have H1 := hid ha1
  clear hR ha1 ha2
  have A1 : Hid (hf = true → ∀ w, (Op.stringOp .add ⟨#[98, 121, 116, 101, 115, 61]⟩ (strOf X)).run Tryd.prog w = .ok (.string (strOf a1)) w) := by
    intro h w
    rw [H1.out, hdf, if_pos h]
    exact str_add [98, 121, 116, 101, 115, 61] X w (by simp; omega)
  have B1 : Hid (hf = false → a1 = [98, 121, 116, 101, 115, 61]) := by
    intro h
    rw [H1.out, hdf, if_neg (by rw [h]; decide)]
    rfl
  have A3 : Hid (ht = true → ∀ w, (Op.stringOp .add (strOf a2) (strOf Y)).run Tryd.prog w = .ok (.string (strOf (prt F T hf ht))) w) := by
    intro h w
    rw [HR.out, hdt, if_pos h]
    exact str_add a2 Y w (by omega)
  have B3 : Hid (ht = false → prt F T hf ht = a2) := by
    intro h
    rw [HR.out, hdt, if_neg (by rw [h]; decide)]
    simp
  have HP := hid hP
  have HFI := hid hF
  have HTI := hid hT
  clear hdf hdt hP hF hT lF lT l1 l2 H1 HR
  obtain ⟨R, hR⟩ : ∃ R, R = prt F T hf ht := ⟨_, rfl⟩
  rw [← hR] at A3 B3 ⊢
  clear hR
  cases hf
  · have b1 := B1.out rfl
    subst b1
    have a2' := A2.out
    rw [show strOf [98, 121, 116, 101, 115, 61] = ⟨#[98, 121, 116, 101, 115, 61]⟩ from rfl] at a2'
    clear A1 B1 A2
    cases ht
    · have b3 := B3.out rfl
      subst b3
      clear A3 B3
      go_enter Tryd.func14, Tryd.ntmps14
      go_wp2_with fail
      go_ret
      exact ⟨rfl, (Below.refl _ _).alloc (Nat.le_refl _) _⟩
    · have a3 := A3.out rfl
      clear A3 B3
      go_enter Tryd.func14, Tryd.ntmps14
      go_wp2_with fail
      refine (Tab.format_any T (by have := HTI.out; omega) _ (HP.out.under ((Below.refl w.heap.size w).alloc (Nat.le_refl _) _) (Nat.le_refl _))).mono ?_
      rintro e w1 ⟨rfl, hb1⟩
      rw [← HY.out]
      go_wp2_with fail
      go_ret
      exact ⟨rfl, ((Below.refl _ _).alloc (Nat.le_refl _) _).trans (hb1.mono (by simp))⟩
  · have a1' := A1.out rfl
    have a2' := A2.out
    clear A1 B1 A2
    cases ht
    · have b3 := B3.out rfl
      subst b3
      clear A3 B3
      go_enter Tryd.func14, Tryd.ntmps14
      go_wp2_with fail
      refine (Tab.format_any F (by have := HFI.out; omega) _ (HP.out.under ((Below.refl w.heap.size w).alloc (Nat.le_refl _) _) (Nat.le_refl _))).mono ?_
      rintro e w1 ⟨rfl, hb1⟩
      rw [← HX.out]
      obtain ⟨⟨c0, c1, c2, c3⟩, f0, f1, f2, f3⟩ := (SpnC.T4.below (heap_alloc_new w _) hb1).facts
      clear f0 f1 f2 f3
      go_wp2_with fail
      go_ret
      exact ⟨rfl, ((Below.refl _ _).alloc (Nat.le_refl _) _).trans (hb1.mono (by simp))⟩
    · have a3 := A3.out rfl
      clear A3 B3
      go_enter Tryd.func14, Tryd.ntmps14
      go_wp2_with fail
      refine (Tab.format_any F (by have := HFI.out; omega) _ (HP.out.under ((Below.refl w.heap.size w).alloc (Nat.le_refl _) _) (Nat.le_refl _))).mono ?_
      rintro e w1 ⟨rfl, hb1⟩
      rw [← HX.out]
      obtain ⟨⟨c0, c1, c2, c3⟩, f0, f1, f2, f3⟩ := (SpnC.T4.below (heap_alloc_new w _) hb1).facts
      clear f0 f1 f2 f3
      have HB1 : Hid (Below w.heap.size w w1) := ((Below.refl _ _).alloc (Nat.le_refl _) _).trans (hb1.mono (by simp))
      clear hb1
      go_wp2_with fail
      refine (Tab.format_any T (by have := HTI.out; omega) _ (HP.out.under HB1.out (Nat.le_refl _))).mono ?_
      rintro e w2 ⟨rfl, hb2⟩
      rw [← HY.out]
      go_wp2_with fail
      go_ret
      exact ⟨rfl, bel HB1.out hb2⟩
end Go.Proofs.YtiencfgmdikepaaDoor.SpnF
