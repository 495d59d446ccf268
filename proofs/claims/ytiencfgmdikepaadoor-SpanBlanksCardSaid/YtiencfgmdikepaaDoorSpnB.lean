/- Contracts of (span.Range).Of and of the document's own. -/
import Derived.Test.YtiencfgmdikepaaDoorSpnA
namespace Go.Proofs.YtiencfgmdikepaaDoor.SpnB
open Go.RowKit Go.Proofs.YtiencfgmdikepaaDoor.Base Go.Proofs.YtiencfgmdikepaaDoor.Base2 Go.Proofs.YtiencfgmdikepaaDoor.SpnP Go.Proofs.YtiencfgmdikepaaDoor.SpnA

def ofB (F T : Int) (hf ht : Bool) (n : Int) : Int × Int × Bool :=
  if n < 1 ∨ (hf = false ∧ ht = false) ∨ (hf = true ∧ F < 0) ∨ (ht = true ∧ T < 0) then (0, 0, false)
  else if hf = true then
    if ht = true ∧ T ≤ n - 1 then (if T < F then (0, 0, false) else (F, T, true)) else (if n - 1 < F then (0, 0, false) else (F, n - 1, true))
  else if T = 0 then (0, 0, false) else (if T ≤ n then (n - T, n - 1, true) else (0, n - 1, true))
set_option maxRecDepth 100000 in
set_option maxHeartbeats 4000000 in
theorem of_any (F T : Int) (hf ht : Bool) (n : Int) (w : World) (hF : -9223372036854775808 ≤ F ∧ F ≤ 9223372036854775807) (hT : -9223372036854775808 ≤ T ∧ T ≤ 9223372036854775807) (hn : -9223372036854775808 ≤ n ∧ n ≤ 9223372036854775807) :
    Calls Tryd.prog 12 #[.agg #[.int .i64 F, .int .i64 T, .bool hf, .bool ht], .int .i64 n] w fun e w' => e = .returned (.tuple #[.int .i64 (ofB F T hf ht n).1, .int .i64 (ofB F T hf ht n).2.1, .bool (ofB F T hf ht n).2.2]) ∧ Below w.heap.size w w' := by
  obtain ⟨hF0, hF1⟩ := hF
  obtain ⟨hT0, hT1⟩ := hT
  obtain ⟨hn0, hn1⟩ := hn
  by_cases h1 : n < 1
  · cases hf <;> cases ht
    all_goals
      have HV : ∀ hf ht, Hid (ofB F T hf ht n = (0, 0, false)) := fun hf ht => by show _ = _; unfold ofB; rw [if_pos (.inl h1)]
      go_enter Tryd.func12, Tryd.ntmps12
      go_wp2
      go_ret3
      rw [(HV _ _).out]
      exact ⟨rfl, (Below.refl _ _).alloc (Nat.le_refl _) _⟩
  cases hf
  · cases ht
    · have HV : Hid (ofB F T false false n = (0, 0, false)) := by show _ = _; unfold ofB; rw [if_pos (by simp)]
      go_enter Tryd.func12, Tryd.ntmps12
      go_wp2
      go_ret3
      rw [HV.out]
      exact ⟨rfl, (Below.refl _ _).alloc (Nat.le_refl _) _⟩
    · by_cases h2 : T < 0
      · have HV : Hid (ofB F T false true n = (0, 0, false)) := by show _ = _; unfold ofB; rw [if_pos (.inr (.inr (.inr ⟨rfl, h2⟩)))]
        go_enter Tryd.func12, Tryd.ntmps12
        go_wp2
        go_ret3
        rw [HV.out]
        exact ⟨rfl, (Below.refl _ _).alloc (Nat.le_refl _) _⟩
      · have q1 : ¬ (n < 1 ∨ (false = false ∧ true = false) ∨ (false = true ∧ F < 0) ∨ (true = true ∧ T < 0)) := by simp; omega
        by_cases h3 : T = 0
        · subst h3
          have HV : Hid (ofB F 0 false true n = (0, 0, false)) := by show _ = _; unfold ofB; rw [if_neg q1, if_neg (by decide), if_pos rfl]
          have hmax : max n 0 = n := by omega
          have hmax2 : max (n - 0) 0 = n := by omega
          have hlt : n - 1 < n := by omega
          go_enter Tryd.func12, Tryd.ntmps12
          go_wp2
          go_ret3
          rw [HV.out]
          exact ⟨rfl, (Below.refl _ _).alloc (Nat.le_refl _) _⟩
        · by_cases h4 : T ≤ n
          · have HV : Hid (ofB F T false true n = (n - T, n - 1, true)) := by show _ = _; unfold ofB; rw [if_neg q1, if_neg (by decide), if_neg h3, if_pos h4]
            have hmax : max (n - T) 0 = n - T := by omega
            have hle : ¬ n - 1 < n - T := by omega
            go_enter Tryd.func12, Tryd.ntmps12
            go_wp2
            go_ret3
            rw [HV.out]
            exact ⟨rfl, (Below.refl _ _).alloc (Nat.le_refl _) _⟩
          · have HV : Hid (ofB F T false true n = (0, n - 1, true)) := by show _ = _; unfold ofB; rw [if_neg q1, if_neg (by decide), if_neg h3, if_neg h4]
            have hmax : max (n - T) 0 = 0 := by omega
            have hle : ¬ n - 1 < 0 := by omega
            go_enter Tryd.func12, Tryd.ntmps12
            go_wp2
            go_ret3
            rw [HV.out]
            exact ⟨rfl, (Below.refl _ _).alloc (Nat.le_refl _) _⟩
  · by_cases h2 : F < 0
    · cases ht
      all_goals
        have HV : ∀ ht, Hid (ofB F T true ht n = (0, 0, false)) := fun ht => by show _ = _; unfold ofB; rw [if_pos (.inr (.inr (.inl ⟨rfl, h2⟩)))]
        go_enter Tryd.func12, Tryd.ntmps12
        go_wp2
        go_ret3
        rw [(HV _).out]
        exact ⟨rfl, (Below.refl _ _).alloc (Nat.le_refl _) _⟩
    · cases ht
      · have q1 : ¬ (n < 1 ∨ (true = false ∧ false = false) ∨ (true = true ∧ F < 0) ∨ (false = true ∧ T < 0)) := by simp; omega
        by_cases h3 : n - 1 < F
        · have HV : Hid (ofB F T true false n = (0, 0, false)) := by show _ = _; unfold ofB; rw [if_neg q1, if_pos rfl, if_neg (by simp), if_pos h3]
          go_enter Tryd.func12, Tryd.ntmps12
          go_wp2
          go_ret3
          rw [HV.out]
          exact ⟨rfl, (Below.refl _ _).alloc (Nat.le_refl _) _⟩
        · have HV : Hid (ofB F T true false n = (F, n - 1, true)) := by show _ = _; unfold ofB; rw [if_neg q1, if_pos rfl, if_neg (by simp), if_neg h3]
          go_enter Tryd.func12, Tryd.ntmps12
          go_wp2
          go_ret3
          rw [HV.out]
          exact ⟨rfl, (Below.refl _ _).alloc (Nat.le_refl _) _⟩
      · by_cases h3 : T < 0
        · have HV : Hid (ofB F T true true n = (0, 0, false)) := by show _ = _; unfold ofB; rw [if_pos (by simp; omega)]
          go_enter Tryd.func12, Tryd.ntmps12
          go_wp2
          go_ret3
          rw [HV.out]
          exact ⟨rfl, (Below.refl _ _).alloc (Nat.le_refl _) _⟩
        · have q1 : ¬ (n < 1 ∨ (true = false ∧ true = false) ∨ (true = true ∧ F < 0) ∨ (true = true ∧ T < 0)) := by simp; omega
          by_cases h4 : T ≤ n - 1
          · have hmin : min T (n - 1) = T := by omega
            by_cases h5 : T < F
            · have HV : Hid (ofB F T true true n = (0, 0, false)) := by show _ = _; unfold ofB; rw [if_neg q1, if_pos rfl, if_pos ⟨rfl, h4⟩, if_pos h5]
              go_enter Tryd.func12, Tryd.ntmps12
              go_wp2
              go_ret3
              rw [HV.out]
              exact ⟨rfl, (Below.refl _ _).alloc (Nat.le_refl _) _⟩
            · have HV : Hid (ofB F T true true n = (F, T, true)) := by show _ = _; unfold ofB; rw [if_neg q1, if_pos rfl, if_pos ⟨rfl, h4⟩, if_neg h5]
              go_enter Tryd.func12, Tryd.ntmps12
              go_wp2
              go_ret3
              rw [HV.out]
              exact ⟨rfl, (Below.refl _ _).alloc (Nat.le_refl _) _⟩
          · have hmin : min T (n - 1) = n - 1 := by omega
            by_cases h5 : n - 1 < F
            · have HV : Hid (ofB F T true true n = (0, 0, false)) := by show _ = _; unfold ofB; rw [if_neg q1, if_pos rfl, if_neg (by omega), if_pos h5]
              go_enter Tryd.func12, Tryd.ntmps12
              go_wp2
              go_ret3
              rw [HV.out]
              exact ⟨rfl, (Below.refl _ _).alloc (Nat.le_refl _) _⟩
            · have HV : Hid (ofB F T true true n = (F, n - 1, true)) := by show _ = _; unfold ofB; rw [if_neg q1, if_pos rfl, if_neg (by omega), if_neg h5]
              go_enter Tryd.func12, Tryd.ntmps12
              go_wp2
              go_ret3
              rw [HV.out]
              exact ⟨rfl, (Below.refl _ _).alloc (Nat.le_refl _) _⟩
def at_ (F T : Int) (hf ht : Bool) (k n : Int) : Bool :=
  !((hf && decide (F < 0)) || (ht && decide (T < 0)) || decide (k < 0) || decide (n ≤ k)) && (if hf = true then decide (F ≤ k) && (!ht || decide (k ≤ T)) else ht && decide (n - k ≤ T))
set_option maxRecDepth 100000 in
set_option maxHeartbeats 4000000 in
theorem ref_of (F T : Int) (hf ht : Bool) (k n : Int) (w : World) (hk : 0 ≤ k) (hkn : k < n) (hn : n ≤ 9223372036854775807) :
    Calls Tryd.prog 13 #[.agg #[.int .i64 F, .int .i64 T, .bool hf, .bool ht], .int .i64 k, .int .i64 n] w fun e w' => e = .returned (.bool (at_ F T hf ht k n)) ∧ Below w.heap.size w w' := by
  have q0 : decide (k < 0) = false := by simp; omega
  have q1 : decide (n ≤ k) = false := by simp; omega
  have HV : ∀ hf ht, Hid (at_ F T hf ht k n = (!((hf && decide (F < 0)) || (ht && decide (T < 0))) && (if hf = true then decide (F ≤ k) && (!ht || decide (k ≤ T)) else ht && decide (n - k ≤ T)))) := fun hf ht => by
    show _ = _
    unfold at_
    rw [q0, q1, Bool.or_false, Bool.or_false]
  cases hf <;> cases ht
  all_goals
    by_cases h2 : F < 0
    all_goals by_cases h3 : T < 0
    all_goals
      go_enter Tryd.func13, Tryd.ntmps13
      go_wp2
      all_goals
        go_ret
        rw [(HV _ _).out]
        exact ⟨ret_bool (by simp [*] <;> omega), (Below.refl _ _).alloc (Nat.le_refl _) _⟩
end Go.Proofs.YtiencfgmdikepaaDoor.SpnB
