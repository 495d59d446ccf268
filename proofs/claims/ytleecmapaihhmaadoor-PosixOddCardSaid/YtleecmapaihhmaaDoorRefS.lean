/- The document's own starts of layer 1: could a character's bytes begin with these, and are they one's, whole? -/
import Derived.Test.YtleecmapaihhmaaDoorUtfP
import Derived.Test.YtleecmapaihhmaaDoorMA
set_option linter.unusedSimpArgs false
set_option linter.unusedVariables false
namespace Go.Proofs.YtleecmapaihhmaaDoor.RefS
open Go.RowKit Go.Proofs.YtleecmapaihhmaaDoor.Base Go.Proofs.YtleecmapaihhmaaDoor.Base2 Go.Proofs.YtleecmapaihhmaaDoor.UtfR

def okT (t : List UInt8) : Prop := ∀ c ∈ t, 128 ≤ (c.toNat : Int) ∧ (c.toNat : Int) ≤ 191
instance (t : List UInt8) : Decidable (okT t) := by unfold okT; exact inferInstance
def bad2 (x y : Int) : Prop := x = 224 ∧ y < 160 ∨ x = 237 ∧ 159 < y ∨ x = 240 ∧ y < 144 ∨ x = 244 ∧ 143 < y
instance (x y : Int) : Decidable (bad2 x y) := by unfold bad2; exact inferInstance
def bad (x : Int) : List UInt8 → Prop
  | [] => False
  | y :: _ => bad2 x y.toNat
instance (x : Int) (t : List UInt8) : Decidable (bad x t) := by cases t <;> unfold bad <;> exact inferInstance
def st : List UInt8 → Bool × Bool
  | [] => (false, false)
  | x :: t => if size x.toNat < (t.length : Int) + 1 ∨ ¬ okT t ∨ bad x.toNat t then (false, false) else (true, decide ((t.length : Int) + 1 = size x.toNat))
def OkTo (L : List UInt8) (k : Nat) : Prop := ∀ j (h : j < L.length), 1 ≤ j → j < k → 128 ≤ (L[j].toNat : Int) ∧ (L[j].toNat : Int) ≤ 191
theorem okTo_all (x : UInt8) (t : List UInt8) (h : OkTo (x :: t) (t.length + 1)) : okT t := by
  intro c hc
  obtain ⟨i, hi, rfl⟩ := List.mem_iff_getElem.1 hc
  have := h (i + 1) (by simp; omega) (by omega) (by omega)
  simpa using this
theorem okTo_not (x : UInt8) (t : List UInt8) (k : Nat) (hk : k < t.length + 1) (h1 : 1 ≤ k) (hb : ((x :: t)[k].toNat : Int) < 128 ∨ 191 < ((x :: t)[k].toNat : Int)) : ¬ okT t := by
  intro h
  obtain ⟨i, rfl⟩ : ∃ i, k = i + 1 := ⟨k - 1, by omega⟩
  have := h t[i] (List.getElem_mem _)
  simp at hb
  omega
theorem not3 {a b c : Prop} (h1 : ¬ a) (h2 : b) (h3 : ¬ c) : ¬ (a ∨ ¬ b ∨ c) := by
  rintro (h | h | h)
  · exact h1 h
  · exact h h2
  · exact h3 h
theorem st_no (x : UInt8) (t : List UInt8) (h : size x.toNat < (t.length : Int) + 1 ∨ ¬ okT t ∨ bad x.toNat t) : st (x :: t) = (false, false) := by rw [st, if_pos h]
theorem st_yes (x : UInt8) (t : List UInt8) (h : ¬ (size x.toNat < (t.length : Int) + 1 ∨ ¬ okT t ∨ bad x.toNat t)) : st (x :: t) = (true, decide ((t.length : Int) + 1 = size x.toNat)) := by rw [st, if_neg h]

set_option maxHeartbeats 4000000 in
set_option maxRecDepth 100000 in
theorem starts_1 (b off cap : Nat) (x : UInt8) (t : List UInt8) (n : Nat) (w : World) (hn : t.length + 1 = n) (hm : n ≤ 16) (hz : size x.toNat = 1)
    (hL : ∀ j (h : j < (x :: t).length), w.cell? ⟨b, off + j, none⟩ = some (.int .u8 ((x :: t)[j].toNat : Int)))
    (k1 : (x.toNat : Int) < 128)
    (R : Bool × Bool) (hR : R = st (x :: t)) :
    Calls Tryd.prog 45 #[.slice (some ⟨b, off, none⟩) n cap] w fun e w' => e = .returned (.tuple #[.bool R.1, .bool R.2]) ∧ w = w' := by
  have hc0 : w.cell? ⟨b, off, none⟩ = some (.int .u8 (x.toNat : Int)) := by
    have := hL 0 (by simp)
    rw [Nat.add_zero] at this
    exact this
  have HL := hid hL
  have HN := hid hn
  have HZ := hid hz
  have HR := hid hR
  have hp : (0 : Int) < (n : Int) := by omega
  clear hL hn hz hR
  by_cases hmany : (1 : Int) < (n : Int)
  · have HE : Hid (R = (false, false)) := by
      have e := HR.out
      rw [st_no x t (.inl (by rw [HZ.out]; have := HN.out; omega))] at e
      exact e
    go_enter Tryd.func45, Tryd.ntmps45
    go_wp2
    go_ret2
    rw [HE.out]
    exact ⟨rfl, rfl⟩
  · go_enter Tryd.func45, Tryd.ntmps45
    go_wp2
    go_loop [5] (fun vk => ∃ k : Nat, 1 ≤ k ∧ k ≤ n ∧ vk = .int .i64 k ∧ Hid (OkTo (x :: t) k)) (fun vk => n - (intOf vk).toNat)
    case atStart => exact ⟨1, by omega, by omega, rfl, fun j _ h1 h2 => absurd h2 (by omega)⟩
    case round =>
      obtain ⟨k, hk1, hk2, rfl, HO⟩ := hrel
      by_cases hlt : k < n
      · have hlx : k < (x :: t).length := by have := HN.out; simp; omega
        obtain ⟨c, hc⟩ : ∃ c, c = (x :: t)[k] := ⟨_, rfl⟩
        have hcell : w.cell? ⟨b, off + k, none⟩ = some (.int .u8 (c.toNat : Int)) := by rw [hc]; exact HL.out k hlx
        have HC := hid hc
        clear hc
        by_cases hb : (c.toNat : Int) < 128 ∨ 191 < (c.toNat : Int)
        · have HE : Hid (R = (false, false)) := by
            have e := HR.out
            rw [st_no x t (.inr (.inl (okTo_not x t k (by have := HN.out; omega) hk1 (by rw [← HC.out]; exact hb))))] at e
            exact e
          rcases hb with hb | hb
          · go_wp2
            go_ret2
            rw [HE.out]
            exact ⟨rfl, rfl⟩
          · have hb' : ¬ (c.toNat : Int) < 128 := by omega
            go_wp2
            go_ret2
            rw [HE.out]
            exact ⟨rfl, rfl⟩
        · have hb1 : ¬ (c.toNat : Int) < 128 := by omega
          have hb2 : ¬ 191 < (c.toNat : Int) := by omega
          have HO2 : Hid (OkTo (x :: t) (k + 1)) := fun j hj h1 h2 => by
            by_cases e : j = k
            · subst e
              rw [← HC.out]
              omega
            · exact HO.out j hj h1 (by omega)
          clear hb HO
          go_wp2
          go_round
          case rel => exact ⟨k + 1, by omega, by omega, by go_num, HO2⟩
          case measure => simp [intOf]; omega
      · skip
        obtain rfl : k = n := by omega
        have HA : Hid (okT t) := okTo_all x t (by have e := HN.out; rw [e]; exact HO.out)
        clear HO hlt
        cases t with
        | nil =>
          have hn1 := HN.out
          simp at hn1
          have HE : Hid (R = (true, decide ((k : Int) = 1))) := by
            have e := HR.out
            rw [st_yes x [] (not3 (by rw [HZ.out]; simp) HA.out (fun h => h)), HZ.out] at e
            rw [e, ← hn1]
            exact rfl
          have hn2 : ¬ (1 : Int) < (k : Int) := by omega
          clear hn1
          go_wp2
          go_ret2
          rw [HE.out]
          exact ⟨ret2 rfl (bool_eq (by rw [Bool.eq_iff_iff]; simp)), rfl⟩
        | cons y t' =>
          have hc1 : w.cell? ⟨b, off + 1, none⟩ = some (.int .u8 (y.toNat : Int)) := HL.out 1 (by simp)
          have hn1 := HN.out
          simp only [List.length_cons] at hn1
          have hn2 : (1 : Int) < (k : Int) := by omega
          have hy0 : 0 ≤ (y.toNat : Int) ∧ (y.toNat : Int) < 256 := by have := y.toNat_lt; omega
          have HK : Hid ((((y :: t').length : Nat) : Int) + 1 = k) := by show _ = _; simp only [List.length_cons]; omega
          clear hn1
          by_cases hbd : bad2 x.toNat y.toNat
          · have HE : Hid (R = (false, false)) := by
              have e := HR.out
              rw [st_no x (y :: t') (.inr (.inr hbd))] at e
              exact e
            unfold bad2 at hbd
            exact absurd hbd (by omega)
          · have HE : Hid (R = (true, decide ((k : Int) = 1))) := by
              have e := HR.out
              rw [st_yes x (y :: t') (not3 (by rw [HZ.out]; have := HK.out; omega) HA.out hbd), HZ.out, HK.out] at e
              exact e
            unfold bad2 at hbd
            clear hbd
            go_wp2
            all_goals
              go_ret2
              rw [HE.out]
              exact ⟨ret2 rfl (bool_eq (by rw [Bool.eq_iff_iff]; simp)), rfl⟩

set_option maxHeartbeats 4000000 in
set_option maxRecDepth 100000 in
theorem starts_2 (b off cap : Nat) (x : UInt8) (t : List UInt8) (n : Nat) (w : World) (hn : t.length + 1 = n) (hm : n ≤ 16) (hz : size x.toNat = 2)
    (hL : ∀ j (h : j < (x :: t).length), w.cell? ⟨b, off + j, none⟩ = some (.int .u8 ((x :: t)[j].toNat : Int)))
    (k1 : 194 ≤ (x.toNat : Int)) (k2 : (x.toNat : Int) ≤ 223)
    (R : Bool × Bool) (hR : R = st (x :: t)) :
    Calls Tryd.prog 45 #[.slice (some ⟨b, off, none⟩) n cap] w fun e w' => e = .returned (.tuple #[.bool R.1, .bool R.2]) ∧ w = w' := by
  have hc0 : w.cell? ⟨b, off, none⟩ = some (.int .u8 (x.toNat : Int)) := by
    have := hL 0 (by simp)
    rw [Nat.add_zero] at this
    exact this
  have HL := hid hL
  have HN := hid hn
  have HZ := hid hz
  have HR := hid hR
  have hp : (0 : Int) < (n : Int) := by omega
  clear hL hn hz hR
  by_cases hmany : (2 : Int) < (n : Int)
  · have HE : Hid (R = (false, false)) := by
      have e := HR.out
      rw [st_no x t (.inl (by rw [HZ.out]; have := HN.out; omega))] at e
      exact e
    go_enter Tryd.func45, Tryd.ntmps45
    go_wp2
    go_ret2
    rw [HE.out]
    exact ⟨rfl, rfl⟩
  · go_enter Tryd.func45, Tryd.ntmps45
    go_wp2
    go_loop [5] (fun vk => ∃ k : Nat, 1 ≤ k ∧ k ≤ n ∧ vk = .int .i64 k ∧ Hid (OkTo (x :: t) k)) (fun vk => n - (intOf vk).toNat)
    case atStart => exact ⟨1, by omega, by omega, rfl, fun j _ h1 h2 => absurd h2 (by omega)⟩
    case round =>
      obtain ⟨k, hk1, hk2, rfl, HO⟩ := hrel
      by_cases hlt : k < n
      · have hlx : k < (x :: t).length := by have := HN.out; simp; omega
        obtain ⟨c, hc⟩ : ∃ c, c = (x :: t)[k] := ⟨_, rfl⟩
        have hcell : w.cell? ⟨b, off + k, none⟩ = some (.int .u8 (c.toNat : Int)) := by rw [hc]; exact HL.out k hlx
        have HC := hid hc
        clear hc
        by_cases hb : (c.toNat : Int) < 128 ∨ 191 < (c.toNat : Int)
        · have HE : Hid (R = (false, false)) := by
            have e := HR.out
            rw [st_no x t (.inr (.inl (okTo_not x t k (by have := HN.out; omega) hk1 (by rw [← HC.out]; exact hb))))] at e
            exact e
          rcases hb with hb | hb
          · go_wp2
            go_ret2
            rw [HE.out]
            exact ⟨rfl, rfl⟩
          · have hb' : ¬ (c.toNat : Int) < 128 := by omega
            go_wp2
            go_ret2
            rw [HE.out]
            exact ⟨rfl, rfl⟩
        · have hb1 : ¬ (c.toNat : Int) < 128 := by omega
          have hb2 : ¬ 191 < (c.toNat : Int) := by omega
          have HO2 : Hid (OkTo (x :: t) (k + 1)) := fun j hj h1 h2 => by
            by_cases e : j = k
            · subst e
              rw [← HC.out]
              omega
            · exact HO.out j hj h1 (by omega)
          clear hb HO
          go_wp2
          go_round
          case rel => exact ⟨k + 1, by omega, by omega, by go_num, HO2⟩
          case measure => simp [intOf]; omega
      · skip
        obtain rfl : k = n := by omega
        have HA : Hid (okT t) := okTo_all x t (by have e := HN.out; rw [e]; exact HO.out)
        clear HO hlt
        cases t with
        | nil =>
          have hn1 := HN.out
          simp at hn1
          have HE : Hid (R = (true, decide ((k : Int) = 2))) := by
            have e := HR.out
            rw [st_yes x [] (not3 (by rw [HZ.out]; simp) HA.out (fun h => h)), HZ.out] at e
            rw [e, ← hn1]
            exact rfl
          have hn2 : ¬ (1 : Int) < (k : Int) := by omega
          clear hn1
          go_wp2
          go_ret2
          rw [HE.out]
          exact ⟨ret2 rfl (bool_eq (by rw [Bool.eq_iff_iff]; simp)), rfl⟩
        | cons y t' =>
          have hc1 : w.cell? ⟨b, off + 1, none⟩ = some (.int .u8 (y.toNat : Int)) := HL.out 1 (by simp)
          have hn1 := HN.out
          simp only [List.length_cons] at hn1
          have hn2 : (1 : Int) < (k : Int) := by omega
          have hy0 : 0 ≤ (y.toNat : Int) ∧ (y.toNat : Int) < 256 := by have := y.toNat_lt; omega
          have HK : Hid ((((y :: t').length : Nat) : Int) + 1 = k) := by show _ = _; simp only [List.length_cons]; omega
          clear hn1
          by_cases hbd : bad2 x.toNat y.toNat
          · have HE : Hid (R = (false, false)) := by
              have e := HR.out
              rw [st_no x (y :: t') (.inr (.inr hbd))] at e
              exact e
            unfold bad2 at hbd
            exact absurd hbd (by omega)
          · have HE : Hid (R = (true, decide ((k : Int) = 2))) := by
              have e := HR.out
              rw [st_yes x (y :: t') (not3 (by rw [HZ.out]; have := HK.out; omega) HA.out hbd), HZ.out, HK.out] at e
              exact e
            unfold bad2 at hbd
            clear hbd
            go_wp2
            all_goals
              go_ret2
              rw [HE.out]
              exact ⟨ret2 rfl (bool_eq (by rw [Bool.eq_iff_iff]; simp)), rfl⟩

set_option maxHeartbeats 4000000 in
set_option maxRecDepth 100000 in
theorem starts_3 (b off cap : Nat) (x : UInt8) (t : List UInt8) (n : Nat) (w : World) (hn : t.length + 1 = n) (hm : n ≤ 16) (hz : size x.toNat = 3)
    (hL : ∀ j (h : j < (x :: t).length), w.cell? ⟨b, off + j, none⟩ = some (.int .u8 ((x :: t)[j].toNat : Int)))
    (k1 : 224 ≤ (x.toNat : Int)) (k2 : (x.toNat : Int) ≤ 239)
    (R : Bool × Bool) (hR : R = st (x :: t)) :
    Calls Tryd.prog 45 #[.slice (some ⟨b, off, none⟩) n cap] w fun e w' => e = .returned (.tuple #[.bool R.1, .bool R.2]) ∧ w = w' := by
  have hc0 : w.cell? ⟨b, off, none⟩ = some (.int .u8 (x.toNat : Int)) := by
    have := hL 0 (by simp)
    rw [Nat.add_zero] at this
    exact this
  have HL := hid hL
  have HN := hid hn
  have HZ := hid hz
  have HR := hid hR
  have hp : (0 : Int) < (n : Int) := by omega
  clear hL hn hz hR
  by_cases hmany : (3 : Int) < (n : Int)
  · have HE : Hid (R = (false, false)) := by
      have e := HR.out
      rw [st_no x t (.inl (by rw [HZ.out]; have := HN.out; omega))] at e
      exact e
    go_enter Tryd.func45, Tryd.ntmps45
    go_wp2
    go_ret2
    rw [HE.out]
    exact ⟨rfl, rfl⟩
  · go_enter Tryd.func45, Tryd.ntmps45
    go_wp2
    go_loop [5] (fun vk => ∃ k : Nat, 1 ≤ k ∧ k ≤ n ∧ vk = .int .i64 k ∧ Hid (OkTo (x :: t) k)) (fun vk => n - (intOf vk).toNat)
    case atStart => exact ⟨1, by omega, by omega, rfl, fun j _ h1 h2 => absurd h2 (by omega)⟩
    case round =>
      obtain ⟨k, hk1, hk2, rfl, HO⟩ := hrel
      by_cases hlt : k < n
      · have hlx : k < (x :: t).length := by have := HN.out; simp; omega
        obtain ⟨c, hc⟩ : ∃ c, c = (x :: t)[k] := ⟨_, rfl⟩
        have hcell : w.cell? ⟨b, off + k, none⟩ = some (.int .u8 (c.toNat : Int)) := by rw [hc]; exact HL.out k hlx
        have HC := hid hc
        clear hc
        by_cases hb : (c.toNat : Int) < 128 ∨ 191 < (c.toNat : Int)
        · have HE : Hid (R = (false, false)) := by
            have e := HR.out
            rw [st_no x t (.inr (.inl (okTo_not x t k (by have := HN.out; omega) hk1 (by rw [← HC.out]; exact hb))))] at e
            exact e
          rcases hb with hb | hb
          · go_wp2
            go_ret2
            rw [HE.out]
            exact ⟨rfl, rfl⟩
          · have hb' : ¬ (c.toNat : Int) < 128 := by omega
            go_wp2
            go_ret2
            rw [HE.out]
            exact ⟨rfl, rfl⟩
        · have hb1 : ¬ (c.toNat : Int) < 128 := by omega
          have hb2 : ¬ 191 < (c.toNat : Int) := by omega
          have HO2 : Hid (OkTo (x :: t) (k + 1)) := fun j hj h1 h2 => by
            by_cases e : j = k
            · subst e
              rw [← HC.out]
              omega
            · exact HO.out j hj h1 (by omega)
          clear hb HO
          go_wp2
          go_round
          case rel => exact ⟨k + 1, by omega, by omega, by go_num, HO2⟩
          case measure => simp [intOf]; omega
      · skip
        obtain rfl : k = n := by omega
        have HA : Hid (okT t) := okTo_all x t (by have e := HN.out; rw [e]; exact HO.out)
        clear HO hlt
        cases t with
        | nil =>
          have hn1 := HN.out
          simp at hn1
          have HE : Hid (R = (true, decide ((k : Int) = 3))) := by
            have e := HR.out
            rw [st_yes x [] (not3 (by rw [HZ.out]; simp) HA.out (fun h => h)), HZ.out] at e
            rw [e, ← hn1]
            exact rfl
          have hn2 : ¬ (1 : Int) < (k : Int) := by omega
          clear hn1
          go_wp2
          go_ret2
          rw [HE.out]
          exact ⟨ret2 rfl (bool_eq (by rw [Bool.eq_iff_iff]; simp)), rfl⟩
        | cons y t' =>
          have hc1 : w.cell? ⟨b, off + 1, none⟩ = some (.int .u8 (y.toNat : Int)) := HL.out 1 (by simp)
          have hn1 := HN.out
          simp only [List.length_cons] at hn1
          have hn2 : (1 : Int) < (k : Int) := by omega
          have hy0 : 0 ≤ (y.toNat : Int) ∧ (y.toNat : Int) < 256 := by have := y.toNat_lt; omega
          have HK : Hid ((((y :: t').length : Nat) : Int) + 1 = k) := by show _ = _; simp only [List.length_cons]; omega
          clear hn1
          by_cases hbd : bad2 x.toNat y.toNat
          · have HE : Hid (R = (false, false)) := by
              have e := HR.out
              rw [st_no x (y :: t') (.inr (.inr hbd))] at e
              exact e
            unfold bad2 at hbd
            rcases hbd with hbd | hbd | hbd | hbd
            · obtain ⟨q1, q2⟩ := hbd
              have q3 : ((x.toNat : Int) == 224) = true := by rw [beq_iff_eq]; exact q1
              have q237 : ((x.toNat : Int) == 237) = false := by rw [beq_eq_false_iff_ne]; omega
              have q240 : ((x.toNat : Int) == 240) = false := by rw [beq_eq_false_iff_ne]; omega
              have q244 : ((x.toNat : Int) == 244) = false := by rw [beq_eq_false_iff_ne]; omega
              clear q1
              go_wp2
              go_ret2
              rw [HE.out]
              exact ⟨rfl, rfl⟩
            · obtain ⟨q1, q2⟩ := hbd
              have q3 : ((x.toNat : Int) == 237) = true := by rw [beq_iff_eq]; exact q1
              have q224 : ((x.toNat : Int) == 224) = false := by rw [beq_eq_false_iff_ne]; omega
              have q240 : ((x.toNat : Int) == 240) = false := by rw [beq_eq_false_iff_ne]; omega
              have q244 : ((x.toNat : Int) == 244) = false := by rw [beq_eq_false_iff_ne]; omega
              clear q1
              go_wp2
              go_ret2
              rw [HE.out]
              exact ⟨rfl, rfl⟩
            · exact absurd hbd.1 (by omega)
            · exact absurd hbd.1 (by omega)
          · have HE : Hid (R = (true, decide ((k : Int) = 3))) := by
              have e := HR.out
              rw [st_yes x (y :: t') (not3 (by rw [HZ.out]; have := HK.out; omega) HA.out hbd), HZ.out, HK.out] at e
              exact e
            unfold bad2 at hbd
            by_cases e1 : (x.toNat : Int) = 224
            · have q1 : ((x.toNat : Int) == 224) = true := by rw [beq_iff_eq]; exact e1
              have q2 : ¬ (y.toNat : Int) < 160 := by omega
              have q237 : ((x.toNat : Int) == 237) = false := by rw [beq_eq_false_iff_ne]; omega
              have q240 : ((x.toNat : Int) == 240) = false := by rw [beq_eq_false_iff_ne]; omega
              have q244 : ((x.toNat : Int) == 244) = false := by rw [beq_eq_false_iff_ne]; omega
              clear e1 hbd
              go_wp2
              all_goals
                go_ret2
                rw [HE.out]
                exact ⟨ret2 rfl (bool_eq (by rw [Bool.eq_iff_iff]; simp)), rfl⟩
            · by_cases e2 : (x.toNat : Int) = 237
              · have q1 : ((x.toNat : Int) == 237) = true := by rw [beq_iff_eq]; exact e2
                have q2 : ¬ 159 < (y.toNat : Int) := by omega
                have q224 : ((x.toNat : Int) == 224) = false := by rw [beq_eq_false_iff_ne]; omega
                have q240 : ((x.toNat : Int) == 240) = false := by rw [beq_eq_false_iff_ne]; omega
                have q244 : ((x.toNat : Int) == 244) = false := by rw [beq_eq_false_iff_ne]; omega
                clear e1 e2 hbd
                go_wp2
                all_goals
                  go_ret2
                  rw [HE.out]
                  exact ⟨ret2 rfl (bool_eq (by rw [Bool.eq_iff_iff]; simp)), rfl⟩
              · skip
                have q224 : ((x.toNat : Int) == 224) = false := by rw [beq_eq_false_iff_ne]; omega
                have q237 : ((x.toNat : Int) == 237) = false := by rw [beq_eq_false_iff_ne]; omega
                have q240 : ((x.toNat : Int) == 240) = false := by rw [beq_eq_false_iff_ne]; omega
                have q244 : ((x.toNat : Int) == 244) = false := by rw [beq_eq_false_iff_ne]; omega
                clear e1 e2 hbd
                go_wp2
                all_goals
                  go_ret2
                  rw [HE.out]
                  exact ⟨ret2 rfl (bool_eq (by rw [Bool.eq_iff_iff]; simp)), rfl⟩

set_option maxHeartbeats 4000000 in
set_option maxRecDepth 100000 in
theorem starts_4 (b off cap : Nat) (x : UInt8) (t : List UInt8) (n : Nat) (w : World) (hn : t.length + 1 = n) (hm : n ≤ 16) (hz : size x.toNat = 4)
    (hL : ∀ j (h : j < (x :: t).length), w.cell? ⟨b, off + j, none⟩ = some (.int .u8 ((x :: t)[j].toNat : Int)))
    (k1 : 240 ≤ (x.toNat : Int)) (k2 : (x.toNat : Int) ≤ 244)
    (R : Bool × Bool) (hR : R = st (x :: t)) :
    Calls Tryd.prog 45 #[.slice (some ⟨b, off, none⟩) n cap] w fun e w' => e = .returned (.tuple #[.bool R.1, .bool R.2]) ∧ w = w' := by
  have hc0 : w.cell? ⟨b, off, none⟩ = some (.int .u8 (x.toNat : Int)) := by
    have := hL 0 (by simp)
    rw [Nat.add_zero] at this
    exact this
  have HL := hid hL
  have HN := hid hn
  have HZ := hid hz
  have HR := hid hR
  have hp : (0 : Int) < (n : Int) := by omega
  clear hL hn hz hR
  by_cases hmany : (4 : Int) < (n : Int)
  · have HE : Hid (R = (false, false)) := by
      have e := HR.out
      rw [st_no x t (.inl (by rw [HZ.out]; have := HN.out; omega))] at e
      exact e
    go_enter Tryd.func45, Tryd.ntmps45
    go_wp2
    go_ret2
    rw [HE.out]
    exact ⟨rfl, rfl⟩
  · go_enter Tryd.func45, Tryd.ntmps45
    go_wp2
    go_loop [5] (fun vk => ∃ k : Nat, 1 ≤ k ∧ k ≤ n ∧ vk = .int .i64 k ∧ Hid (OkTo (x :: t) k)) (fun vk => n - (intOf vk).toNat)
    case atStart => exact ⟨1, by omega, by omega, rfl, fun j _ h1 h2 => absurd h2 (by omega)⟩
    case round =>
      obtain ⟨k, hk1, hk2, rfl, HO⟩ := hrel
      by_cases hlt : k < n
      · have hlx : k < (x :: t).length := by have := HN.out; simp; omega
        obtain ⟨c, hc⟩ : ∃ c, c = (x :: t)[k] := ⟨_, rfl⟩
        have hcell : w.cell? ⟨b, off + k, none⟩ = some (.int .u8 (c.toNat : Int)) := by rw [hc]; exact HL.out k hlx
        have HC := hid hc
        clear hc
        by_cases hb : (c.toNat : Int) < 128 ∨ 191 < (c.toNat : Int)
        · have HE : Hid (R = (false, false)) := by
            have e := HR.out
            rw [st_no x t (.inr (.inl (okTo_not x t k (by have := HN.out; omega) hk1 (by rw [← HC.out]; exact hb))))] at e
            exact e
          rcases hb with hb | hb
          · go_wp2
            go_ret2
            rw [HE.out]
            exact ⟨rfl, rfl⟩
          · have hb' : ¬ (c.toNat : Int) < 128 := by omega
            go_wp2
            go_ret2
            rw [HE.out]
            exact ⟨rfl, rfl⟩
        · have hb1 : ¬ (c.toNat : Int) < 128 := by omega
          have hb2 : ¬ 191 < (c.toNat : Int) := by omega
          have HO2 : Hid (OkTo (x :: t) (k + 1)) := fun j hj h1 h2 => by
            by_cases e : j = k
            · subst e
              rw [← HC.out]
              omega
            · exact HO.out j hj h1 (by omega)
          clear hb HO
          go_wp2
          go_round
          case rel => exact ⟨k + 1, by omega, by omega, by go_num, HO2⟩
          case measure => simp [intOf]; omega
      · skip
        obtain rfl : k = n := by omega
        have HA : Hid (okT t) := okTo_all x t (by have e := HN.out; rw [e]; exact HO.out)
        clear HO hlt
        cases t with
        | nil =>
          have hn1 := HN.out
          simp at hn1
          have HE : Hid (R = (true, decide ((k : Int) = 4))) := by
            have e := HR.out
            rw [st_yes x [] (not3 (by rw [HZ.out]; simp) HA.out (fun h => h)), HZ.out] at e
            rw [e, ← hn1]
            exact rfl
          have hn2 : ¬ (1 : Int) < (k : Int) := by omega
          clear hn1
          go_wp2
          go_ret2
          rw [HE.out]
          exact ⟨ret2 rfl (bool_eq (by rw [Bool.eq_iff_iff]; simp)), rfl⟩
        | cons y t' =>
          have hc1 : w.cell? ⟨b, off + 1, none⟩ = some (.int .u8 (y.toNat : Int)) := HL.out 1 (by simp)
          have hn1 := HN.out
          simp only [List.length_cons] at hn1
          have hn2 : (1 : Int) < (k : Int) := by omega
          have hy0 : 0 ≤ (y.toNat : Int) ∧ (y.toNat : Int) < 256 := by have := y.toNat_lt; omega
          have HK : Hid ((((y :: t').length : Nat) : Int) + 1 = k) := by show _ = _; simp only [List.length_cons]; omega
          clear hn1
          by_cases hbd : bad2 x.toNat y.toNat
          · have HE : Hid (R = (false, false)) := by
              have e := HR.out
              rw [st_no x (y :: t') (.inr (.inr hbd))] at e
              exact e
            unfold bad2 at hbd
            rcases hbd with hbd | hbd | hbd | hbd
            · exact absurd hbd.1 (by omega)
            · exact absurd hbd.1 (by omega)
            · obtain ⟨q1, q2⟩ := hbd
              have q3 : ((x.toNat : Int) == 240) = true := by rw [beq_iff_eq]; exact q1
              have q224 : ((x.toNat : Int) == 224) = false := by rw [beq_eq_false_iff_ne]; omega
              have q237 : ((x.toNat : Int) == 237) = false := by rw [beq_eq_false_iff_ne]; omega
              have q244 : ((x.toNat : Int) == 244) = false := by rw [beq_eq_false_iff_ne]; omega
              clear q1
              go_wp2
              go_ret2
              rw [HE.out]
              exact ⟨rfl, rfl⟩
            · obtain ⟨q1, q2⟩ := hbd
              have q3 : ((x.toNat : Int) == 244) = true := by rw [beq_iff_eq]; exact q1
              have q224 : ((x.toNat : Int) == 224) = false := by rw [beq_eq_false_iff_ne]; omega
              have q237 : ((x.toNat : Int) == 237) = false := by rw [beq_eq_false_iff_ne]; omega
              have q240 : ((x.toNat : Int) == 240) = false := by rw [beq_eq_false_iff_ne]; omega
              clear q1
              go_wp2
              go_ret2
              rw [HE.out]
              exact ⟨rfl, rfl⟩
          · have HE : Hid (R = (true, decide ((k : Int) = 4))) := by
              have e := HR.out
              rw [st_yes x (y :: t') (not3 (by rw [HZ.out]; have := HK.out; omega) HA.out hbd), HZ.out, HK.out] at e
              exact e
            unfold bad2 at hbd
            by_cases e1 : (x.toNat : Int) = 240
            · have q1 : ((x.toNat : Int) == 240) = true := by rw [beq_iff_eq]; exact e1
              have q2 : ¬ (y.toNat : Int) < 144 := by omega
              have q224 : ((x.toNat : Int) == 224) = false := by rw [beq_eq_false_iff_ne]; omega
              have q237 : ((x.toNat : Int) == 237) = false := by rw [beq_eq_false_iff_ne]; omega
              have q244 : ((x.toNat : Int) == 244) = false := by rw [beq_eq_false_iff_ne]; omega
              clear e1 hbd
              go_wp2
              all_goals
                go_ret2
                rw [HE.out]
                exact ⟨ret2 rfl (bool_eq (by rw [Bool.eq_iff_iff]; simp)), rfl⟩
            · by_cases e2 : (x.toNat : Int) = 244
              · have q1 : ((x.toNat : Int) == 244) = true := by rw [beq_iff_eq]; exact e2
                have q2 : ¬ 143 < (y.toNat : Int) := by omega
                have q224 : ((x.toNat : Int) == 224) = false := by rw [beq_eq_false_iff_ne]; omega
                have q237 : ((x.toNat : Int) == 237) = false := by rw [beq_eq_false_iff_ne]; omega
                have q240 : ((x.toNat : Int) == 240) = false := by rw [beq_eq_false_iff_ne]; omega
                clear e1 e2 hbd
                go_wp2
                all_goals
                  go_ret2
                  rw [HE.out]
                  exact ⟨ret2 rfl (bool_eq (by rw [Bool.eq_iff_iff]; simp)), rfl⟩
              · skip
                have q224 : ((x.toNat : Int) == 224) = false := by rw [beq_eq_false_iff_ne]; omega
                have q237 : ((x.toNat : Int) == 237) = false := by rw [beq_eq_false_iff_ne]; omega
                have q240 : ((x.toNat : Int) == 240) = false := by rw [beq_eq_false_iff_ne]; omega
                have q244 : ((x.toNat : Int) == 244) = false := by rw [beq_eq_false_iff_ne]; omega
                clear e1 e2 hbd
                go_wp2
                all_goals
                  go_ret2
                  rw [HE.out]
                  exact ⟨ret2 rfl (bool_eq (by rw [Bool.eq_iff_iff]; simp)), rfl⟩

set_option maxHeartbeats 4000000 in
set_option maxRecDepth 100000 in
theorem starts_0a (b off cap : Nat) (x : UInt8) (t : List UInt8) (n : Nat) (w : World) (hn : t.length + 1 = n) (hm : n ≤ 16) (hz : size x.toNat = 0)
    (hL : ∀ j (h : j < (x :: t).length), w.cell? ⟨b, off + j, none⟩ = some (.int .u8 ((x :: t)[j].toNat : Int)))
    (k1 : 128 ≤ (x.toNat : Int)) (k2 : (x.toNat : Int) ≤ 193)
    (R : Bool × Bool) (hR : R = st (x :: t)) :
    Calls Tryd.prog 45 #[.slice (some ⟨b, off, none⟩) n cap] w fun e w' => e = .returned (.tuple #[.bool R.1, .bool R.2]) ∧ w = w' := by
  have hc0 : w.cell? ⟨b, off, none⟩ = some (.int .u8 (x.toNat : Int)) := by
    have := hL 0 (by simp)
    rw [Nat.add_zero] at this
    exact this
  have HL := hid hL
  have HN := hid hn
  have HZ := hid hz
  have HR := hid hR
  have hp : (0 : Int) < (n : Int) := by omega
  clear hL hn hz hR
  have HE : Hid (R = (false, false)) := by
    have e := HR.out
    rw [st_no x t (.inl (by rw [HZ.out]; have := HN.out; omega))] at e
    exact e
  go_enter Tryd.func45, Tryd.ntmps45
  go_wp2
  go_ret2
  rw [HE.out]
  exact ⟨rfl, rfl⟩

set_option maxHeartbeats 4000000 in
set_option maxRecDepth 100000 in
theorem starts_0b (b off cap : Nat) (x : UInt8) (t : List UInt8) (n : Nat) (w : World) (hn : t.length + 1 = n) (hm : n ≤ 16) (hz : size x.toNat = 0)
    (hL : ∀ j (h : j < (x :: t).length), w.cell? ⟨b, off + j, none⟩ = some (.int .u8 ((x :: t)[j].toNat : Int)))
    (k1 : 245 ≤ (x.toNat : Int))
    (R : Bool × Bool) (hR : R = st (x :: t)) :
    Calls Tryd.prog 45 #[.slice (some ⟨b, off, none⟩) n cap] w fun e w' => e = .returned (.tuple #[.bool R.1, .bool R.2]) ∧ w = w' := by
  have hc0 : w.cell? ⟨b, off, none⟩ = some (.int .u8 (x.toNat : Int)) := by
    have := hL 0 (by simp)
    rw [Nat.add_zero] at this
    exact this
  have HL := hid hL
  have HN := hid hn
  have HZ := hid hz
  have HR := hid hR
  have hp : (0 : Int) < (n : Int) := by omega
  clear hL hn hz hR
  have HE : Hid (R = (false, false)) := by
    have e := HR.out
    rw [st_no x t (.inl (by rw [HZ.out]; have := HN.out; omega))] at e
    exact e
  go_enter Tryd.func45, Tryd.ntmps45
  go_wp2
  go_ret2
  rw [HE.out]
  exact ⟨rfl, rfl⟩

end Go.Proofs.YtleecmapaihhmaaDoor.RefS
