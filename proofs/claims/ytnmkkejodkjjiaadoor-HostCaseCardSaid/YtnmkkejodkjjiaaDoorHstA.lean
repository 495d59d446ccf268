/- Hosts: which bytes may not stand in one, by the code and by the document. -/
import Derived.Test.YtnmkkejodkjjiaaDoorHstP
import Derived.Test.YtnmkkejodkjjiaaDoorShelf
namespace Go.Proofs.YtnmkkejodkjjiaaDoor.HstA
open Go.RowKit Go.Proofs.YtnmkkejodkjjiaaDoor.Base Go.Proofs.YtnmkkejodkjjiaaDoor.HstP

set_option maxHeartbeats 1000000 in
theorem forbidden_any (c : UInt8) (d : Bool) (w : World) : Calls Tryd.prog 20 #[.int .u8 (c.toNat : Int), .bool d] w fun e w' => e = .returned (.bool (fbd d c)) ∧ w = w' := by
  cases d with
  | false =>
    go_enter Tryd.func20, Tryd.ntmps20
    go_wp2_with fail
    refine (Tryd.strings_IndexByte _ _ _).mono ?_
    rintro e w1 ⟨rfl, rfl⟩
    rw [show (⟨#[0, 9, 10, 13, 32, 35, 47, 58, 60, 62, 63, 64, 91, 92, 93, 94, 124]⟩ : ByteArray).data.toList = FRB from rfl, show ((c.toNat : Int).toNat).toUInt8 = c by simp]
    go_wp2_with fail
    go_ret
    exact ⟨ret_bool (by rw [fbd_false, ← frb_index]), rfl⟩
  | true =>
    by_cases h : c.toNat < 32 ∨ c = 127 ∨ c = 37
    · have HE : Hid (fbd true c = true) := by
        show _ = _
        rcases h with h | rfl | rfl
        · simp [fbd, h]
        · rfl
        · rfl
      rcases h with h | rfl | rfl
      · have h1 : (c.toNat : Int) < 32 := by omega
        clear h
        go_enter Tryd.func20, Tryd.ntmps20
        go_wp2
        go_ret
        exact ⟨by rw [HE.out]; rfl, rfl⟩
      · go_enter Tryd.func20, Tryd.ntmps20
        go_wp2
        go_ret
        exact ⟨by rw [HE.out]; rfl, rfl⟩
      · go_enter Tryd.func20, Tryd.ntmps20
        go_wp2
        go_ret
        exact ⟨by rw [HE.out]; rfl, rfl⟩
    · have h1 : ¬ (c.toNat : Int) < 32 := by omega
      have h2 : ((c.toNat : Int) == 127) = false := by
        rw [beq_eq_false_iff_ne]
        intro e
        exact h (.inr (.inl (UInt8.toNat_inj.1 (by show _ = 127; omega))))
      have h3 : ((c.toNat : Int) == 37) = false := by
        rw [beq_eq_false_iff_ne]
        intro e
        exact h (.inr (.inr (UInt8.toNat_inj.1 (by show _ = 37; omega))))
      have HE : Hid (fbd true c = frb c) := by
        show _ = _
        have e1 : decide (c.toNat < 32) = false := by simp; omega
        have e2 : (c == 127) = false := by rw [beq_eq_false_iff_ne]; exact fun e => h (.inr (.inl e))
        have e3 : (c == 37) = false := by rw [beq_eq_false_iff_ne]; exact fun e => h (.inr (.inr e))
        simp [fbd, e1, e2, e3]
      clear h
      go_enter Tryd.func20, Tryd.ntmps20
      go_wp2_with fail
      refine (Tryd.strings_IndexByte _ _ _).mono ?_
      rintro e w1 ⟨rfl, rfl⟩
      rw [show (⟨#[0, 9, 10, 13, 32, 35, 47, 58, 60, 62, 63, 64, 91, 92, 93, 94, 124]⟩ : ByteArray).data.toList = FRB from rfl, show ((c.toNat : Int).toNat).toUInt8 = c by simp]
      go_wp2_with fail
      go_ret
      exact ⟨ret_bool (by rw [HE.out, ← frb_index]), rfl⟩
set_option maxHeartbeats 4000000 in
theorem refForbidden_any (c : UInt8) (d : Bool) (w : World) : Calls Tryd.prog 21 #[.int .u8 (c.toNat : Int), .bool d] w fun e w' => e = .returned (.bool (fbd d c)) ∧ w = w' := by
  cases hf : frb c with
  | true =>
    have HE : Hid (fbd d c = true) := by show _ = _; simp [fbd, hf]
    rcases frb_cases c hf with rfl | rfl | rfl | rfl | rfl | rfl | rfl | rfl | rfl | rfl | rfl | rfl | rfl | rfl | rfl | rfl | rfl
    all_goals
      clear hf
      go_enter Tryd.func21, Tryd.ntmps21
      go_wp2
      go_ret
      exact ⟨by rw [HE.out]; rfl, rfl⟩
  | false =>
    have k0 : ((c.toNat : Int) == 0) = false := frb_nots c hf 0 rfl
    have k1 : ((c.toNat : Int) == 9) = false := frb_nots c hf 9 rfl
    have k2 : ((c.toNat : Int) == 10) = false := frb_nots c hf 10 rfl
    have k3 : ((c.toNat : Int) == 13) = false := frb_nots c hf 13 rfl
    have k4 : ((c.toNat : Int) == 32) = false := frb_nots c hf 32 rfl
    have k5 : ((c.toNat : Int) == 35) = false := frb_nots c hf 35 rfl
    have k6 : ((c.toNat : Int) == 47) = false := frb_nots c hf 47 rfl
    have k7 : ((c.toNat : Int) == 58) = false := frb_nots c hf 58 rfl
    have k8 : ((c.toNat : Int) == 60) = false := frb_nots c hf 60 rfl
    have k9 : ((c.toNat : Int) == 62) = false := frb_nots c hf 62 rfl
    have k10 : ((c.toNat : Int) == 63) = false := frb_nots c hf 63 rfl
    have k11 : ((c.toNat : Int) == 64) = false := frb_nots c hf 64 rfl
    have k12 : ((c.toNat : Int) == 91) = false := frb_nots c hf 91 rfl
    have k13 : ((c.toNat : Int) == 92) = false := frb_nots c hf 92 rfl
    have k14 : ((c.toNat : Int) == 93) = false := frb_nots c hf 93 rfl
    have k15 : ((c.toNat : Int) == 94) = false := frb_nots c hf 94 rfl
    have k16 : ((c.toNat : Int) == 124) = false := frb_nots c hf 124 rfl
    cases d with
    | false =>
      have HE : Hid (fbd false c = false) := by show _ = _; simp [fbd, hf]
      clear hf
      go_enter Tryd.func21, Tryd.ntmps21
      go_wp2
      go_ret
      exact ⟨by rw [HE.out]; rfl, rfl⟩
    | true =>
      by_cases h : c.toNat < 32 ∨ c = 127 ∨ c = 37
      · have HE : Hid (fbd true c = true) := by
          show _ = _
          rcases h with h | rfl | rfl
          · simp [fbd, h]
          · rfl
          · rfl
        clear hf
        rcases h with h | rfl | rfl
        · have h1 : (c.toNat : Int) < 32 := by omega
          clear h
          go_enter Tryd.func21, Tryd.ntmps21
          go_wp2
          go_ret
          exact ⟨by rw [HE.out]; rfl, rfl⟩
        · clear k0 k1 k2 k3 k4 k5 k6 k7 k8 k9 k10 k11 k12 k13 k14 k15 k16
          go_enter Tryd.func21, Tryd.ntmps21
          go_wp2
          go_ret
          exact ⟨by rw [HE.out]; rfl, rfl⟩
        · clear k0 k1 k2 k3 k4 k5 k6 k7 k8 k9 k10 k11 k12 k13 k14 k15 k16
          go_enter Tryd.func21, Tryd.ntmps21
          go_wp2
          go_ret
          exact ⟨by rw [HE.out]; rfl, rfl⟩
      · have h1 : ¬ (c.toNat : Int) < 32 := by omega
        have h2 : ((c.toNat : Int) == 127) = false := by
          rw [beq_eq_false_iff_ne]
          intro e
          exact h (.inr (.inl (UInt8.toNat_inj.1 (by show _ = 127; omega))))
        have h3 : ((c.toNat : Int) == 37) = false := by
          rw [beq_eq_false_iff_ne]
          intro e
          exact h (.inr (.inr (UInt8.toNat_inj.1 (by show _ = 37; omega))))
        have HE : Hid (fbd true c = false) := by
          show _ = _
          have e1 : decide (c.toNat < 32) = false := by simp; omega
          have e2 : (c == 127) = false := by rw [beq_eq_false_iff_ne]; exact fun e => h (.inr (.inl e))
          have e3 : (c == 37) = false := by rw [beq_eq_false_iff_ne]; exact fun e => h (.inr (.inr e))
          simp [fbd, hf, e1, e2, e3]
        clear h hf
        go_enter Tryd.func21, Tryd.ntmps21
        go_wp2
        go_ret
        exact ⟨by rw [HE.out]; rfl, rfl⟩
end Go.Proofs.YtnmkkejodkjjiaaDoor.HstA
