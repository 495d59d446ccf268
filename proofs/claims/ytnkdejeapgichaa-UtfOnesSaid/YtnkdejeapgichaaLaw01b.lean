/- The walks of the laws UtfReads and UtfOnes: each returns true, whatever it is called with. -/
import Derived.Test.YtnkdejeapgichaaUtfW
import Derived.Test.YtnkdejeapgichaaRefV
namespace Go.Proofs.Ytnkdejeapgichaa.Laws
open Go.RowKit Go.Proofs.Ytnkdejeapgichaa.Base Go.Proofs.Ytnkdejeapgichaa.Base2 Go.Proofs.Ytnkdejeapgichaa.UtfR Go.Proofs.Ytnkdejeapgichaa.UtfP

set_option maxHeartbeats 1000000 in
theorem UtfReads_any (A : Option Addr) (n cap : Nat) (L : List UInt8) (w : World) (hr : Rds w A n (bcells L)) (hc : n ≤ cap) (_hm : cap ≤ maxLen) :
    Calls Try.prog 3 #[.slice A n cap] w fun e w' => e = .returned (.bool true) ∧ Below w.heap.size w w' := by
  have hl : L.length = n := by rw [← length_bcells]; exact hr.1
  have HDL : Hid ((dec L).length ≤ L.length) := RefV.dec_len L
  have HL := hid hl
  have HR := hid hr
  clear hl hr
  by_cases h5 : n ≤ 2000
  · have hp : ¬ (2000 : Int) < (n : Int) := by omega
    go_enter Try.func3, Try.ntmps3
    go_wp2_with fail
    refine (UtfW.awake_any _).mono ?_
    rintro e w1 ⟨rfl, hb1⟩
    have hr1 := HR.out.below hb1
    have HR1 := hid hr1
    clear hr1
    go_wp2_with fail
    refine (decode_any A n cap L _ HR1.out (by omega) hc).mono ?_
    rintro e w2 ⟨v, rfl, hown, hb2⟩
    obtain ⟨A2, c2, rfl, _, _, hr2⟩ := owns_form hown
    have HR2 := hid (HR1.out.below hb2)
    have HD2 := hid hr2
    clear hr2 hown
    go_wp2_with fail
    refine (RefD.decode_any A n cap L _ HR2.out (by omega) hc).mono ?_
    rintro e w3 ⟨v, rfl, hown, hb3⟩
    obtain ⟨A3, c3, rfl, _, _, hr3⟩ := owns_form hown
    have HR3 := hid (HR2.out.below hb3)
    have HD3 := hid (HD2.out.below hb3)
    have HE3 := hid hr3
    clear hr3 hown
    go_wp2_with fail
    refine (RefV.same_any A2 _ c2 (dec L) A3 _ c3 (dec L) _ HD3.out HE3.out (by have := HDL.out; have := HL.out; omega)).mono ?_
    rintro e w4 ⟨rfl, hb4⟩
    rw [show (decide (dec L = dec L)) = true from decide_eq_true rfl]
    have HR4 := hid (HR3.out.below hb4)
    go_wp2_with fail
    refine (valid_any A n cap L _ HR4.out (by omega) hc).mono ?_
    rintro e w5 ⟨rfl, hb5⟩
    have HR5 := hid (HR4.out.below hb5)
    go_wp2_with fail
    refine (RefV.valid_any A n cap L _ HR5.out (by omega) hc).mono ?_
    rintro e w6 ⟨rfl, hb6⟩
    go_wp2_with fail
    go_ret
    exact ⟨rfl, bel (bel (bel (bel (bel hb1 hb2) hb3) hb4) hb5) hb6⟩
  · have hp : (2000 : Int) < (n : Int) := by omega
    go_enter Try.func3, Try.ntmps3
    go_wp2_with fail
    refine (UtfW.awake_any _).mono ?_
    rintro e w1 ⟨rfl, hb1⟩
    go_wp2_with fail
    refine (UtfW.awake_any _).mono ?_
    rintro e w2 ⟨rfl, hb2⟩
    go_wp2_with fail
    go_ret
    exact ⟨rfl, bel hb1 hb2⟩
theorem one_rune (r : Int) (w : World) : Rds (w.alloc (.cells #[.int .i32 r] 21)) (some ⟨w.heap.size, 0, none⟩) 1 (icells .i32 [r]) :=
  RefC.made w [.int .i32 r] 1 _ rfl
theorem dec_one (r : Int) (h : Chr r) : dec (Lib.encodeRune r) = [r] := by
  have e := (dec_enc [r] [] (by intro x hx; simp at hx; subst hx; exact h)).1
  have e2 : UtfE.enc [r] ++ [] = Lib.encodeRune r := by simp [UtfE.enc]
  rw [e2, dec_nil] at e
  exact e
set_option maxHeartbeats 4000000 in
theorem UtfOnes_any (r : Int) (w : World) (hr : -2147483648 ≤ r ∧ r ≤ 2147483647) :
    Calls Try.prog 7 #[.int .i32 r] w fun e w' => e = .returned (.bool true) ∧ Below w.heap.size w w' := by
  obtain ⟨hr1, hr2⟩ := hr
  by_cases hc : Chr r
  · have hcb : RefC.chrB r = true := by unfold RefC.chrB; simpa using hc
    have hRune : ∀ x ∈ [r], UtfE.Rune x := by intro x hx; simp at hx; subst hx; exact ⟨hr1, hr2⟩
    have he : UtfE.enc [r] = Lib.encodeRune r := by simp [UtfE.enc]
    have hlen := UtfE.rune_len r
    have hd1 := dec_one r hc
    have hsh := dec_short r hc
    obtain ⟨E, hE⟩ : ∃ E, E = Lib.encodeRune r := ⟨_, rfl⟩
    rw [← hE] at he hlen hd1 hsh
    obtain ⟨m, hm⟩ : ∃ m, m = E.length := ⟨_, rfl⟩
    rw [← hm] at hlen hsh
    obtain ⟨l1, l4⟩ := hlen
    have HC := hid hcb
    have HRU := hid hRune
    have HE := hid he
    have HD := hid hd1
    have HM := hid hm
    clear hc hcb hRune he hd1 hm hE
    have HT1 : Hid (decide (dec E = [r]) = true) := decide_eq_true HD.out
    rcases hsh with ⟨k1, k2⟩ | ⟨k1, k2⟩
    all_goals
      have HK := hid k2
      clear k2
      have HM1 : Hid (m = 1 ∨ 1 < m) := by show _ ∨ _; omega
      first | (have k1' : (m : Int) = 1 := by omega) | (have k1' : (1 : Int) < (m : Int) := by omega)
      first | (have k3 : ((m : Int) == 1) = true := by simp; omega) | (have k3 : ((m : Int) == 1) = false := by simp; omega)
      clear k1 k1'
      go_enter Try.func7, Try.ntmps7
      go_wp2_with fail
      refine (UtfW.awake_any _).mono ?_
      rintro e w1 ⟨rfl, hb1⟩
      go_wp2_with fail
      refine (RefC.char_any _ _).mono ?_
      rintro e w2 ⟨rfl, rfl⟩
      rw [HC.out]
      go_wp2_with fail
      refine (UtfE.encode_any _ _ _ [r] _ (one_rune r w1) HRU.out (by decide)).mono ?_
      rintro e w2 ⟨v, rfl, hown, hb2⟩
      rw [HE.out, ← HM.out] at hown
      obtain ⟨A2, c2, rfl, hc2, _, hr2'⟩ := owns_form hown
      obtain ⟨b, off, rfl, hb, _⟩ := hr2'.spot (by omega)
      have HR2 := hid hr2'
      clear hown hr2'
      have hmc : (m : Int) ≤ (c2 : Int) := by omega
      have HS2 : Hid (Rds w2 (some ⟨b, off, none⟩) (m - 1) (bcells E.dropLast)) := by
        have e := HR2.out.upto (m - 1) (by omega)
        rw [← bcells_take, HM.out, ← List.dropLast_eq_take] at e
        rw [HM.out]
        exact e
      go_wp2_with fail
      refine (decode_any (some ⟨b, off, none⟩) (m - 1) c2 E.dropLast _ HS2.out (by omega) (by omega)).mono ?_
      rintro e w3 ⟨v, rfl, hown, hb3⟩
      first | rw [HK.out, show ([] : List Int).length = 0 from rfl] at hown | rw [HK.out, show ([65533] : List Int).length = 1 from rfl] at hown
      obtain ⟨A3, c3, rfl, _, _, hr3⟩ := owns_form hown
      have HR3 := hid (HR2.out.below hb3)
      have HSH := hid hr3
      clear hown hr3
      go_wp2_with fail
      refine (decode_any (some ⟨b, off, none⟩) m c2 E _ HR3.out (by omega) (by omega)).mono ?_
      rintro e w4 ⟨v, rfl, hown, hb4⟩
      rw [HD.out, show ([r] : List Int).length = 1 from rfl] at hown
      obtain ⟨A4, c4, rfl, _, _, hr4⟩ := owns_form hown
      have HSH4 := hid (HSH.out.below hb4)
      have HR4 : Hid (Rds (w4.alloc (.cells #[.int .i32 r] 21)) A4 1 (icells .i32 [r])) := hr4.below ((Below.refl _ _).alloc (Nat.le_refl _) _)
      have HO4 : Hid (Rds (w4.alloc (.cells #[.int .i32 r] 21)) (some ⟨w4.heap.size, 0, none⟩) 1 (icells .i32 [r])) := one_rune r w4
      clear hown hr4
      go_wp2_with fail
      refine (RefV.same_any A4 1 c4 [r] _ _ _ [r] _ HR4.out HO4.out (by decide)).mono ?_
      rintro e w5 ⟨rfl, hb5⟩
      rw [show (decide ([r] = [r])) = true from decide_eq_true rfl]
      have hb45 : Below w4.heap.size w4 w5 := ((Below.refl _ _).alloc (Nat.le_refl _) _).trans (hb5.mono (by simp))
      have HB45 := hid hb45
      have HSH5 := hid (HSH4.out.below hb45)
      clear hb45
      go_wp2_with fail
    · go_ret
      exact ⟨rfl, bel (bel (bel (bel hb1 ((Below.refl _ _).alloc (Nat.le_refl _) _ |>.trans (hb2.mono (by simp)))) hb3) hb4) HB45.out⟩
    · have HO5 : Hid (Rds (w5.alloc (.cells #[.int .i32 65533] 21)) (some ⟨w5.heap.size, 0, none⟩) 1 (icells .i32 [65533])) := one_rune 65533 w5
      have HR5 : Hid (Rds (w5.alloc (.cells #[.int .i32 65533] 21)) A3 1 (icells .i32 [65533])) := HSH5.out.below ((Below.refl _ _).alloc (Nat.le_refl _) _)
      refine (RefV.same_any A3 1 c3 [65533] _ _ _ [65533] _ HR5.out HO5.out (by decide)).mono ?_
      rintro e w6 ⟨rfl, hb6⟩
      rw [show (decide (([65533] : List Int) = [65533])) = true from decide_eq_true rfl]
      have hb56 : Below w5.heap.size w5 w6 := ((Below.refl _ _).alloc (Nat.le_refl _) _).trans (hb6.mono (by simp))
      go_wp2_with fail
      go_ret
      exact ⟨rfl, bel (bel (bel (bel (bel hb1 ((Below.refl _ _).alloc (Nat.le_refl _) _ |>.trans (hb2.mono (by simp)))) hb3) hb4) HB45.out) hb56⟩
  · have hcb : RefC.chrB r = false := by unfold RefC.chrB; simpa using hc
    have HC := hid hcb
    clear hcb hc
    go_enter Try.func7, Try.ntmps7
    go_wp2_with fail
    refine (UtfW.awake_any _).mono ?_
    rintro e w1 ⟨rfl, hb1⟩
    go_wp2_with fail
    refine (RefC.char_any _ _).mono ?_
    rintro e w2 ⟨rfl, rfl⟩
    rw [HC.out]
    go_wp2_with fail
    refine (UtfW.awake_any _).mono ?_
    rintro e w2 ⟨rfl, hb2⟩
    go_wp2_with fail
    go_ret
    exact ⟨rfl, bel hb1 hb2⟩
end Go.Proofs.Ytnkdejeapgichaa.Laws
