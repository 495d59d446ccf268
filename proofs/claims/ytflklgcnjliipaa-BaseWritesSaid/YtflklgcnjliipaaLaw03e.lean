/- The walk of the law BaseWrites: it returns true, whatever it is called with. -/
import Derived.Test.YtflklgcnjliipaaB64W
import Derived.Test.YtflklgcnjliipaaB64H
namespace Go.Proofs.Ytflklgcnjliipaa.Laws
open Go.RowKit Go.Proofs.Ytflklgcnjliipaa.Base Go.Proofs.Ytflklgcnjliipaa.Base2 Go.Proofs.Ytflklgcnjliipaa.B64D Go.Proofs.Ytflklgcnjliipaa.B64E Go.Proofs.Ytflklgcnjliipaa.B64G Go.Proofs.Ytflklgcnjliipaa.Regs

def lenT : Value → Nat | .string s => s.size | _ => 0
theorem last_str (X : List UInt8) (c : UInt8) (h : X.getLast? = some c) (hp : (strOf X).size - 1 < (strOf X).size) : (strOf X)[(strOf X).size - 1]'hp = c := by
  rw [List.getLast?_eq_getElem?] at h
  have hs : (strOf X).size = X.length := size_strOf X
  obtain ⟨h1, h2⟩ := List.getElem?_eq_some_iff.1 h
  rw [← h2]
  show X.toArray[(strOf X).size - 1] = _
  simp only [hs]
  simp
theorem list_str (X : List UInt8) : (strOf X).toList = X := by
  unfold strOf
  rw [ByteArray.toList_mk]
theorem ne_str (X : List UInt8) : ((strOf X).toList != []) = decide (X ≠ []) := by
  unfold strOf
  rw [ByteArray.toList_mk, Bool.eq_iff_iff]
  simp
set_option linter.unusedSimpArgs false in
set_option maxHeartbeats 4000000 in
set_option maxRecDepth 100000 in
theorem BaseWrites_any (A : Option Addr) (n cap : Nat) (L : List UInt8) (w : World) (hr : Rds w A n (bcells L)) (hc : n ≤ cap) (_hm : cap ≤ maxLen) :
    Calls Try.prog 3 #[.slice A n cap] w fun e w' => e = .returned (.bool true) ∧ Below w.heap.size w w' := by
  have hl : L.length = n := by rw [← length_bcells]; exact hr.1
  have HL := hid hl
  have HR := hid hr
  clear hl hr
  by_cases h1 : n ≤ 300
  · have p1 : ¬ (300 : Int) < (n : Int) := by omega
    obtain ⟨E, hE⟩ : ∃ E, e64 L = E := ⟨_, rfl⟩
    obtain ⟨Y, hY⟩ : ∃ Y, body L = Y := ⟨_, rfl⟩
    obtain ⟨d, hd⟩ : ∃ d, pd L = d := ⟨_, rfl⟩
    have HEY : Hid (E = Y ++ List.replicate d 61) := by show _ = _; rw [← hE, ← hY, ← hd]; exact (groups_all L).1
    have hELn : E.length ≤ 404 := by rw [← hE, e64_len, HL.out]; omega
    have HEL := hid hELn
    have HYN : Hid (∀ c ∈ Y, c ≠ 61) := by rw [← hY]; exact body_ne L
    have HB1 : Hid (dOk E = true ∧ dB E = L) := by rw [← hE]; exact back L _ (txt_e64 L)
    have HB2 : Hid (dOk Y = true ∧ dB Y = L) := by rw [← hY]; exact back L _ (txt_body L)
    have HE := hid hE
    clear hE hY hd hELn
    go_enter Try.func3, Try.ntmps3
    go_wp2_with fail
    refine (B64W.awake_any _).mono ?_
    rintro e w1 ⟨rfl, hb1⟩
    have HR1 := hid (HR.out.below hb1)
    go_wp2_with fail
    refine (encode_any A n cap L _ HR1.out hc (by omega)).mono ?_
    rintro e w2 ⟨rfl, hb2⟩
    rw [HE.out]
    have HR2 := hid (HR1.out.below hb2)
    go_wp2_with fail
    refine (decode_any (strOf E) _ (by rw [size_strOf]; have := HEL.out; omega)).mono ?_
    rintro e w3 ⟨v, rfl, hown, hb3⟩
    rw [show (strOf E).data.toList = E from rfl, HB1.out.2] at hown
    rw [show (strOf E).data.toList = E from rfl, HB1.out.1]
    obtain ⟨A3, c3, rfl, hc3, hm3, hr3⟩ := owns_form hown
    have HX3 := hid hr3
    have HR3 := hid (HR2.out.below hb3)
    clear hown hr3
    go_wp2
    go_loopw [6] (fun vt wr => ∃ e : Nat, e ≤ d ∧ vt = .string (strOf (Y ++ List.replicate e 61)) ∧ w3 = wr) (fun vt _ => lenT vt)
    case atStart => exact ⟨d, Nat.le_refl _, by rw [← HEY.out], rfl⟩
    case round =>
      obtain ⟨e, he, rfl, rfl⟩ := hrel
      obtain ⟨X, hX⟩ : ∃ X, X = Y ++ List.replicate e 61 := ⟨_, rfl⟩
      rw [← hX]
      have hXl : X.length ≤ 404 := by
        have h2 := HEL.out
        rw [HEY.out] at h2
        rw [hX]
        simp at h2 ⊢
        omega
      have hsz : (strOf X).size ≤ 404 := by rw [size_strOf]; exact hXl
      have hne := ne_str X
      rcases Nat.eq_zero_or_pos e with h0 | h0
      · subst h0
        have hXY : X = Y := by rw [hX]; simp
        have HXY := hid hXY
        by_cases hnil : X = []
        · have hd0 : decide (X ≠ []) = false := by simp [hnil]
          rw [hd0] at hne
          have hz1 : (strOf X).toList = [] := by rw [list_str]; exact hnil
          have hz2 : (strOf X).toList.isEmpty = true := by rw [hz1]; rfl
          clear hd0 hnil hX hXY
          go_wp2_with fail
          refine (decode_any (strOf X) _ (by omega)).mono ?_
          rintro e w4 ⟨v, rfl, hown, hb4⟩
          rw [show (strOf X).data.toList = X from rfl, HXY.out, HB2.out.2] at hown
          rw [show (strOf X).data.toList = X from rfl, HXY.out, HB2.out.1]
          obtain ⟨A4, c4, rfl, hc4, hm4, hr4⟩ := owns_form hown
          have HX4 := hid hr4
          have HR4 := hid (HR3.out.below hb4)
          clear hown hr4
          go_wp2_with fail
          refine (B64H.ref_encode A n cap L _ HR4.out hc (by omega)).mono ?_
          rintro e w5 ⟨rfl, hb5⟩
          rw [HE.out]
          have hs1 := run_string_of 22 9 5 Try.underlying22 Try.underlying5 Try.underlying9 _ c3 ((HX3.out.below hb4).below hb5)
          have hs2 := run_string_of 22 9 5 Try.underlying22 Try.underlying5 Try.underlying9 _ c4 (HX4.out.below hb5)
          have hs3 := run_string_of 22 9 5 Try.underlying22 Try.underlying5 Try.underlying9 _ cap (HR4.out.below hb5)
          rw [HL.out] at hs1 hs2
          have hee : ((strOf E).toList == (strOf E).toList) = true := by simp
          have hll : ((strOf L).toList == (strOf L).toList) = true := by simp
          rw [HL.out]
          go_wp2
          go_ret
          exact ⟨rfl, bel (bel (bel (bel hb1 hb2) hb3) hb4) hb5⟩
        · have hd0 : decide (X ≠ []) = true := by simpa using hnil
          rw [hd0] at hne
          obtain ⟨c, hlast⟩ : ∃ c, X.getLast? = some c := ⟨X.getLast hnil, List.getLast?_eq_some_getLast hnil⟩
          have hcm : c ∈ X := List.mem_of_getLast? hlast
          have hc61 : c ≠ 61 := HYN.out c (by rw [← hXY]; exact hcm)
          have hc61' : ¬ (c.toNat : Int) = 61 := fun e => hc61 (UInt8.toNat_inj.1 (by simpa using Int.ofNat_inj.1 e))
          have hpos : 0 < (strOf X).size := by
            rw [size_strOf]
            exact List.length_pos_iff.2 hnil
          have hidx := last_str X c hlast
          have hz1 : ¬ (strOf X).toList = [] := by rw [list_str]; exact hnil
          have hz2 : (strOf X).toList.isEmpty = false := by rw [list_str]; simpa using hnil
          have hp1 : (1 : Int) ≤ ((strOf X).size : Int) := by omega
          have hp2 : ((strOf X).size : Int) - 1 < ((strOf X).size : Int) := by omega
          have hct : ((c.toNat : Int) == 61) = false := by simpa using hc61'
          clear hd0 hnil hX hXY hcm hc61 hlast
          go_wp2_with fail
          refine (decode_any (strOf X) _ (by omega)).mono ?_
          rintro e w4 ⟨v, rfl, hown, hb4⟩
          rw [show (strOf X).data.toList = X from rfl, HXY.out, HB2.out.2] at hown
          rw [show (strOf X).data.toList = X from rfl, HXY.out, HB2.out.1]
          obtain ⟨A4, c4, rfl, hc4, hm4, hr4⟩ := owns_form hown
          have HX4 := hid hr4
          have HR4 := hid (HR3.out.below hb4)
          clear hown hr4
          go_wp2_with fail
          refine (B64H.ref_encode A n cap L _ HR4.out hc (by omega)).mono ?_
          rintro e w5 ⟨rfl, hb5⟩
          rw [HE.out]
          have hs1 := run_string_of 22 9 5 Try.underlying22 Try.underlying5 Try.underlying9 _ c3 ((HX3.out.below hb4).below hb5)
          have hs2 := run_string_of 22 9 5 Try.underlying22 Try.underlying5 Try.underlying9 _ c4 (HX4.out.below hb5)
          have hs3 := run_string_of 22 9 5 Try.underlying22 Try.underlying5 Try.underlying9 _ cap (HR4.out.below hb5)
          rw [HL.out] at hs1 hs2
          have hee : ((strOf E).toList == (strOf E).toList) = true := by simp
          have hll : ((strOf L).toList == (strOf L).toList) = true := by simp
          rw [HL.out]
          go_wp2
          go_ret
          exact ⟨rfl, bel (bel (bel (bel hb1 hb2) hb3) hb4) hb5⟩
      · obtain ⟨f, rfl⟩ : ∃ f, e = f + 1 := ⟨e - 1, by omega⟩
        have hX2 : X = (Y ++ List.replicate f 61) ++ [61] := by rw [hX, List.replicate_succ', List.append_assoc]
        have hnil : X ≠ [] := by rw [hX2]; simp
        have hd0 : decide (X ≠ []) = true := by simpa using hnil
        rw [hd0] at hne
        have hlast : X.getLast? = some 61 := by rw [hX2]; simp
        have hpos : 0 < (strOf X).size := by
          rw [size_strOf]
          exact List.length_pos_iff.2 hnil
        have hidx := last_str X 61 hlast
        have hz1 : ¬ (strOf X).toList = [] := by rw [list_str]; exact hnil
        have hz2 : (strOf X).toList.isEmpty = false := by rw [list_str]; simpa using hnil
        have hp1 : (1 : Int) ≤ ((strOf X).size : Int) := by omega
        have hp2 : ((strOf X).size : Int) - 1 < ((strOf X).size : Int) := by omega
        have hct : (((61 : UInt8).toNat : Int) == 61) = true := rfl
        have hcut : (strOf X).extract 0 ((strOf X).size - 1) = strOf (Y ++ List.replicate f 61) := by
          rw [ext_take, size_strOf]
          rw [show (strOf X).data.toList = X from rfl, hX2]
          congr 1
          rw [List.length_append, List.length_singleton, Nat.add_sub_cancel, List.take_left]
        clear hd0 hnil hX hX2 hlast
        go_wp2
        go_roundw
        case rel => exact ⟨f, by omega, by rw [← hcut], trivial⟩
        case measure => (simp [lenT]; first | omega | (rw [← hcut]; simp; omega))
  · have p1 : (300 : Int) < (n : Int) := by omega
    go_enter Try.func3, Try.ntmps3
    go_wp2_with fail
    refine (B64W.awake_any _).mono ?_
    rintro e w1 ⟨rfl, hb1⟩
    go_wp2_with fail
    refine (B64W.awake_any _).mono ?_
    rintro e w2 ⟨rfl, hb2⟩
    go_wp2_with fail
    go_ret
    exact ⟨rfl, bel hb1 hb2⟩
end Go.Proofs.Ytflklgcnjliipaa.Laws
