/- Paths: one segment follows. -/
import Derived.Test.YtpodicomfmkpcaaPthF
namespace Go.Proofs.Ytpodicomfmkpcaa.PthG
open Go.RowKit Go.Proofs.Ytpodicomfmkpcaa.Base Go.Proofs.Ytpodicomfmkpcaa.Base2 Go.Proofs.Ytpodicomfmkpcaa.PthP Go.Proofs.Ytpodicomfmkpcaa.PthA Go.Proofs.Ytpodicomfmkpcaa.PthB Go.Proofs.Ytpodicomfmkpcaa.PthC Go.Proofs.Ytpodicomfmkpcaa.PthE Go.Proofs.Ytpodicomfmkpcaa.PthF

theorem info_str : (Try.prog.info? 9).map (fun i => (i.zero, i.size, i.bytes)) = some (some (.string ByteArray.empty), 1, 16) := by kernel_rfl
/-- What the call owns, cut. -/
theorem owns_take {w : World} {B : Nat} {e : TypeId} {A : Option Addr} {n cap : Nat} {xs : List Value} (h : w.ownsRow B e 1 (.slice A n cap) n xs) (m : Nat) (hm : m ≤ n) : w.ownsRow B e 1 (.slice A m cap) m (xs.take m) := by
  obtain ⟨hl, h⟩ := h
  rw [Nat.mul_one] at hl
  refine ⟨by rw [List.length_take]; omega, ?_⟩
  rcases h with ⟨hv, h0⟩ | ⟨g, cap', cur, hv, hb, hh, hc, hmm, hs, ht⟩
  · injection hv with h1 h2 h3
    obtain rfl : m = 0 := by omega
    exact .inl ⟨by rw [h1, h3], rfl⟩
  · injection hv with h1 h2 h3
    subst h3
    refine .inr ⟨g, cap, cur, by rw [h1], hb, hh, by omega, hmm, hs, ?_⟩
    rw [Nat.mul_one] at ht ⊢
    rw [← ht, List.take_take, Nat.min_eq_left hm]
def stp (file last : Bool) (l : List ByteArray) (L : List UInt8) : List ByteArray :=
  if dbl L then (if last then sho file l ++ [strOf []] else sho file l) else if sgl L then (if last then l ++ [strOf []] else l) else l ++ [strOf (wr (file && l.isEmpty) L)]
def Owned (B : Nat) (w : World) (l : List ByteArray) (e : Ending) (w' : World) : Prop := ∃ v, e = .returned v ∧ w'.ownsRow B 9 1 v l.length (l.map Value.string) ∧ Below B w w'
set_option linter.unusedSimpArgs false in
set_option maxHeartbeats 4000000 in
theorem step_any (file last : Bool) (B : Nat) (v : Value) (l : List ByteArray) (s : ByteArray) (w : World) (hown : w.ownsRow B 9 1 v l.length (l.map Value.string)) (hB : B ≤ w.heap.size) (hl : l.length ≤ 1000000) (hs : s.size ≤ 1073741824) :
    Calls Try.prog 32 #[.bool file, .bool last, v, .string s] w (Owned B w (stp file last l s.data.toList)) := by
  obtain ⟨i0, hi, hz0, hz1, hz2⟩ := info_parts info_str
  obtain ⟨A, cap, rfl, hnc, hcm, hR⟩ := owns_form hown
  obtain ⟨n, hn⟩ : ∃ n, n = l.length := ⟨_, rfl⟩
  rw [← hn] at hown hl hnc hR ⊢
  obtain ⟨S, hS⟩ : ∃ S, S = stp file last l s.data.toList := ⟨_, rfl⟩
  rw [← hS]
  have HN := hid hn
  obtain ⟨d, hd⟩ : ∃ d, d = dbl s.data.toList := ⟨_, rfl⟩
  have HD := hid hd
  cases d with
  | true =>
    obtain ⟨m, hm⟩ : ∃ m, m = if keep file l then n else n - 1 := ⟨_, rfl⟩
    have hmn : m ≤ n := by rw [hm]; split <;> omega
    have hsho : sho file l = l.take m := by
      unfold sho
      rw [hm]
      split
      · rw [List.take_of_length_le (by omega)]
      · rw [hn]
    have hlt : (l.take m).length = m := by rw [List.length_take]; omega
    have hown2 := owns_take hown m hmn
    rw [← List.map_take] at hown2
    have HOWN2 := hid hown2
    have HR := hid hR
    have HM := hid hm
    have HLT := hid hlt
    have HSH := hid hsho
    cases last with
    | false =>
      have HSS : Hid (S = l.take m) := by show _ = _; rw [hS]; unfold stp; rw [← hd, if_pos rfl, if_neg (by decide), hsho]
      clear hown hown2 hR hm hsho hS hd hn hlt
      go_enter Try.func32, Try.ntmps32
      go_wp2_with fail
      refine (double_any s _ hs).mono ?_
      rintro e w2 ⟨rfl, hb2⟩
      rw [← HD.out]
      go_wp2_with fail
      refine (shortened_any file A n cap l _ (HR.out.below hb2) hnc hcm).mono ?_
      rintro e w3 ⟨rfl, rfl⟩
      rw [← HM.out]
      have HX : Hid (Owned B w S (.returned (.slice A m cap)) w2) := ⟨_, rfl, by rw [HSS.out, HLT.out]; exact owns_below HOWN2.out hb2, hb2.mono hB⟩
      go_wp2
      go_ret
      exact HX
    | true =>
      have HSS : Hid (S = l.take m ++ [strOf []]) := by show _ = _; rw [hS]; unfold stp; rw [← hd, if_pos rfl, if_pos rfl, hsho]
      clear hown hown2 hR hm hsho hS hd hn hlt
      go_enter Try.func32, Try.ntmps32
      go_wp2_with fail
      refine (double_any s _ hs).mono ?_
      rintro e w2 ⟨rfl, hb2⟩
      rw [← HD.out]
      go_wp2_with fail
      refine (shortened_any file A n cap l _ (HR.out.below hb2) hnc hcm).mono ?_
      rintro e w3 ⟨rfl, rfl⟩
      rw [← HM.out]
      have hown3 := owns_below HOWN2.out hb2
      have hbel : Below B w w2 := hb2.mono hB
      have hB2 : B ≤ w2.heap.size := Nat.le_trans hB hb2.size
      go_wp2_with (at_builtin; refine wpList_app rfl _ _ 24 rfl B 9 i0 (.string ByteArray.empty) 16 Try.underlying24 hi hz0 hz1 hz2 rfl _ m _ rfl hown3 hbel hB2 [.string (strOf [])] 1 rfl rfl (by intro u hu; simp at hu; subst hu; rfl) (by unfold maxLen; omega) (by omega) ?_)
      intro v4 w4 hown4 hbel4
      have HX : Hid (Owned B w S (.returned v4) w4) := ⟨_, rfl, by rw [HSS.out, List.length_append, List.map_append, HLT.out, List.map_take]; exact hown4, hbel4⟩
      clear hown3 hown4 hbel
      go_wp2
      go_ret
      exact HX
  | false =>
    obtain ⟨g, hg⟩ : ∃ g, g = sgl s.data.toList := ⟨_, rfl⟩
    have HG := hid hg
    have hsm : s.size ≤ maxLen := by unfold maxLen; omega
    have HSM := hid hsm
    have HOWN := hid hown
    cases g with
    | true =>
      cases last with
      | false =>
        have HSS : Hid (S = l) := by show _ = _; rw [hS]; unfold stp; rw [← hd, if_neg (by decide), ← hg, if_pos rfl, if_neg (by decide)]
        clear hown hR hS hd hg hn hsm
        go_enter Try.func32, Try.ntmps32
        go_wp2_with fail
        refine (double_any s _ hs).mono ?_
        rintro e w2 ⟨rfl, hb2⟩
        rw [← HD.out]
        go_wp2_with fail
        refine (single_any s _ HSM.out).mono ?_
        rintro e w3 ⟨rfl, hb3⟩
        rw [← HG.out]
        have HX : Hid (Owned B w S (.returned (.slice A n cap)) w3) := ⟨_, rfl, by rw [HSS.out, ← HN.out]; exact owns_below (owns_below HOWN.out hb2) hb3, (bel hb2 hb3).mono hB⟩
        go_wp2
        go_ret
        exact HX
      | true =>
        have HSS : Hid (S = l ++ [strOf []]) := by show _ = _; rw [hS]; unfold stp; rw [← hd, if_neg (by decide), ← hg, if_pos rfl, if_pos rfl]
        clear hown hR hS hd hg hn hsm
        go_enter Try.func32, Try.ntmps32
        go_wp2_with fail
        refine (double_any s _ hs).mono ?_
        rintro e w2 ⟨rfl, hb2⟩
        rw [← HD.out]
        go_wp2_with fail
        refine (single_any s _ HSM.out).mono ?_
        rintro e w3 ⟨rfl, hb3⟩
        rw [← HG.out]
        have hown3 := owns_below (owns_below HOWN.out hb2) hb3
        have hbel : Below B w w3 := (bel hb2 hb3).mono hB
        have hB2 : B ≤ w3.heap.size := Nat.le_trans hB (Nat.le_trans hb2.size hb3.size)
        go_wp2_with (at_builtin; refine wpList_app rfl _ _ 24 rfl B 9 i0 (.string ByteArray.empty) 16 Try.underlying24 hi hz0 hz1 hz2 rfl _ n _ rfl hown3 hbel hB2 [.string (strOf [])] 1 rfl rfl (by intro u hu; simp at hu; subst hu; rfl) (by unfold maxLen; omega) (by omega) ?_)
        intro v4 w4 hown4 hbel4
        have HX : Hid (Owned B w S (.returned v4) w4) := ⟨_, rfl, by rw [HSS.out, List.length_append, List.map_append, ← HN.out]; exact hown4, hbel4⟩
        clear hown3 hown4 hbel
        go_wp2
        go_ret
        exact HX
    | false =>
      obtain ⟨f, hf⟩ : ∃ f, f = (file && l.isEmpty) := ⟨_, rfl⟩
      obtain ⟨R, hR2⟩ : ∃ R, R = strOf (wr f s.data.toList) := ⟨_, rfl⟩
      have HSS : Hid (S = l ++ [R]) := by show _ = _; rw [hS]; unfold stp; rw [← hd, if_neg (by decide), ← hg, if_neg (by decide), ← hf, hR2]
      have HR2 := hid hR2
      have hcase : (file = false ∧ f = false) ∨ (file = true ∧ n = 0 ∧ f = true) ∨ (file = true ∧ n ≠ 0 ∧ f = false) := by
        cases file with
        | false => exact .inl ⟨rfl, by rw [hf]; rfl⟩
        | true =>
          match l, hn with
          | [], hn => exact .inr (.inl ⟨rfl, by simpa using hn, by rw [hf]; rfl⟩)
          | _ :: _, hn => exact .inr (.inr ⟨rfl, by simp at hn; omega, by rw [hf]; rfl⟩)
      clear hown hR hS hd hg hn hsm hf hR2
      rcases hcase with ⟨rfl, rfl⟩ | ⟨rfl, h0, rfl⟩ | ⟨rfl, h0, rfl⟩
      · go_enter Try.func32, Try.ntmps32
        go_wp2_with fail
        refine (double_any s _ hs).mono ?_
        rintro e w2 ⟨rfl, hb2⟩
        rw [← HD.out]
        go_wp2_with fail
        refine (single_any s _ HSM.out).mono ?_
        rintro e w3 ⟨rfl, hb3⟩
        rw [← HG.out]
        go_wp2_with fail
        refine (written_any _ s _ hs).mono ?_
        rintro e w5 ⟨rfl, hb5⟩
        rw [← HR2.out]
        have hown3 := owns_below (owns_below (owns_below HOWN.out hb2) hb3) hb5
        have hbel : Below B w w5 := (bel (bel hb2 hb3) hb5).mono hB
        have hB2 : B ≤ w5.heap.size := Nat.le_trans hB (Nat.le_trans hb2.size (Nat.le_trans hb3.size hb5.size))
        go_wp2_with (at_builtin; refine wpList_app rfl _ _ 24 rfl B 9 i0 (.string ByteArray.empty) 16 Try.underlying24 hi hz0 hz1 hz2 rfl _ n _ rfl hown3 hbel hB2 [.string R] 1 rfl rfl (by intro u hu; simp at hu; subst hu; rfl) (by unfold maxLen; omega) (by omega) ?_)
        intro v4 w4 hown4 hbel4
        have HX : Hid (Owned B w S (.returned v4) w4) := ⟨_, rfl, by rw [HSS.out, List.length_append, List.map_append, ← HN.out]; exact hown4, hbel4⟩
        clear hown3 hown4 hbel
        go_wp2
        go_ret
        exact HX
      · have q0 : ((n : Int) == 0) = true := by simp; omega
        have HN0 := hid h0
        clear h0
        go_enter Try.func32, Try.ntmps32
        go_wp2_with fail
        refine (double_any s _ hs).mono ?_
        rintro e w2 ⟨rfl, hb2⟩
        rw [← HD.out]
        go_wp2_with fail
        refine (single_any s _ HSM.out).mono ?_
        rintro e w3 ⟨rfl, hb3⟩
        rw [← HG.out]
        go_wp2_with fail
        refine (written_any _ s _ hs).mono ?_
        rintro e w5 ⟨rfl, hb5⟩
        rw [← HR2.out]
        have hown3 := owns_below (owns_below (owns_below HOWN.out hb2) hb3) hb5
        have hbel : Below B w w5 := (bel (bel hb2 hb3) hb5).mono hB
        have hB2 : B ≤ w5.heap.size := Nat.le_trans hB (Nat.le_trans hb2.size (Nat.le_trans hb3.size hb5.size))
        go_wp2_with (at_builtin; refine wpList_app rfl _ _ 24 rfl B 9 i0 (.string ByteArray.empty) 16 Try.underlying24 hi hz0 hz1 hz2 rfl _ n _ rfl hown3 hbel hB2 [.string R] 1 rfl rfl (by intro u hu; simp at hu; subst hu; rfl) (by unfold maxLen; omega) (by omega) ?_)
        intro v4 w4 hown4 hbel4
        have HX : Hid (Owned B w S (.returned v4) w4) := ⟨_, rfl, by rw [HSS.out, List.length_append, List.map_append, ← HN.out]; exact hown4, hbel4⟩
        clear hown3 hown4 hbel
        go_wp2
        go_ret
        exact HX
      · have q0 : ((n : Int) == 0) = false := by simp; omega
        clear h0
        go_enter Try.func32, Try.ntmps32
        go_wp2_with fail
        refine (double_any s _ hs).mono ?_
        rintro e w2 ⟨rfl, hb2⟩
        rw [← HD.out]
        go_wp2_with fail
        refine (single_any s _ HSM.out).mono ?_
        rintro e w3 ⟨rfl, hb3⟩
        rw [← HG.out]
        go_wp2_with fail
        refine (written_any _ s _ hs).mono ?_
        rintro e w5 ⟨rfl, hb5⟩
        rw [← HR2.out]
        have hown3 := owns_below (owns_below (owns_below HOWN.out hb2) hb3) hb5
        have hbel : Below B w w5 := (bel (bel hb2 hb3) hb5).mono hB
        have hB2 : B ≤ w5.heap.size := Nat.le_trans hB (Nat.le_trans hb2.size (Nat.le_trans hb3.size hb5.size))
        go_wp2_with (at_builtin; refine wpList_app rfl _ _ 24 rfl B 9 i0 (.string ByteArray.empty) 16 Try.underlying24 hi hz0 hz1 hz2 rfl _ n _ rfl hown3 hbel hB2 [.string R] 1 rfl rfl (by intro u hu; simp at hu; subst hu; rfl) (by unfold maxLen; omega) (by omega) ?_)
        intro v4 w4 hown4 hbel4
        have HX : Hid (Owned B w S (.returned v4) w4) := ⟨_, rfl, by rw [HSS.out, List.length_append, List.map_append, ← HN.out]; exact hown4, hbel4⟩
        clear hown3 hown4 hbel
        go_wp2
        go_ret
        exact HX
end Go.Proofs.Ytpodicomfmkpcaa.PthG
