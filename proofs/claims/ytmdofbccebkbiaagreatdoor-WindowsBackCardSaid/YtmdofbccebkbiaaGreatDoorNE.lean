/- Texts that belong together: Rn. -/
import Derived.Test.YtmdofbccebkbiaaGreatDoorNC
import Derived.Test.YtmdofbccebkbiaaGreatDoorND
import Derived.Lib.SmallJoins
import Derived.OwnWalk
set_option linter.unusedSimpArgs false
set_option linter.unusedVariables false
set_option maxRecDepth 100000
set_option maxHeartbeats 64000000
namespace Go.Proofs.YtmdofbccebkbiaaGreatDoor.Rn
open Go.RowKit Base aT eH rJ xJ Rk FT zX VW WinB WinS
open Go.Proofs.YtmdofbccebkbiaaGreatDoor.zW (vP Ey at_k)
open Go.Proofs.YtmdofbccebkbiaaGreatDoor.kX (nrm)
def VA (w : World) (o : Option (List UInt8 × List (List UInt8))) (e : Ending) (w' : World) : Prop := Below w.heap.size w w' ∧ match o with
 | none => e = .returned (.tuple #[.string ⟨#[]⟩, .slice none 0 0, .bool false])
 | some (d, l) => ∃ A n c, e = .returned (.tuple #[.string (strOf d), .slice A n c, .bool true]) ∧ l.length = n ∧ n ≤ c ∧ c ≤ maxLen ∧ bK w' A n ((l.map strOf).map Value.string)
def uw (l : List (List UInt8)) : Option (List UInt8 × List (List UInt8)) := if near l = true then some (l.getD 0 [], l.drop 1) else none
def Bl (l : List (List UInt8)) : Option (List UInt8 × List (List UInt8)) := if far l = true then some (l.getD 2 [], l.drop 3) else none
theorem jZ {w w' : World} {o : Option (List UInt8 × List (List UInt8))} (ho : o = none) (hb : Below w.heap.size w w') : VA w o (.returned (.tuple #[.string ⟨#[]⟩, .slice none 0 0, .bool false])) w' := by
 subst ho
 exact ⟨hb, rfl⟩
theorem J8 {w w' : World} {o : Option (List UInt8 × List (List UInt8))} {d : List UInt8} {l : List (List UInt8)} {A : Option Addr} {n c : Nat} (ho : o = some (d, l)) (hb : Below w.heap.size w w') (hn : l.length = n) (hc : n ≤ c) (hm : c ≤ maxLen) (hR : bK w' A n ((l.map strOf).map Value.string)) : VA w o (.returned (.tuple #[.string (strOf d), .slice A n c, .bool true])) w' := by
 subst ho
 exact ⟨hb, A, n, c, rfl, hn, hc, hm, hR⟩
theorem IC {w : World} {l : List (List UInt8)} {e : Ending} {w' : World} (h : AY w l e w') (hl : l ≠ []) : ∃ g n c, e = .returned (.slice (some ⟨g, 0, none⟩) n c) ∧ l.length = n ∧ n ≤ c ∧ c ≤ maxLen ∧ bK w' (some ⟨g, 0, none⟩) n ((l.map strOf).map Value.string) ∧ Below w.heap.size w w' := by
 obtain ⟨v, rfl, hown, hb⟩ := h
 obtain ⟨g, cap, rfl⟩ := Go.Joins.ownsRow_form hown (List.length_pos_iff.2 hl)
 obtain ⟨A, c, e, h1, h2, h3⟩ := aU hown
 cases e
 exact ⟨g, l.length, cap, rfl, rfl, h1, h2, h3, hb⟩
theorem yC (s : ByteArray) (w : World) (hs : s.size ≤ 900000) :
  Calls Tryz.prog 78 #[.string s] w (VA w (uw (gJ s.data.toList))) := by
 have hl : s.data.toList.length = s.size := Array.length_toList
 obtain ⟨l, hll⟩ : ∃ l, l = gJ s.data.toList := ⟨_, rfl⟩
 obtain ⟨O, hO⟩ : ∃ O, O = uw l := ⟨_, rfl⟩
 rw [← hll, ← hO]
 have hne : l ≠ [] := by rw [hll]; exact BR 92 _
 have hlen : l.length ≤ 900001 := by rw [hll]; have := jy 92 (s.data.toList.map bs); rw [List.length_map, hl] at this; exact Nat.le_trans this (by omega)
 have hz : ∀ x ∈ l, x.length ≤ 900000 := by
  intro x hx
  rw [hll] at hx
  have := (wu 92 _ x hx)
  rw [List.length_map, hl] at this
  omega
 obtain ⟨R, hR⟩ : ∃ R, R = s.data.toList.map fs := ⟨_, rfl⟩
 have HSL : Hid (∀ w : World, Calls Tryz.prog 79 #[.string s, .int .u8 92, .int .u8 47] w fun e w' => e = .returned (.string (strOf R)) ∧ Below w.heap.size w w') := fun w => by rw [hR]; exact iP s 92 47 w (by omega)
 have XV : Hid (∀ w : World, Calls Tryz.prog 70 #[.string (strOf R), .int .u8 47] w fun e w' => ∃ g n c, e = .returned (.slice (some ⟨g, 0, none⟩) n c) ∧ l.length = n ∧ n ≤ c ∧ c ≤ maxLen ∧ bK w' (some ⟨g, 0, none⟩) n ((l.map strOf).map Value.string) ∧ Below w.heap.size w w') := fun w => by
  have e : spl 47 (strOf R).data.toList = l := by rw [hll, hR]; exact U9 s.data.toList
  have h := qY (strOf R) w (by rw [ah, hR, List.length_map]; omega)
  rw [e] at h
  exact h.mono fun e w' h => IC h hne
 obtain ⟨a, ha⟩ : ∃ a, a = l.getD 0 [] := ⟨_, rfl⟩
 obtain ⟨n, hn⟩ : ∃ n, l.length = n := ⟨_, rfl⟩
 have hn0 : 0 < n := by rw [← hn]; exact List.length_pos_iff.2 hne
 rw [hn] at hlen
 have hz1 : ∀ x ∈ l.drop 1, x.length ≤ 900000 := fun x hx => hz x (List.mem_of_mem_drop hx)
 obtain ⟨L1, hL1⟩ : ∃ L, L = l.drop 1 := ⟨_, rfl⟩
 obtain ⟨nr, hnr⟩ : ∃ nr, nr = nrm a := ⟨_, rfl⟩
 obtain ⟨W1, hW1⟩ : ∃ W, W = lS L1 := ⟨_, rfl⟩
 rw [← hL1] at hz1
 have hON : O = if (decide (2 ≤ n) && nr && W1) = true then some (a, L1) else none := by rw [hO]; unfold uw; rw [vP, hn, ← ha, ← hL1, ← hnr, ← hW1]
 have N8 : Hid (∀ w : World, Calls Tryz.prog 146 #[.string (strOf a)] w fun e w' => e = .returned (.bool nr) ∧ w = w') := fun w => by rw [hnr]; exact Ei.sO (strOf a) w
 have HF1 : Hid (2 ≤ n → ∀ (A : Option Addr) (cap : Nat) (w : World), bK w A (n - 1) ((L1.map strOf).map Value.string) → Calls Tryz.prog 145 #[.slice A (n - 1) cap] w fun e w' => e = .returned (.bool W1) ∧ Below w.heap.size w w') := fun h2 A cap w hR => by
  have h := Fp A (n - 1) cap L1 w hR (by omega) hz1
  have hp : 0 < L1.length := by rw [hL1, List.length_drop]; omega
  rw [decide_eq_true hp, Bool.and_true, ← hW1] at h
  exact h
 have HC : Hid (∀ (w : World) (g m : Nat), bK w (some ⟨g, 0, none⟩) m ((l.map strOf).map Value.string) → m = n → w.cell? ⟨g, 0, none⟩ = some (.string (strOf a))) := fun w g m hR e => by
  subst e
  rw [ha]; exact at_k hR 0 hn0
 have HD1 : Hid (∀ (w : World) (g : Nat), bK w (some ⟨g, 0, none⟩) n ((l.map strOf).map Value.string) → bK w (some ⟨g, 1, none⟩) (n - 1) ((L1.map strOf).map Value.string)) := fun w g hR => by
  have := hR.cut 1 (by omega)
  rw [hL1, List.map_drop, List.map_drop]
  exact this
 have HLL1 : Hid (L1.length = n - 1) := by show _ = _; rw [hL1, List.length_drop, hn]
 have HO := hid hON
 have HN := hid hn
 have zO := hid hlen
 clear hl hO hll hne hlen hz hR hs hz1 ha hL1 hnr hW1 hn hON
 go_enter Tryz.func78, Tryz.ntmps78
 go_wp2_with fail
 refine (HSL.out _).mono ?_
 rintro e w2 ⟨rfl, hb⟩
 have HB2 := hid hb
 clear hb
 go_wp2_with fail
 refine (XV.out _).mono ?_
 rintro e w3 ⟨g3, n3, c3, rfl, hn3, hnc, hcm, hR, hb⟩
 have HB3 := hid (bel HB2.out hb)
 obtain rfl : n3 = n := by rw [← hn3]; exact HN.out
 have HR3 := hid hR
 have hc0 := HC.out w3 _ _ hR rfl
 have HC3 := hid hc0
 clear hb hR hn3
 have hl9 := zO.out
 unfold maxLen at hcm
 have h0J : (0 : Int) < (n3 : Int) := by omega
 cases nr with
 | false =>
  have xC : Hid (O = none) := by show _ = _; rw [HO.out]; simp
  go_wp2_with fail
  refine (N8.out _).mono ?_
  rintro e w4 ⟨rfl, hw4⟩
  subst hw4
  go_wp2
  go_ret3
  exact jZ xC.out HB3.out
 | true =>
  by_cases h2 : 2 ≤ n3
  ·have h2I : ¬ (n3 : Int) < 2 := by omega
   go_wp2_with fail
   refine (N8.out _).mono ?_
   rintro e w4 ⟨rfl, hw4⟩
   subst hw4
   go_wp2_with fail
   refine (HF1.out h2 _ _ _ (HD1.out _ _ HR3.out)).mono ?_
   rintro e w5 ⟨rfl, hb⟩
   have rE := hid (bel HB3.out hb)
   have HR5 := hid (HR3.out.below hb)
   clear hb hc0
   cases W1 with
   | false =>
    have xC : Hid (O = none) := by show _ = _; rw [HO.out]; simp
    go_wp2
    go_ret3
    exact jZ xC.out rE.out
   | true =>
    have xC : Hid (O = some (a, L1)) := by show _ = _; rw [HO.out, decide_eq_true h2]; rfl
    go_upto_region 4 with (fail)
    refine bW (by kernel_rfl) [is (.slice (some ⟨g3, 0, none⟩) n3 c3), is (.pointer (some ⟨g3, 0, none⟩)), is (.string (strOf a)), is (.slice (some ⟨g3, 0, none⟩) n3 c3), is (.slice (some ⟨g3, 1, none⟩) (n3 - 1) (c3 - 1)), is (.string (strOf a)), is (.slice (some ⟨g3, 1, none⟩) (n3 - 1) (c3 - 1)), is (.bool true)] [[], [0], [1], [], [3], [2], [4], []] (by kernel_rfl) ?_ ?_
    ·refine ⟨?_, ?_, ?_, ?_, ?_, ?_, ?_, ?_, trivial⟩
     all_goals (intro t wq hbq hh K hK; simp only [filled, upd, Have, is, any, row, pick, Act.put, List.setIfInBounds_toArray, List.set_cons_zero, List.set_cons_succ, Nat.reduceAdd, Nat.reduceEqDiff, reduceIte, List.tail_cons, List.headD_cons] at hh hK ⊢; (try simp only [hh] at hK ⊢); try clear hh)
     iterate 2 · go_simp; exact hK _ _ (Below.refl _ _) rfl
     ·have hd0 := HC.out wq _ _ (HR5.out.below hbq) rfl; go_simp; exact hK _ _ (Below.refl _ _) rfl
     iterate 5 · go_simp; exact hK _ _ (Below.refl _ _) rfl
    ·intro t wq hbq hh
     have f5 := aG hh 5 (by decide)
     simp only [pick] at f5
     replace f5 : t 5 = (.string (strOf a)) := f5
     have f6 := aG hh 6 (by decide)
     simp only [pick] at f6
     replace f6 : t 6 = (.slice (some ⟨g3, 1, none⟩) (n3 - 1) (c3 - 1)) := f6
     have f7 := aG hh 7 (by decide)
     simp only [pick] at f7
     replace f7 : t 7 = (.bool true) := f7
     clear hh
     simp only [filled, upd, Have, is, any, row, pick, Act.put, List.setIfInBounds_toArray, List.set_cons_zero, List.set_cons_succ, Nat.reduceAdd, Nat.reduceEqDiff, reduceIte]
     simp only [f5, f6, f7]
     have AU := hid (bel rE.out hbq)
     have X4 := hid (HR5.out.below hbq)
     clear hbq
     go_wp2
     go_ret3
     exact J8 xC.out AU.out HLL1.out (by omega) (by unfold maxLen; omega) (HD1.out _ _ X4.out)
  ·have h2I : (n3 : Int) < 2 := by omega
   have xC : Hid (O = none) := by show _ = _; rw [HO.out, decide_eq_false h2]; rfl
   go_wp2_with fail
   refine (N8.out _).mono ?_
   rintro e w4 ⟨rfl, hw4⟩
   subst hw4
   go_wp2
   go_ret3
   exact jZ xC.out HB3.out
theorem F9 (s : ByteArray) (w : World) (hs : s.size ≤ 900000) :
  Calls Tryz.prog 77 #[.string s] w (VA w (Bl (gJ s.data.toList))) := by
 have hl : s.data.toList.length = s.size := Array.length_toList
 obtain ⟨l, hll⟩ : ∃ l, l = gJ s.data.toList := ⟨_, rfl⟩
 obtain ⟨O, hO⟩ : ∃ O, O = Bl l := ⟨_, rfl⟩
 rw [← hll, ← hO]
 have hne : l ≠ [] := by rw [hll]; exact BR 92 _
 have hlen : l.length ≤ 900001 := by rw [hll]; have := jy 92 (s.data.toList.map bs); rw [List.length_map, hl] at this; exact Nat.le_trans this (by omega)
 have hz : ∀ x ∈ l, x.length ≤ 900000 := by
  intro x hx
  rw [hll] at hx
  have := (wu 92 _ x hx)
  rw [List.length_map, hl] at this
  omega
 obtain ⟨R, hR⟩ : ∃ R, R = s.data.toList.map fs := ⟨_, rfl⟩
 have HSL : Hid (∀ w : World, Calls Tryz.prog 79 #[.string s, .int .u8 92, .int .u8 47] w fun e w' => e = .returned (.string (strOf R)) ∧ Below w.heap.size w w') := fun w => by rw [hR]; exact iP s 92 47 w (by omega)
 have XV : Hid (∀ w : World, Calls Tryz.prog 70 #[.string (strOf R), .int .u8 47] w fun e w' => ∃ g n c, e = .returned (.slice (some ⟨g, 0, none⟩) n c) ∧ l.length = n ∧ n ≤ c ∧ c ≤ maxLen ∧ bK w' (some ⟨g, 0, none⟩) n ((l.map strOf).map Value.string) ∧ Below w.heap.size w w') := fun w => by
  have e : spl 47 (strOf R).data.toList = l := by rw [hll, hR]; exact U9 s.data.toList
  have h := qY (strOf R) w (by rw [ah, hR, List.length_map]; omega)
  rw [e] at h
  exact h.mono fun e w' h => IC h hne
 obtain ⟨a, ha⟩ : ∃ a, a = l.getD 0 [] := ⟨_, rfl⟩
 obtain ⟨n, hn⟩ : ∃ n, l.length = n := ⟨_, rfl⟩
 have hn0 : 0 < n := by rw [← hn]; exact List.length_pos_iff.2 hne
 rw [hn] at hlen
 have hz3 : ∀ x ∈ l.drop 3, x.length ≤ 900000 := fun x hx => hz x (List.mem_of_mem_drop hx)
 have hz2 : (l.getD 2 []).length ≤ 900000 := by
  rw [List.getD_eq_getElem?_getD]
  cases e : l[2]? with
  | none => exact Nat.zero_le _
  | some y => exact hz y (List.mem_of_getElem? e)
 obtain ⟨b, hb⟩ : ∃ b, b = l.getD 1 [] := ⟨_, rfl⟩
 obtain ⟨ho, hh⟩ : ∃ h, h = l.getD 2 [] := ⟨_, rfl⟩
 obtain ⟨x, hx⟩ : ∃ x, x = l.getD 3 [] := ⟨_, rfl⟩
 obtain ⟨L3, hL3⟩ : ∃ L, L = l.drop 3 := ⟨_, rfl⟩
 obtain ⟨wh, hwh⟩ : ∃ W, W = who ho := ⟨_, rfl⟩
 obtain ⟨W3, hW3⟩ : ∃ W, W = lS L3 := ⟨_, rfl⟩
 rw [← hL3] at hz3
 rw [← hh] at hz2
 have hON : O = if (decide (4 ≤ n) && decide (a = []) && decide (b = []) && wh && decide (x ≠ []) && W3) = true then some (ho, L3) else none := by rw [hO]; unfold Bl; rw [Ey, hn, ← ha, ← hb, ← hh, ← hx, ← hL3, ← hwh, ← hW3]
 have HWH : Hid (∀ w : World, Calls Tryz.prog 144 #[.string (strOf ho)] w fun e w' => e = .returned (.bool wh) ∧ Below w.heap.size w w') := fun w => by rw [hwh]; exact aaL (strOf ho) w (by rw [ah]; exact hz2)
 have HF3 : Hid (4 ≤ n → ∀ (A : Option Addr) (cap : Nat) (w : World), bK w A (n - 3) ((L3.map strOf).map Value.string) → Calls Tryz.prog 145 #[.slice A (n - 3) cap] w fun e w' => e = .returned (.bool W3) ∧ Below w.heap.size w w') := fun h4 A cap w hR => by
  have h := Fp A (n - 3) cap L3 w hR (by omega) hz3
  have hp : 0 < L3.length := by rw [hL3, List.length_drop]; omega
  rw [decide_eq_true hp, Bool.and_true, ← hW3] at h
  exact h
 have HC : Hid (∀ (w : World) (g m : Nat), bK w (some ⟨g, 0, none⟩) m ((l.map strOf).map Value.string) → m = n → 4 ≤ n → w.cell? ⟨g, 0, none⟩ = some (.string (strOf a)) ∧ w.cell? ⟨g, 1, none⟩ = some (.string (strOf b)) ∧ w.cell? ⟨g, 2, none⟩ = some (.string (strOf ho)) ∧ w.cell? ⟨g, 3, none⟩ = some (.string (strOf x))) := fun w g m hR e k => by
  subst e
  exact ⟨by rw [ha]; exact at_k hR 0 hn0, by rw [hb]; exact at_k hR 1 (by omega), by rw [hh]; exact at_k hR 2 (by omega), by rw [hx]; exact at_k hR 3 (by omega)⟩
 have HD3 : Hid (3 ≤ n → ∀ (w : World) (g : Nat), bK w (some ⟨g, 0, none⟩) n ((l.map strOf).map Value.string) → bK w (some ⟨g, 3, none⟩) (n - 3) ((L3.map strOf).map Value.string)) := fun hk w g hR => by
  have := hR.cut 3 hk
  rw [hL3, List.map_drop, List.map_drop]
  exact this
 have HLL3 : Hid (L3.length = n - 3) := by show _ = _; rw [hL3, List.length_drop, hn]
 have HO := hid hON
 have HN := hid hn
 have zO := hid hlen
 clear hl hO hll hne hlen hz hR hs hz3 hz2 ha hb hh hx hL3 hwh hW3 hn hON
 go_enter Tryz.func77, Tryz.ntmps77
 go_wp2_with fail
 refine (HSL.out _).mono ?_
 rintro e w2 ⟨rfl, hb⟩
 have HB2 := hid hb
 clear hb
 go_wp2_with fail
 refine (XV.out _).mono ?_
 rintro e w3 ⟨g3, n3, c3, rfl, hn3, hnc, hcm, hR, hb⟩
 have HB3 := hid (bel HB2.out hb)
 obtain rfl : n3 = n := by rw [← hn3]; exact HN.out
 have HR3 := hid hR
 clear hb hR hn3
 have hl9 := zO.out
 unfold maxLen at hcm
 by_cases h4 : 4 ≤ n3
 ·obtain ⟨hc0, hc1, hc2, hc3⟩ := HC.out w3 _ _ HR3.out rfl h4
  have h4I : ¬ (n3 : Int) < 4 := by omega
  have h0J : (0 : Int) < (n3 : Int) := by omega
  have h1J : (1 : Int) < (n3 : Int) := by omega
  have h2J : (2 : Int) < (n3 : Int) := by omega
  have h3J : (3 : Int) < (n3 : Int) := by omega
  by_cases ha : a = []
  ·have q0 : (strOf a).toList = [] := by rw [tl]; exact ha
   have q0' : ((strOf a).toList == []) = true := by rw [q0]; rfl
   by_cases hb : b = []
   ·have q1 : (strOf b).toList = [] := by rw [tl]; exact hb
    have q1' : ((strOf b).toList == []) = true := by rw [q1]; rfl
    by_cases hx : x = []
    ·have q3 : (strOf x).toList = [] := by rw [tl]; exact hx
     have q3' : ((strOf x).toList == []) = true := by rw [q3]; rfl
     have xC : Hid (O = none) := by show _ = _; rw [HO.out, decide_eq_false (p := x ≠ []) (fun h => h hx)]; simp
     clear ha hb hx
     go_wp2
     go_ret3
     exact jZ xC.out HB3.out
    ·have q3 : ((strOf x).toList == []) = false := by rw [tl, beq_eq_false_iff_ne]; exact hx
     have q3' : (strOf x).toList.isEmpty = false := by rw [tl]; simpa [strOf] using hx
     have jQ : Hid (O = if (wh && W3) = true then some (ho, L3) else none) := by show _ = _; rw [HO.out, decide_eq_true h4, decide_eq_true ha, decide_eq_true hb, decide_eq_true hx]; simp
     clear ha hb hx
     cases wh with
     | false =>
      have xC : Hid (O = none) := by show _ = _; rw [jQ.out]; rfl
      go_wp2_with fail
      refine (HWH.out _).mono ?_
      rintro e w4 ⟨rfl, hb⟩
      have HB4 := hid (bel HB3.out hb)
      clear hb hc0 hc1 hc2 hc3
      go_wp2
      go_ret3
      exact jZ xC.out HB4.out
     | true =>
      go_wp2_with fail
      refine (HWH.out _).mono ?_
      rintro e w4 ⟨rfl, hb⟩
      have HB4 := hid (bel HB3.out hb)
      have HR4 := hid (HR3.out.below hb)
      clear hb hc0 hc1 hc2 hc3
      go_wp2_with fail
      refine (HF3.out h4 _ _ _ (HD3.out (by omega) _ _ HR4.out)).mono ?_
      rintro e w5 ⟨rfl, hb⟩
      have rE := hid (bel HB4.out hb)
      have HR5 := hid (HR4.out.below hb)
      clear hb
      cases W3 with
      | false =>
       have xC : Hid (O = none) := by show _ = _; rw [jQ.out]; rfl
       go_wp2
       go_ret3
       exact jZ xC.out rE.out
      | true =>
       have xC : Hid (O = some (ho, L3)) := by show _ = _; rw [jQ.out]; rfl
       go_upto_region 4 with (fail)
       refine bW (by kernel_rfl) [is (.slice (some ⟨g3, 0, none⟩) n3 c3), is (.pointer (some ⟨g3, 2, none⟩)), is (.string (strOf ho)), is (.slice (some ⟨g3, 0, none⟩) n3 c3), is (.slice (some ⟨g3, 3, none⟩) (n3 - 3) (c3 - 3)), is (.string (strOf ho)), is (.slice (some ⟨g3, 3, none⟩) (n3 - 3) (c3 - 3)), is (.bool true)] [[], [0], [1], [], [3], [2], [4], []] (by kernel_rfl) ?_ ?_
       ·refine ⟨?_, ?_, ?_, ?_, ?_, ?_, ?_, ?_, trivial⟩
        all_goals (intro t wq hbq hh K hK; simp only [filled, upd, Have, is, any, row, pick, Act.put, List.setIfInBounds_toArray, List.set_cons_zero, List.set_cons_succ, Nat.reduceAdd, Nat.reduceEqDiff, reduceIte, List.tail_cons, List.headD_cons] at hh hK ⊢; (try simp only [hh] at hK ⊢); try clear hh)
        iterate 2 · go_simp; exact hK _ _ (Below.refl _ _) rfl
        ·obtain ⟨hd0, hd1, hd2, hd3⟩ := HC.out wq _ _ (HR5.out.below hbq) rfl (by omega); go_simp; exact hK _ _ (Below.refl _ _) rfl
        iterate 5 · go_simp; exact hK _ _ (Below.refl _ _) rfl
       ·intro t wq hbq hh
        have f5 := aG hh 5 (by decide)
        simp only [pick] at f5
        replace f5 : t 5 = (.string (strOf ho)) := f5
        have f6 := aG hh 6 (by decide)
        simp only [pick] at f6
        replace f6 : t 6 = (.slice (some ⟨g3, 3, none⟩) (n3 - 3) (c3 - 3)) := f6
        have f7 := aG hh 7 (by decide)
        simp only [pick] at f7
        replace f7 : t 7 = (.bool true) := f7
        clear hh
        simp only [filled, upd, Have, is, any, row, pick, Act.put, List.setIfInBounds_toArray, List.set_cons_zero, List.set_cons_succ, Nat.reduceAdd, Nat.reduceEqDiff, reduceIte]
        simp only [f5, f6, f7]
        have AU := hid (bel rE.out hbq)
        have X4 := hid (HR5.out.below hbq)
        clear hbq
        go_wp2
        go_ret3
        exact J8 xC.out AU.out HLL3.out (by omega) (by unfold maxLen; omega) (HD3.out (by omega) _ _ X4.out)
   ·have q1 : ((strOf b).toList == []) = false := by rw [tl, beq_eq_false_iff_ne]; exact hb
    have q1' : (strOf b).toList.isEmpty = false := by rw [tl]; simpa [strOf] using hb
    have xC : Hid (O = none) := by show _ = _; rw [HO.out, decide_eq_false hb]; simp
    clear ha hb
    go_wp2
    go_ret3
    exact jZ xC.out HB3.out
  ·have q0 : ((strOf a).toList == []) = false := by rw [tl, beq_eq_false_iff_ne]; exact ha
   have q0' : (strOf a).toList.isEmpty = false := by rw [tl]; simpa [strOf] using ha
   have xC : Hid (O = none) := by show _ = _; rw [HO.out, decide_eq_false ha]; simp
   clear ha
   go_wp2
   go_ret3
   exact jZ xC.out HB3.out
 ·have h4I : (n3 : Int) < 4 := by omega
  have xC : Hid (O = none) := by show _ = _; rw [HO.out, decide_eq_false h4]; rfl
  go_wp2
  go_ret3
  exact jZ xC.out HB3.out
theorem uf (s : ByteArray) (w : World) (hs : s.size ≤ 900000) : Calls Tryz.prog 37 #[.string s] w fun e w' => e = .returned (.bool (jc s.data.toList)) ∧ Below w.heap.size w w' := by
 obtain ⟨l, hll⟩ : ∃ l, l = gJ s.data.toList := ⟨_, rfl⟩
 have HF : Hid (∀ w : World, Calls Tryz.prog 77 #[.string s] w (VA w (Bl l))) := fun w => by rw [hll]; exact F9 s w hs
 have HN : Hid (∀ w : World, Calls Tryz.prog 78 #[.string s] w (VA w (uw l))) := fun w => by rw [hll]; exact yC s w hs
 have e : jc s.data.toList = (near l || far l) := by rw [hll]; rfl
 rw [e]
 clear hll e
 have hfn : far l = false → Bl l = none := fun h => by unfold Bl; rw [h, if_neg (by decide)]
 have hfs : far l = true → Bl l = some (l.getD 2 [], l.drop 3) := fun h => by unfold Bl; rw [h, if_pos rfl]
 have hnn : near l = false → uw l = none := fun h => by unfold uw; rw [h, if_neg (by decide)]
 have hns : near l = true → uw l = some (l.getD 0 [], l.drop 1) := fun h => by unfold uw; rw [h, if_pos rfl]
 obtain ⟨f, hf⟩ : ∃ f, f = far l := ⟨_, rfl⟩
 obtain ⟨k, hk⟩ : ∃ k, k = near l := ⟨_, rfl⟩
 rw [← hf] at hfn hfs ⊢
 rw [← hk] at hnn hns ⊢
 obtain ⟨OF, hOF⟩ : ∃ o, o = Bl l := ⟨_, rfl⟩
 obtain ⟨ON, hON⟩ : ∃ o, o = uw l := ⟨_, rfl⟩
 rw [← hOF] at hfn hfs HF
 rw [← hON] at hnn hns HN
 generalize l.getD 2 [] = d2 at hfs
 generalize l.drop 3 = l3 at hfs
 generalize l.getD 0 [] = d0 at hns
 generalize l.drop 1 = l1 at hns
 clear hf hk hOF hON
 cases f with
 | false =>
  obtain rfl := hfn rfl
  cases k with
  | false =>
   obtain rfl := hnn rfl
   clear hfn hfs hnn hns
   go_enter Tryz.func37, Tryz.ntmps37
   go_wp2_with fail
   refine (HF.out _).mono ?_
   rintro e w2 ⟨hb, rfl⟩
   have HB2 := hid hb
   clear hb
   go_wp2_with fail
   refine (HN.out _).mono ?_
   rintro e w3 ⟨hb, rfl⟩
   have HB3 := hid (bel HB2.out hb)
   clear hb
   go_wp2
   go_ret
   exact ⟨rfl, HB3.out⟩
  | true =>
   obtain rfl := hns rfl
   clear hfn hfs hnn hns
   go_enter Tryz.func37, Tryz.ntmps37
   go_wp2_with fail
   refine (HF.out _).mono ?_
   rintro e w2 ⟨hb, rfl⟩
   have HB2 := hid hb
   clear hb
   go_wp2_with fail
   refine (HN.out _).mono ?_
   rintro e w3 ⟨hb, A, n, c, rfl, h1, h2, h3, h4⟩
   have HB3 := hid (bel HB2.out hb)
   clear hb h1 h2 h3 h4
   go_wp2
   go_ret
   exact ⟨rfl, HB3.out⟩
 | true =>
  obtain rfl := hfs rfl
  cases k with
  | false =>
   obtain rfl := hnn rfl
   clear hfn hfs hnn hns
   go_enter Tryz.func37, Tryz.ntmps37
   go_wp2_with fail
   refine (HF.out _).mono ?_
   rintro e w2 ⟨hb, A, n, c, rfl, h1, h2, h3, h4⟩
   have HB2 := hid hb
   clear hb h1 h2 h3 h4
   go_wp2_with fail
   refine (HN.out _).mono ?_
   rintro e w3 ⟨hb, rfl⟩
   have HB3 := hid (bel HB2.out hb)
   clear hb
   go_wp2
   go_ret
   exact ⟨rfl, HB3.out⟩
  | true =>
   obtain rfl := hns rfl
   clear hfn hfs hnn hns
   go_enter Tryz.func37, Tryz.ntmps37
   go_wp2_with fail
   refine (HF.out _).mono ?_
   rintro e w2 ⟨hb, A, n, c, rfl, h1, h2, h3, h4⟩
   have HB2 := hid hb
   clear hb h1 h2 h3 h4
   go_wp2_with fail
   refine (HN.out _).mono ?_
   rintro e w3 ⟨hb, A, n, c, rfl, h1, h2, h3, h4⟩
   have HB3 := hid (bel HB2.out hb)
   clear hb h1 h2 h3 h4
   go_wp2
   go_ret
   exact ⟨rfl, HB3.out⟩
end Go.Proofs.YtmdofbccebkbiaaGreatDoor.Rn
