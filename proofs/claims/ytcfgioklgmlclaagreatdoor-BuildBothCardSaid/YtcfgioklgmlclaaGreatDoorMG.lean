/- Texts that belong together: xX, tq, Ej, tZ, Pbx. -/
import Derived.Test.YtcfgioklgmlclaaGreatDoorM1
import Derived.Test.YtcfgioklgmlclaaGreatDoorME
import Derived.Test.YtcfgioklgmlclaaGreatDoorMA
import Derived.Lib.LastIndexByte
import Derived.OwnWalk
set_option linter.unusedSimpArgs false
set_option linter.unusedVariables false
set_option maxRecDepth 100000
set_option maxHeartbeats 64000000
namespace Go.Proofs.YtcfgioklgmlclaaGreatDoor.xX
open Go.RowKit Base fZ aP fE pV pU qM Qy ng aH
theorem dl (s : ByteArray) : s.data.toList.length = s.size := Array.length_toList
theorem ext_left (s : ByteArray) (k : Nat) : (s.extract 0 k).data.toList = s.data.toList.take k := by
 rw [ByteArray.data_extract]
 simp [Array.toList_extract, List.extract_eq_take_drop]
theorem ext_right (s : ByteArray) (k : Nat) : (s.extract k s.size).data.toList = s.data.toList.drop k := by
 rw [ByteArray.data_extract]
 simp only [Array.toList_extract, List.extract_eq_take_drop]
 rw [List.take_of_length_le]
 rw [List.length_drop, dl]
 omega
theorem JB (s : ByteArray) (k : Nat) : s.extract 0 k = strOf (s.data.toList.take k) := by rw [← ext_left, ay]
theorem kP (s : ByteArray) (k : Nat) : s.extract k s.size = strOf (s.data.toList.drop k) := by rw [← ext_right, ay]
theorem ix (sp : Bool) (c : UInt8) : decide (0 ≤ Lib.indexByte (chs sp) c) = fP sp c := by
 have H : ∀ (sp : Bool) (n : Fin 256), decide (0 ≤ Lib.indexByte (chs sp) (UInt8.ofNat n.val)) = fP sp (UInt8.ofNat n.val) := by decide +kernel
 have := H sp ⟨c.toNat, c.toNat_lt⟩
 simpa using this
theorem pK (s : ByteArray) (w : World) : Calls Tryz.prog 101 #[.string s] w fun e w' => e = .returned (.string (cs (special s.data.toList))) ∧ w' = w := by
 have hsp := fun w => jq s w
 generalize special s.data.toList = b at hsp ⊢
 have HS := hid hsp
 clear hsp
 cases b with
 | true =>
  go_enter Tryz.func101, Tryz.ntmps101
  go_wp2_with fail
  refine (HS.out _).mono ?_
  rintro e w2 ⟨rfl, rfl⟩
  go_wp2
  go_ret
  exact ⟨rfl, rfl⟩
 | false =>
  go_enter Tryz.func101, Tryz.ntmps101
  go_wp2_with fail
  refine (HS.out _).mono ?_
  rintro e w2 ⟨rfl, rfl⟩
  go_wp2
  go_ret
  exact ⟨rfl, rfl⟩
theorem isSl_at (sp : Bool) (s : List UInt8) (k : Nat) (h : k < s.length) : pq sp s k = fP sp s[k] := by
 unfold pq
 rw [List.getElem?_eq_getElem h]
theorem uO (sp : Bool) (s : List UInt8) (k : Nat) (h : ¬ k < s.length) : pq sp s k = false := by
 unfold pq
 rw [List.getElem?_eq_none (by omega)]
theorem kE (sc s : ByteArray) (k : Nat) (w : World) (hk : k ≤ 1048576) : Calls Tryz.prog 145 #[.string sc, .string s, .int .i64 (k : Int)] w fun e w' => e = .returned (.bool (pq (special sc.data.toList) s.data.toList k)) ∧ Below w.heap.size w w' := by
 have hsl := fun w => pK sc w
 generalize special sc.data.toList = b at hsl ⊢
 have HS := hid hsl
 clear hsl
 by_cases h : k < s.size
 ·obtain ⟨c, hc⟩ : ∃ c, s[k] = c := ⟨_, rfl⟩
  have hV : pq b s.data.toList k = fP b c := by
   rw [isSl_at b _ k (by rw [dl]; exact h)]
   exact congrArg (fP b) hc
  have hx := fun w => Tryz.strings_IndexByte (cs b) (c.toNat : Int) w
  have hi := ix b c
  have e : (cs b).data.toList = chs b := rfl
  have e2 : ((c.toNat : Int)).toNat.toUInt8 = c := by simp
  rw [e, e2] at hx
  rw [hV, ← hi]
  obtain ⟨z, hz⟩ : ∃ z, z = Lib.indexByte (chs b) c := ⟨_, rfl⟩
  rw [← hz] at hx ⊢
  have HX := hid hx
  have hkI : (k : Int) < (s.size : Int) := by omega
  clear hx hi e e2 hV hz
  go_enter Tryz.func145, Tryz.ntmps145
  go_upto_region 1 with (fail)
  refine dY (by kernel_rfl) [is (.int .i64 (k : Int)), is (.string s), is (.int .i64 (s.size : Int)), is (.bool true), is (.bool true), is (.string sc), is (.string (cs b)), is (.string s), is (.int .i64 (k : Int)), is (.int .u8 (c.toNat : Int)), is (.int .i64 z), is (.bool (decide (0 ≤ z))), is (.bool (decide (0 ≤ z))), is (.bool (decide (0 ≤ z)))] [[], [], [1], [0, 2], [3], [4], [4, 5], [4], [4], [4, 7, 8], [4, 6, 9], [4, 10], [4, 11], [12]] (by kernel_rfl) ?_ ?_
  ·refine ⟨?_, ?_, ?_, ?_, ?_, ?_, ?_, ?_, ?_, ?_, ?_, ?_, ?_, ?_, trivial⟩
   all_goals (intro t wq hbq hh K hK; simp only [filled, upd, Have, is, any, row, pick, Act.put, List.setIfInBounds_toArray, List.set_cons_zero, List.set_cons_succ, Nat.reduceAdd, Nat.reduceEqDiff, reduceIte, List.tail_cons, List.headD_cons] at hh hK ⊢; (try simp only [hh] at hK ⊢); try clear hh)
   iterate 3 · go_simp; exact hK _ _ (Below.refl _ _) rfl
   ·go_simp; first | exact hK _ _ (Below.refl _ _) rfl | exact hK _ _ (Below.refl _ _) (iU (by omega) (by omega))
   iterate 2 · go_simp; exact hK _ _ (Below.refl _ _) rfl
   ·go_simp; refine (HS.out _).mono ?_; rintro e w2 ⟨rfl, hw2⟩; subst hw2; exact hK _ _ (Below.refl _ _) rfl
   iterate 3 · go_simp; exact hK _ _ (Below.refl _ _) rfl
   ·go_simp; refine (HX.out _).mono ?_; rintro e w2 ⟨rfl, hw2⟩; subst hw2; exact hK _ _ (Below.refl _ _) rfl
   ·go_simp; first | exact hK _ _ (Below.refl _ _) rfl | exact hK _ _ (Below.refl _ _) (iU (by omega) (by omega))
   iterate 2 · go_simp; exact hK _ _ (Below.refl _ _) rfl
  ·intro t wq hbq hh
   have f13 := aS hh 13 (by decide)
   simp only [pick] at f13
   replace f13 : t 13 = (.bool (decide (0 ≤ z))) := f13
   clear hh
   simp only [filled, upd, Have, is, any, row, pick, Act.put, List.setIfInBounds_toArray, List.set_cons_zero, List.set_cons_succ, Nat.reduceAdd, Nat.reduceEqDiff, reduceIte]
   simp only [f13]
   go_wp2
   go_ret
   exact ⟨rfl, hbq⟩
 ·have hV : pq b s.data.toList k = false := uO b _ k (by rw [dl]; exact h)
  have hkI : ¬ (k : Int) < (s.size : Int) := by omega
  rw [hV]
  clear hV h
  go_enter Tryz.func145, Tryz.ntmps145
  go_upto_region 1 with (fail)
  refine dY (by kernel_rfl) [is (.int .i64 (k : Int)), is (.string s), is (.int .i64 (s.size : Int)), is (.bool false), is (.bool false), is (undef), is (undef), is (undef), is (undef), is (undef), is (undef), is (undef), is (.bool false), is (.bool false)] [[], [], [1], [0, 2], [3], [4], [4, 5], [4], [4], [4, 7, 8], [4, 6, 9], [4, 10], [4, 11], [12]] (by kernel_rfl) ?_ ?_
  ·refine ⟨?_, ?_, ?_, ?_, ?_, ?_, ?_, ?_, ?_, ?_, ?_, ?_, ?_, ?_, trivial⟩
   all_goals (intro t wq hbq hh K hK; simp only [filled, upd, Have, is, any, row, pick, Act.put, List.setIfInBounds_toArray, List.set_cons_zero, List.set_cons_succ, Nat.reduceAdd, Nat.reduceEqDiff, reduceIte, List.tail_cons, List.headD_cons] at hh hK ⊢; (try simp only [hh] at hK ⊢); try clear hh)
   iterate 3 · go_simp; exact hK _ _ (Below.refl _ _) rfl
   ·go_simp; first | exact hK _ _ (Below.refl _ _) rfl | exact hK _ _ (Below.refl _ _) (iU (by omega) (by omega))
   iterate 7 · go_simp; exact hK _ _ (Below.refl _ _) rfl
   ·go_simp; first | exact hK _ _ (Below.refl _ _) rfl | exact hK _ _ (Below.refl _ _) (iU (by omega) (by omega))
   iterate 2 · go_simp; exact hK _ _ (Below.refl _ _) rfl
  ·intro t wq hbq hh
   have f13 := aS hh 13 (by decide)
   simp only [pick] at f13
   replace f13 : t 13 = (.bool false) := f13
   clear hh
   simp only [filled, upd, Have, is, any, row, pick, Act.put, List.setIfInBounds_toArray, List.set_cons_zero, List.set_cons_succ, Nat.reduceAdd, Nat.reduceEqDiff, reduceIte]
   simp only [f13]
   go_wp2
   go_ret
   exact ⟨rfl, hbq⟩
theorem MO (sc s : ByteArray) (w : World) (hs : s.size ≤ 1073741824) : Calls Tryz.prog 155 #[.string sc, .string s] w fun e w' => e = .returned (.tuple #[.string (strOf (s.data.toList.take (upto (special sc.data.toList) s.data.toList))), .string (strOf (s.data.toList.drop (upto (special sc.data.toList) s.data.toList)))]) ∧ Below w.heap.size w w' := by
 have hsl := fun w => pK sc w
 generalize special sc.data.toList = b at hsl ⊢
 have hx := fun w => Uy b s w hs
 obtain ⟨k, hk⟩ : ∃ k, k = upto b s.data.toList := ⟨_, rfl⟩
 have hle := Gv b s.data.toList
 rw [dl] at hle
 rw [← hk] at hx hle ⊢
 obtain ⟨P, hP⟩ : ∃ P, P = strOf (s.data.toList.take k) := ⟨_, rfl⟩
 obtain ⟨R, hR⟩ : ∃ P, P = strOf (s.data.toList.drop k) := ⟨_, rfl⟩
 rw [← hP, ← hR]
 have h1 : s.extract 0 k = P := by rw [JB, hP]
 have h2 : s.extract k s.size = R := by rw [kP, hR]
 have HS := hid hsl
 by_cases h : k < s.size
 ·rw [if_pos h] at hx
  have HX := hid hx
  have hk0 : ¬ ((k : Int) < 0) := by omega
  clear hsl hx hk hP hR
  go_enter Tryz.func155, Tryz.ntmps155
  go_wp2_with fail
  refine (HS.out _).mono ?_
  rintro e w2 ⟨rfl, rfl⟩
  go_wp2_with fail
  refine (HX.out _).mono ?_
  rintro e w3 ⟨rfl, hb3⟩
  have hkI : (k : Int) ≤ (s.size : Int) := by omega
  have hkn : (0 : Int) ≤ (k : Int) := by omega
  go_upto_region 4 with (fail)
  refine dY (by kernel_rfl) [is (.string s), is (.int .i64 (k : Int)), is (.string P), is (.string s), is (.int .i64 (k : Int)), is (.string R), is (.string P), is (.string R)] [[], [], [0, 1], [], [], [3, 4], [2], [5]] (by kernel_rfl) ?_ ?_
  ·refine ⟨?_, ?_, ?_, ?_, ?_, ?_, ?_, ?_, trivial⟩
   all_goals (intro t wq hbq hh K hK; simp only [filled, upd, Have, is, any, row, pick, Act.put, List.setIfInBounds_toArray, List.set_cons_zero, List.set_cons_succ, Nat.reduceAdd, Nat.reduceEqDiff, reduceIte, List.tail_cons, List.headD_cons] at hh hK ⊢; (try simp only [hh] at hK ⊢); try clear hh)
   iterate 2 · go_simp; exact hK _ _ (Below.refl _ _) rfl
   ·have hx := h1; go_simp; exact hK _ _ (Below.refl _ _) rfl
   iterate 2 · go_simp; exact hK _ _ (Below.refl _ _) rfl
   ·have hx := h2; go_simp; exact hK _ _ (Below.refl _ _) rfl
   iterate 2 · go_simp; exact hK _ _ (Below.refl _ _) rfl
  ·intro t wq hbq hh
   have f6 := aS hh 6 (by decide)
   simp only [pick] at f6
   replace f6 : t 6 = (.string P) := f6
   have f7 := aS hh 7 (by decide)
   simp only [pick] at f7
   replace f7 : t 7 = (.string R) := f7
   clear hh
   simp only [filled, upd, Have, is, any, row, pick, Act.put, List.setIfInBounds_toArray, List.set_cons_zero, List.set_cons_succ, Nat.reduceAdd, Nat.reduceEqDiff, reduceIte]
   simp only [f6, f7]
   go_wp2
   go_ret2
   exact ⟨rfl, bel hb3 hbq⟩
 ·rw [if_neg h] at hx
  have HX := hid hx
  have hke : k = s.size := by omega
  have h3 : P = s := by rw [hP, hke, List.take_of_length_le (by rw [dl]; exact Nat.le_refl _), ay]
  have h4 : R = ⟨#[]⟩ := by rw [hR, hke, List.drop_of_length_le (by rw [dl]; exact Nat.le_refl _)]; rfl
  rw [h3, h4]
  clear hsl hx hk hP hR h1 h2 h3 h4 h hke hle
  go_enter Tryz.func155, Tryz.ntmps155
  go_wp2_with fail
  refine (HS.out _).mono ?_
  rintro e w2 ⟨rfl, rfl⟩
  go_wp2_with fail
  refine (HX.out _).mono ?_
  rintro e w3 ⟨rfl, hb3⟩
  go_wp2
  go_ret2
  exact ⟨rfl, hb3⟩
theorem walk_any (sc : ByteArray) (A : Option Addr) (n cap : Nat) (l : List ByteArray) (s : ByteArray) (w : World) (hR : dS w A n (l.map Value.string)) (hnc : n ≤ cap) (hcm : cap ≤ maxLen) (hm : n + s.size ≤ 900000) :
  Calls Tryz.prog 152 #[.string sc, .slice A n cap, .string s] w (jT w.heap.size w (walk sc.data.toList l s.data.toList)) := by
 have hq := Yw sc
 obtain ⟨b, hb⟩ : ∃ b, b = decide (sc.data.toList = FILE) := ⟨_, rfl⟩
 rw [← hb] at hq
 have hsp := fun w => jq sc w
 obtain ⟨c, hc⟩ : ∃ c, c = special sc.data.toList := ⟨_, rfl⟩
 rw [← hc] at hsp
 have HS := hid hsp
 have hV : walk sc.data.toList l s.data.toList = wb b c l [] s.data.toList := by unfold walk; rw [← hb, ← hc]
 rw [hV]
 have HW := hid (Qy.walk_any b c A n cap l s w hR hnc hcm hm)
 generalize wb b c l [] s.data.toList = L at HW ⊢
 clear hb hc hsp hV hR
 go_enter Tryz.func152, Tryz.ntmps152
 go_wp2_with fail
 refine (HS.out _).mono ?_
 rintro e w2 ⟨rfl, rfl⟩
 go_wp2_with fail
 refine (HW.out).mono ?_
 rintro e w3 ⟨v, rfl, ho, hb3⟩
 have HO := hid ho
 clear ho
 go_wp2
 go_ret
 exact ⟨v, rfl, HO.out, hb3⟩
where
 Yw (sc : ByteArray) : (sc.toList == [102, 105, 108, 101]) = decide (sc.data.toList = FILE) := by
  rw [Lib.toList_data, Bool.eq_iff_iff]
  exact ⟨fun h => decide_eq_true (beq_iff_eq.1 h), fun h => beq_iff_eq.2 (of_decide_eq_true h)⟩
theorem wM (sc s : ByteArray) (w : World) (hs : s.size ≤ 900000) : Calls Tryz.prog 154 #[.string sc, .string s] w (jT w.heap.size w (rooted sc.data.toList s.data.toList)) := by
 have hsp := fun w => jq sc w
 have hsl := fun w => kE sc s 0 w (by omega)
 obtain ⟨c, hc⟩ : ∃ c, c = special sc.data.toList := ⟨_, rfl⟩
 rw [← hc] at hsp hsl
 obtain ⟨b, hb⟩ : ∃ b, b = pq c s.data.toList 0 := ⟨_, rfl⟩
 rw [← hb] at hsl
 have Fe := hid hsp
 have HSL := hid hsl
 obtain ⟨L, hL⟩ : ∃ L, L = rooted sc.data.toList s.data.toList := ⟨_, rfl⟩
 rw [← hL]
 unfold rooted at hL
 rw [← hc, ← hb] at hL
 have GK := hid (fun (s : ByteArray) (w : World) (h : s.size ≤ 900000) => walk_any sc none 0 0 [] s w (dS.nil _) (Nat.le_refl _) (Nat.zero_le _) (by omega))
 by_cases h0 : s.data.toList = []
 ·have q0 : (s.toList == []) = true := by rw [Lib.toList_data, h0]; rfl
  have q1 : s.toList = [] := by rw [Lib.toList_data, h0]
  have hb0 : b = false := by rw [hb, h0]; rfl
  subst hb0
  cases c with
  | false =>
   have hL2 : L = [] := by rw [hL, if_pos ⟨h0, rfl⟩]
   clear hsp hsl hb hL hc h0
   go_enter Tryz.func154, Tryz.ntmps154
   go_wp2_with fail
   refine (Fe.out _).mono ?_
   rintro e w2 ⟨rfl, rfl⟩
   go_wp2
   go_ret
   exact ⟨_, rfl, by rw [hL2]; exact World.ownsRow_nil _ _ _ _, Below.refl _ _⟩
  | true =>
   have HL : Hid (L = walk sc.data.toList [] s.data.toList) := by show _ = _; rw [hL, if_neg (by simp), if_neg (by simp)]
   clear hsp hsl hb hL hc h0
   go_enter Tryz.func154, Tryz.ntmps154
   go_wp2_with fail
   refine (Fe.out _).mono ?_
   rintro e w2 ⟨rfl, rfl⟩
   go_wp2_with fail
   refine (HSL.out _).mono ?_
   rintro e w2 ⟨rfl, hb2⟩
   go_wp2_with fail
   refine (GK.out s _ hs).mono ?_
   rintro e w3 ⟨v, rfl, ho, hb3⟩
   rw [← HL.out] at ho
   have HO := hid ho
   clear ho
   go_wp2
   go_ret
   exact ⟨v, rfl, aF HO.out hb2.size, bel hb2 hb3⟩
 ·have q0 : (s.toList == []) = false := by rw [Lib.toList_data, beq_eq_false_iff_ne]; exact h0
  have q1 : ¬ s.toList = [] := by rw [Lib.toList_data]; exact h0
  have q2 : s.toList.isEmpty = false := by rw [Lib.toList_data]; simpa using h0
  have hlen : 1 ≤ s.size := by
   rw [← dl]
   cases e : s.data.toList with
   | nil => exact absurd e h0
   | cons c r => simp
  have h1i : (1 : Int) ≤ (s.size : Int) := by omega
  obtain ⟨X, hX⟩ : ∃ X, X = s.extract 1 s.size := ⟨_, rfl⟩
  have Gh : X.data.toList = s.data.toList.drop 1 := by rw [hX, ext_right]
  have Qd : X.size ≤ 900000 := by rw [hX, ByteArray.size_extract]; omega
  have HL : Hid (L = walk sc.data.toList [] (if b = true then X.data.toList else s.data.toList)) := by show _ = _; rw [hL, if_neg (fun h => h0 h.1), Gh]
  have HX := hid hX
  clear hsp hsl hb hL hc h0 hX Gh
  cases b with
  | true =>
   go_enter Tryz.func154, Tryz.ntmps154
   go_wp2_with fail
   refine (HSL.out _).mono ?_
   rintro e w2 ⟨rfl, hb2⟩
   go_wp2_with fail
   rw [← HX.out]
   refine (GK.out X _ Qd).mono ?_
   rintro e w3 ⟨v, rfl, ho, hb3⟩
   have HO : Hid (w3.ownsRow w2.heap.size 9 1 v L.length (L.map Value.string)) := by show World.ownsRow _ _ _ _ _ _ _; rw [HL.out]; first | (rw [if_pos rfl]; exact ho) | (rw [if_pos trivial]; exact ho)
   clear ho
   go_wp2
   go_ret
   exact ⟨v, rfl, aF HO.out hb2.size, bel hb2 hb3⟩
  | false =>
   go_enter Tryz.func154, Tryz.ntmps154
   go_wp2_with fail
   refine (HSL.out _).mono ?_
   rintro e w2 ⟨rfl, hb2⟩
   go_wp2_with fail
   refine (GK.out s _ hs).mono ?_
   rintro e w3 ⟨v, rfl, ho, hb3⟩
   have HO : Hid (w3.ownsRow w2.heap.size 9 1 v L.length (L.map Value.string)) := by show World.ownsRow _ _ _ _ _ _ _; rw [HL.out]; first | (rw [if_neg (by simp)]; exact ho) | (simpa using ho)
   clear ho
   go_wp2
   go_ret
   exact ⟨v, rfl, aF HO.out hb2.size, bel hb2 hb3⟩
end Go.Proofs.YtcfgioklgmlclaaGreatDoor.xX
namespace Go.Proofs.YtcfgioklgmlclaaGreatDoor.tq
open Go.RowKit Base aP eX fE ng aH xX
theorem sF : ∀ L : List UInt8, lS L = none ↔ ∀ c ∈ L, c ≠ 64
 | [] => by simp [lS]
 | c :: L => by
  have ih := sF L
  unfold lS
  cases h : lS L with
  | some p =>
   constructor
   ·intro e; cases e
   ·intro e
    rw [h] at ih
    have := ih.2 fun d hd => e d (by simp [hd])
    cases this
  | none =>
   rw [h] at ih
   have hno := ih.1 rfl
   by_cases hc : c = 64
   ·rw [if_pos hc]
    constructor
    ·intro e; cases e
    ·intro e; exact absurd hc (e c (by simp))
   ·rw [if_neg hc]
    constructor
    ·intro _ d hd
     rcases List.mem_cons.1 hd with rfl | hd
     ·exact hc
     ·exact hno d hd
    ·intro _; rfl
theorem Bh (a r : List UInt8) (h : ∀ c ∈ r, c ≠ 64) : lS (a ++ 64 :: r) = some (a, r) := by
 induction a with
 | nil =>
  show lS (64 :: r) = _
  unfold lS
  rw [(sF r).2 h]
  rfl
 | cons c a ih =>
  show lS (c :: (a ++ 64 :: r)) = _
  unfold lS
  rw [ih]
theorem NP (s : ByteArray) (j : Nat) (h : j < s.data.toList.length) : s.data[j]! = s.data.toList[j] := by
 rw [getElem!_pos s.data j (by simpa using h)]
 simp
theorem Zi (s : ByteArray) : (Lib.lastIndexByte s 64 = -1 ∧ lS s.data.toList = none) ∨ ∃ k : Nat, k < s.size ∧ Lib.lastIndexByte s 64 = (k : Int) ∧ lS s.data.toList = some (s.data.toList.take k, s.data.toList.drop (k + 1)) := by
 rcases Lib.lastIdx_spec s 64 s.size with ⟨h1, h2⟩ | ⟨k, hk, h1, h2, h3⟩
 ·refine .inl ⟨h1, (sF _).2 fun c hc => ?_⟩
  obtain ⟨j, hj, rfl⟩ := List.getElem_of_mem hc
  have := h2 j (by rw [← dl]; exact hj)
  rw [NP s j hj] at this
  intro e
  rw [e] at this
  exact this rfl
 ·refine .inr ⟨k, hk, h1, ?_⟩
  have hkl : k < s.data.toList.length := by rw [dl]; exact hk
  rw [NP s k hkl] at h2
  have h64 : s.data.toList[k] = 64 := UInt8.toNat_inj.1 (by show _ = 64; omega)
  have hs : s.data.toList = s.data.toList.take k ++ 64 :: s.data.toList.drop (k + 1) := by
   rw [← h64, ← List.drop_eq_getElem_cons hkl, List.take_append_drop]
  conv => lhs; rw [hs]
  refine Bh _ _ fun c hc => ?_
  obtain ⟨j, hj, rfl⟩ := List.getElem_of_mem hc
  rw [List.length_drop] at hj
  rw [List.getElem_drop]
  have := h3 (k + 1 + j) (by omega) (by rw [← dl]; omega)
  rw [NP s _ (by omega)] at this
  intro e
  rw [e] at this
  exact this rfl
def qQ (s : List UInt8) (k : Nat) (i : Bool) : List UInt8 × List UInt8 × Bool := (s.take k ++ (hap i (s.drop k)).1, (hap i (s.drop k)).2.1, (hap i (s.drop k)).2.2)
theorem U3 (s : List UInt8) : qQ s 0 false = hap false s := by simp [qQ]
theorem YZ (s : List UInt8) (i : Bool) : qQ s s.length i = (s, [], false) := by
 unfold qQ
 rw [List.drop_length, List.take_length]
 simp [hap]
theorem U2 (s : List UInt8) (k : Nat) (h : k < s.length) (hc : s[k] = 58) : qQ s k false = (s.take k, s.drop (k + 1), true) := by
 unfold qQ
 rw [List.drop_eq_getElem_cons h, hc, hap, if_pos ⟨rfl, rfl⟩]
 simp
theorem Dx (s : List UInt8) (k : Nat) (i : Bool) (h : k < s.length) (hc : ¬ (s[k] = 58 ∧ i = false)) : qQ s k i = qQ s (k + 1) (if s[k] = 91 then true else if s[k] = 93 then false else i) := by
 unfold qQ
 rw [List.drop_eq_getElem_cons h, hap, if_neg hc, List.take_succ_eq_append_getElem h]
 generalize (if s[k] = 91 then true else if s[k] = 93 then false else i) = b
 rw [List.append_assoc]
 rfl
theorem zu : ∀ (L : List UInt8) (i : Bool), (hap i L).1.length ≤ L.length ∧ (hap i L).2.1.length ≤ L.length
 | [], i => by simp [hap]
 | c :: L, i => by
  unfold hap
  split
  ·simp
  ·have := zu L (if c = 91 then true else if c = 93 then false else i)
   generalize (if c = 91 then true else if c = 93 then false else i) = b at this ⊢
   simp only [List.length_cons]
   omega
theorem EL (d : List UInt8) (c : UInt8) : zV (d ++ [c]) = min (zV d * 10 + (c.toNat - 48)) 65536 := by simp [zV]
theorem dgt_val (c : UInt8) (h : WV c = true) : 48 ≤ c.toNat ∧ c.toNat ≤ 57 := by
 unfold WV digit at h
 have := of_decide_eq_true h
 omega
def PrtV (o : Option Int) (e : Ending) : Prop := match o with
 | some z => e = .returned (.tuple #[.int .i64 z, .bool true])
 | none => ∃ z, e = .returned (.tuple #[.int .i64 z, .bool false])
theorem prt_bad (aj d : List UInt8) (k : Nat) (h : k < d.length) (hd : WV d[k] = false) : prt aj d = none := by
 unfold prt
 rw [if_neg (by rintro rfl; simp at h), if_neg]
 intro e
 have := List.all_eq_true.1 e d[k] (List.getElem_mem h)
 rw [hd] at this
 cases this
theorem RX (aj d : List UInt8) (h : d ≠ []) (ha : d.all WV = true) : prt aj d = if (zV d : Int) = portOf aj then some (-1) else if zV d ≤ 65535 then some (zV d : Int) else none := by
 unfold prt
 rw [if_neg h, if_pos ha]
theorem Kr (d : List UInt8) (k : Nat) (h : k < d.length) : (d.take (k + 1)).all WV = ((d.take k).all WV && WV d[k]) := by
 rw [List.take_succ_eq_append_getElem h, List.all_append]
 simp
theorem I9 (d : List UInt8) (k : Nat) (h : k < d.length) : zV (d.take (k + 1)) = min (zV (d.take k) * 10 + (d[k].toNat - 48)) 65536 := by
 rw [List.take_succ_eq_append_getElem h, EL]
def l7 (s : List UInt8) (k : Nat) : Bool := match s[k]? with
 | none => true
 | some c => letter c.toNat || (decide (k ≠ 0) && Jr c)
theorem LG (s : List UInt8) : kZ s = (decide (s ≠ []) && (List.range s.length).all (l7 s)) := by
 cases s with
 | nil => rfl
 | cons c r =>
  unfold kZ
  rw [List.length_cons, List.range_succ_eq_map, List.all_cons, List.all_map]
  have h0 : l7 (c :: r) 0 = letter c.toNat := by unfold l7; simp
  rw [h0]
  simp only [ne_eq, reduceCtorEq, not_false_eq_true, decide_true, Bool.true_and]
  congr 1
  have hr : ∀ k, (l7 (c :: r) ∘ Nat.succ) k = match r[k]? with
    | none => true
    | some d => Jr d := by
   intro k
   show l7 (c :: r) (k + 1) = _
   unfold l7
   rw [List.getElem?_cons_succ]
   cases r[k]? with
   | none => rfl
   | some d =>
    simp only [ne_eq, Nat.add_eq_zero_iff, Nat.one_ne_zero, and_false, not_false_eq_true, decide_true, Bool.true_and]
    unfold Jr
    cases letter d.toNat <;> simp
  rw [Bool.eq_iff_iff, List.all_eq_true, List.all_eq_true]
  constructor
  ·intro h k hk
   rw [hr k, List.getElem?_eq_getElem (by simpa using hk)]
   exact h _ (List.getElem_mem _)
  ·intro h d hd
   obtain ⟨k, hk, rfl⟩ := List.getElem_of_mem hd
   have := h k (by simpa using hk)
   rw [hr k, List.getElem?_eq_getElem hk] at this
   exact this
theorem acO (s : List UInt8) (k : Nat) (h : k < s.length) (hb : l7 s k = false) : kZ s = false := by
 rw [LG]
 have : (List.range s.length).all (l7 s) = false := by
  cases e : (List.range s.length).all (l7 s) with
  | false => rfl
  | true =>
   have := List.all_eq_true.1 e k (by simpa using h)
   rw [hb] at this
   cases this
 rw [this, Bool.and_false]
theorem Zh (s : List UInt8) (h : ∀ k, k < s.length → l7 s k = true) : kZ s = decide (s ≠ []) := by
 rw [LG, List.all_eq_true.2 fun k hk => h k (by simpa using hk), Bool.and_true]
theorem adK (s : List UInt8) (k : Nat) (h : k < s.length) : l7 s k = (letter s[k].toNat || (decide (k ≠ 0) && Jr s[k])) := by
 unfold l7
 rw [List.getElem?_eq_getElem h]
end Go.Proofs.YtcfgioklgmlclaaGreatDoor.tq
namespace Go.Proofs.YtcfgioklgmlclaaGreatDoor.Ej
open Go.RowKit Base fZ aP eX fE ng aH xX tq
theorem NW (c k : UInt8) (h : c = k) : ((c.toNat : Int) == (k.toNat : Int)) = true := by rw [h]; simp
theorem NY (c k : UInt8) (h : c ≠ k) : ((c.toNat : Int) == (k.toNat : Int)) = false := by
 rw [beq_eq_false_iff_ne]
 intro e
 exact h (UInt8.toNat_inj.1 (by omega))
theorem wX (s : ByteArray) (w : World) (hs : s.size ≤ 1073741824) : Calls Tryz.prog 157 #[.string s] w fun e w' => e = .returned (.tuple #[.string (strOf (hap false s.data.toList).1), .string (strOf (hap false s.data.toList).2.1), .bool (hap false s.data.toList).2.2]) ∧ Below w.heap.size w w' := by
 obtain ⟨T, hT⟩ : ∃ T, T = hap false s.data.toList := ⟨_, rfl⟩
 rw [← hT]
 have HT0 : Hid (qQ s.data.toList 0 false = T) := by show _ = _; rw [U3, hT]
 clear hT
 go_enter Tryz.func157, Tryz.ntmps157
 go_wp2
 go_loopw [5, 6] (fun vi vk wr => ∃ (k : Nat) (i : Bool), k ≤ s.size ∧ vk = .int .i64 (k : Int) ∧ vi = .bool i ∧ wr = w ∧ Hid (qQ s.data.toList k i = T)) (fun _ vk _ => s.size - (intOf vk).toNat)
 case atStart => exact ⟨0, false, Nat.zero_le _, rfl, rfl, rfl, HT0.out⟩
 case round =>
  obtain ⟨k, i, hk, rfl, rfl, hwr, HT⟩ := hrel
  subst hwr
  by_cases hlt : k < s.size
  ·obtain ⟨c, hc⟩ : ∃ c, s[k] = c := ⟨_, rfl⟩
   have hkl : k < s.data.toList.length := by rw [dl]; exact hlt
   have hcl : s.data.toList[k] = c := hc
   by_cases UY : c = 91
   ·have q1 : ((c.toNat : Int) == 91) = true := NW c 91 UY
    have HN : Hid (qQ s.data.toList (k + 1) true = T) := by
     show _ = _
     rw [← HT.out, Dx _ k i hkl (by rw [hcl, UY]; simp), hcl, if_pos UY]
    clear hkl hcl UY
    go_wp2
    go_roundw
    case rel => exact ⟨k + 1, true, by omega, by go_num, rfl, by first | rfl | trivial, HN.out⟩
    case measure => simp [intOf]; omega
   ·have q1 : ((c.toNat : Int) == 91) = false := NY c 91 UY
    by_cases h93 : c = 93
    ·have q2 : ((c.toNat : Int) == 93) = true := NW c 93 h93
     have HN : Hid (qQ s.data.toList (k + 1) false = T) := by
      show _ = _
      rw [← HT.out, Dx _ k i hkl (by rw [hcl, h93]; simp), hcl, if_neg UY, if_pos h93]
     clear hkl hcl UY h93
     go_wp2
     go_roundw
     case rel => exact ⟨k + 1, false, by omega, by go_num, rfl, by first | rfl | trivial, HN.out⟩
     case measure => simp [intOf]; omega
    ·have q2 : ((c.toNat : Int) == 93) = false := NY c 93 h93
     by_cases h58 : c = 58
     ·have q3 : ((c.toNat : Int) == 58) = true := NW c 58 h58
      cases i with
      | false =>
       have HE : Hid (T = (s.data.toList.take k, s.data.toList.drop (k + 1), true)) := by
        show _ = _
        rw [← HT.out, U2 _ k hkl (by rw [hcl, h58])]
       obtain ⟨P, hPP⟩ : ∃ P, P = strOf (s.data.toList.take k) := ⟨_, rfl⟩
       obtain ⟨Q, hQQ⟩ : ∃ P, P = strOf (s.data.toList.drop (k + 1)) := ⟨_, rfl⟩
       have e1 : s.extract 0 k = P := by rw [hPP]; exact JB s k
       have e2 : s.extract (k + 1) s.size = Q := by rw [hQQ]; exact kP s (k + 1)
       have HPP := hid hPP
       have Uf := hid hQQ
       clear hPP hQQ
       have hk1 : (k : Int) + 1 ≤ (s.size : Int) := by omega
       have hkI : (k : Int) ≤ (s.size : Int) := by omega
       have hk0 : k ≤ s.size := hk
       have hkt : ((k : Int) + 1).toNat = k + 1 := by omega
       clear hkl hcl UY h93 h58
       go_upto_region 10 with (fail)
       refine dY (by kernel_rfl) [is (.string s), is (.int .i64 (k : Int)), is (.string P), is (.string s), is (.int .i64 (k : Int)), is (.int .i64 ((k : Int) + 1)), is (.string Q), is (.string P), is (.string Q), is (.bool true)] [[], [], [0, 1], [], [], [4], [3, 5], [2], [6], []] (by kernel_rfl) ?_ ?_
       ·refine ⟨?_, ?_, ?_, ?_, ?_, ?_, ?_, ?_, ?_, ?_, trivial⟩
        all_goals (intro t wq hbq hh K hK; simp only [filled, upd, Have, is, any, row, pick, Act.put, List.setIfInBounds_toArray, List.set_cons_zero, List.set_cons_succ, Nat.reduceAdd, Nat.reduceEqDiff, reduceIte, List.tail_cons, List.headD_cons] at hh hK ⊢)
        iterate 2 · (try clear hh); go_simp; exact hK _ _ (Below.refl _ _) rfl
        ·have e1 : t 1 = (.int .i64 (k : Int)) := hh.2.1; simp only [hh, e1] at hK ⊢; clear hh; have hx := e1; go_simp; exact hK _ _ (Below.refl _ _) rfl
        iterate 2 · (try clear hh); go_simp; exact hK _ _ (Below.refl _ _) rfl
        ·simp only [hh] at hK ⊢; clear hh; go_simp; first | exact hK _ _ (Below.refl _ _) rfl | exact hK _ _ (Below.refl _ _) (iU (by omega) (by omega))
        ·simp only [hh] at hK ⊢
         clear hh
         have hx := e2
         have hkt : ((k : Int) + 1).toNat = k + 1 := by omega
         go_simp
         exact hK _ _ (Below.refl _ _) rfl
        iterate 2 · simp only [hh] at hK ⊢; clear hh; go_simp; exact hK _ _ (Below.refl _ _) rfl
        ·(try clear hh); go_simp; exact hK _ _ (Below.refl _ _) rfl
       ·intro t wq hbq hh
        have f7 := aS hh 7 (by decide)
        simp only [pick] at f7
        replace f7 : t 7 = (.string P) := f7
        have f8 := aS hh 8 (by decide)
        simp only [pick] at f8
        replace f8 : t 8 = (.string Q) := f8
        have f9 := aS hh 9 (by decide)
        simp only [pick] at f9
        replace f9 : t 9 = (.bool true) := f9
        clear hh
        simp only [filled, upd, Have, is, any, row, pick, Act.put, List.setIfInBounds_toArray, List.set_cons_zero, List.set_cons_succ, Nat.reduceAdd, Nat.reduceEqDiff, reduceIte]
        simp only [f7, f8, f9]
        go_wp2
        go_ret3
        exact ⟨by rw [HE.out, ← HPP.out, ← Uf.out]; rfl, hbq⟩
      | true =>
       have HN : Hid (qQ s.data.toList (k + 1) true = T) := by
        show _ = _
        rw [← HT.out, Dx _ k true hkl (by simp), hcl, if_neg UY, if_neg h93]
       clear hkl hcl UY h93 h58
       go_wp2
       go_roundw
       case rel => exact ⟨k + 1, true, by omega, by go_num, rfl, by first | rfl | trivial, HN.out⟩
       case measure => simp [intOf]; omega
     ·have q3 : ((c.toNat : Int) == 58) = false := NY c 58 h58
      have HN : Hid (qQ s.data.toList (k + 1) i = T) := by
       show _ = _
       rw [← HT.out, Dx _ k i hkl (fun h => h58 (hcl ▸ h.1)), hcl, if_neg UY, if_neg h93]
      clear hkl hcl UY h93 h58
      go_wp2
      go_roundw
      case rel => exact ⟨k + 1, i, by omega, by go_num, rfl, by first | rfl | trivial, HN.out⟩
      case measure => simp [intOf]; omega
  ·obtain rfl : k = s.size := by omega
   have HE : Hid (T = (s.data.toList, [], false)) := by
    show _ = _
    rw [← HT.out, ← dl, YZ]
   go_wp2
   go_ret3
   exact ⟨by rw [HE.out, ay]; rfl, Below.refl _ _⟩
theorem uV (sc d : ByteArray) (w : World) (hs : d.size ≤ 1073741824) : Calls Tryz.prog 159 #[.string sc, .string d] w fun e w' => PrtV (prt sc.data.toList d.data.toList) e ∧ w' = w := by
 obtain ⟨o, ho⟩ : ∃ o, o = prt sc.data.toList d.data.toList := ⟨_, rfl⟩
 rw [← ho]
 have HP := hid ho
 by_cases h0 : d.data.toList = []
 ·have q0 : (d.toList == []) = true := by rw [Lib.toList_data, h0]; rfl
  have q1 : d.toList = [] := by rw [Lib.toList_data, h0]
  have HE : Hid (o = some (-1)) := by show _ = _; rw [HP.out, h0]; rfl
  clear ho h0
  go_enter Tryz.func159, Tryz.ntmps159
  go_wp2
  go_ret2
  exact ⟨by rw [HE.out]; rfl, rfl⟩
 ·have q0 : (d.toList == []) = false := by rw [Lib.toList_data, beq_eq_false_iff_ne]; exact h0
  have q1 : ¬ d.toList = [] := by rw [Lib.toList_data]; exact h0
  have q2 : d.toList.isEmpty = false := by rw [Lib.toList_data]; simpa using h0
  have H0 : Hid (d.data.toList ≠ []) := h0
  have hdef := fun w => Fv sc w
  obtain ⟨D, hD⟩ : ∃ D, D = portOf sc.data.toList := ⟨_, rfl⟩
  rw [← hD] at hdef
  have HD := hid hdef
  have GH := hid hD
  clear ho h0 hdef hD
  go_enter Tryz.func159, Tryz.ntmps159
  go_wp2
  go_loopw [6, 7] (fun vn vk wr => ∃ (k n : Nat), k ≤ d.size ∧ vk = .int .i64 (k : Int) ∧ vn = .int .i64 (n : Int) ∧ n ≤ 65536 ∧ wr = w ∧ Hid (n = zV (d.data.toList.take k)) ∧ Hid ((d.data.toList.take k).all WV = true)) (fun _ vk _ => d.size - (intOf vk).toNat)
  case atStart => exact ⟨0, 0, Nat.zero_le _, rfl, rfl, by omega, rfl, rfl, rfl⟩
  case round =>
   obtain ⟨k, n, hk, rfl, rfl, hn, hwr, HN, HA⟩ := hrel
   subst hwr
   by_cases hlt : k < d.size
   ·obtain ⟨c, hc⟩ : ∃ c, d[k] = c := ⟨_, rfl⟩
    have hkl : k < d.data.toList.length := by rw [dl]; exact hlt
    have hcl : d.data.toList[k] = c := hc
    have hdg := fun w => ji (c.toNat : Int) w
    cases hd : digit (c.toNat : Int) with
    | false =>
     have HE : Hid (o = none) := by show _ = _; rw [HP.out]; exact prt_bad _ _ k hkl (by rw [hcl]; exact hd)
     rw [hd] at hdg
     have HDG := hid hdg
     clear hkl hcl hd hdg
     go_wp2_with fail
     refine (HDG.out _).mono ?_
     rintro e w2 ⟨rfl, hw2⟩
     subst hw2
     go_wp2
     go_ret2
     exact ⟨by rw [HE.out]; exact ⟨_, rfl⟩, rfl⟩
    | true =>
     rw [hd] at hdg
     have HDG := hid hdg
     obtain ⟨v1, v2⟩ := dgt_val c hd
     obtain ⟨m, hm⟩ : ∃ m, m = min (n * 10 + (c.toNat - 48)) 65536 := ⟨_, rfl⟩
     have xk : Hid (m = zV (d.data.toList.take (k + 1))) := by show _ = _; rw [I9 _ k hkl, hcl, ← HN.out, hm]
     have HA2 : Hid ((d.data.toList.take (k + 1)).all WV = true) := by show _ = _; rw [Kr _ k hkl, HA.out, hcl]; exact hd
     have hmI : min ((n : Int) * 10 + ((c.toNat : Int) - 48)) 65536 = (m : Int) := by omega
     have hm2 : m ≤ 65536 := by omega
     have hc1 : 48 ≤ (c.toNat : Int) := by omega
     have hc2 : (c.toNat : Int) ≤ 57 := by omega
     clear hkl hcl hd hdg hm v1 v2
     go_wp2_with fail
     refine (HDG.out _).mono ?_
     rintro e w2 ⟨rfl, hw2⟩
     subst hw2
     go_wp2
     go_roundw
     case rel => exact ⟨k + 1, m, by omega, by go_num, by first | rfl | (rw [← hmI]; congr 1; omega) | (simp only [← hmI]; first | rfl | (congr 1; split <;> omega)), hm2, by first | rfl | trivial, xk.out, HA2.out⟩
     case measure => simp [intOf]; omega
   ·obtain rfl : k = d.size := by omega
    have HE : Hid (o = if (n : Int) = D then some (-1) else if n ≤ 65535 then some (n : Int) else none) := by
     show _ = _
     have h1 := HN.out
     have h2 := HA.out
     rw [List.take_of_length_le (by rw [dl]; exact Nat.le_refl _)] at h1 h2
     rw [HP.out, RX _ _ H0.out h2, ← h1, ← GH.out]
    by_cases hd : (n : Int) = D
    ·have HE2 : Hid (o = some (-1)) := by show _ = _; rw [HE.out, if_pos hd]
     have q3 : ((n : Int) == D) = true := by rw [beq_iff_eq]; exact hd
     clear hd
     go_wp2_with fail
     refine (HD.out _).mono ?_
     rintro e w2 ⟨rfl, hw2⟩
     subst hw2
     go_wp2
     go_ret2
     exact ⟨by rw [HE2.out]; rfl, rfl⟩
    ·have q3 : ((n : Int) == D) = false := by rw [beq_eq_false_iff_ne]; exact hd
     by_cases h6 : n ≤ 65535
     ·have HE2 : Hid (o = some (n : Int)) := by show _ = _; rw [HE.out, if_neg hd, if_pos h6]
      have h6i : (n : Int) ≤ 65535 := by omega
      clear hd
      go_wp2_with fail
      refine (HD.out _).mono ?_
      rintro e w2 ⟨rfl, hw2⟩
      subst hw2
      go_wp2
      go_ret2
      exact ⟨by rw [HE2.out]; rfl, rfl⟩
     ·have HE2 : Hid (o = none) := by show _ = _; rw [HE.out, if_neg hd, if_neg h6]
      have h6i : ¬ (n : Int) ≤ 65535 := by omega
      clear hd
      go_wp2_with fail
      refine (HD.out _).mono ?_
      rintro e w2 ⟨rfl, hw2⟩
      subst hw2
      go_wp2
      go_ret2
      exact ⟨by rw [HE2.out]; exact ⟨(n : Int), congrArg (fun b => Ending.returned (.tuple #[.int .i64 (n : Int), .bool b])) (decide_eq_false (by omega))⟩, rfl⟩
theorem Ox (s : ByteArray) (w : World) (hs : s.size ≤ 1073741824) : Calls Tryz.prog 89 #[.string s] w fun e w' => e = .returned (.bool (kZ s.data.toList)) ∧ w' = w := by
 obtain ⟨V, hV⟩ : ∃ V, V = kZ s.data.toList := ⟨_, rfl⟩
 rw [← hV]
 have HV := hid hV
 clear hV
 have hixx := ix3
 go_enter Tryz.func89, Tryz.ntmps89
 go_wp2
 go_loopw [3] (fun vk wr => ∃ k : Nat, k ≤ s.size ∧ vk = .int .i64 (k : Int) ∧ wr = w ∧ Hid (∀ j, j < k → l7 s.data.toList j = true)) (fun vk _ => s.size - (intOf vk).toNat)
 case atStart => exact ⟨0, Nat.zero_le _, rfl, rfl, fun j h => by omega⟩
 case round =>
  obtain ⟨k, hk, rfl, hwr, HA⟩ := hrel
  subst hwr
  by_cases hlt : k < s.size
  ·obtain ⟨c, hc⟩ : ∃ c, s[k] = c := ⟨_, rfl⟩
   have hkl : k < s.data.toList.length := by rw [dl]; exact hlt
   have hcl : s.data.toList[k] = c := hc
   have hat : l7 s.data.toList k = (letter (c.toNat : Int) || (decide (k ≠ 0) && Jr c)) := by rw [adK _ k hkl, hcl]
   have hno := acO s.data.toList k hkl
   have hlet := fun w => fB (c.toNat : Int) w
   have hdig := fun w => ji (c.toNat : Int) w
   have hix := fun w => Tryz.strings_IndexByte ⟨#[43, 45, 46]⟩ (c.toNat : Int) w
   have e2 : ((c.toNat : Int)).toNat.toUInt8 = c := by simp
   rw [e2, show (⟨#[43, 45, 46]⟩ : ByteArray).data.toList = [43, 45, 46] from rfl] at hix
   have hi3 := hixx c
   obtain ⟨z, hz⟩ : ∃ z, z = Lib.indexByte [43, 45, 46] c := ⟨_, rfl⟩
   rw [← hz] at hix hi3
   have HNX : Hid (l7 s.data.toList k = true → ∀ j, j < k + 1 → l7 s.data.toList j = true) := by
    intro h j hj
    by_cases hjk : j < k
    ·exact HA.out j hjk
    ·obtain rfl : j = k := by omega
     exact h
   obtain ⟨l, hl⟩ : ∃ l, l = letter (c.toNat : Int) := ⟨_, rfl⟩
   obtain ⟨g, hg⟩ : ∃ l, l = digit (c.toNat : Int) := ⟨_, rfl⟩
   have hsc : Jr c = (l || (g || decide (0 ≤ z))) := by unfold Jr; rw [hi3, hl, hg]
   rw [← hl] at hlet hat
   rw [← hg] at hdig
   rw [hsc] at hat
   have HL := hid hlet
   have HG := hid hdig
   have HX := hid hix
   have HAT := hid hat
   have oD := hid hno
   clear hkl hcl hlet hdig hix e2 hi3 hz hl hg hsc hat hno
   cases l with
   | true =>
    have HN : Hid (∀ j, j < k + 1 → l7 s.data.toList j = true) := HNX.out (by rw [HAT.out]; rfl)
    go_wp2_with fail
    refine (HL.out _).mono ?_
    rintro e w2 ⟨rfl, hw2⟩
    subst hw2
    go_wp2
    go_roundw
    case rel => exact ⟨k + 1, by omega, by go_num, by first | rfl | trivial, HN.out⟩
    case measure => simp [intOf]; omega
   | false =>
    by_cases hk0 : k = 0
    ·have HE : Hid (V = false) := by show _ = _; rw [HV.out]; exact oD.out (by rw [HAT.out, hk0]; rfl)
     have q0 : ((k : Int) == 0) = true := by rw [hk0]; rfl
     clear hk0
     go_wp2_with fail
     refine (HL.out _).mono ?_
     rintro e w2 ⟨rfl, hw2⟩
     subst hw2
     go_wp2
     go_ret
     exact ⟨aB (by rw [HE.out]), rfl⟩
    ·have q0 : ((k : Int) == 0) = false := by rw [beq_eq_false_iff_ne]; omega
     have HAT2 : Hid (l7 s.data.toList k = (g || decide (0 ≤ z))) := by show _ = _; rw [HAT.out, decide_eq_true hk0]; rfl
     clear hk0
     cases g with
     | true =>
      have HN : Hid (∀ j, j < k + 1 → l7 s.data.toList j = true) := HNX.out (by rw [HAT2.out]; rfl)
      go_wp2_with fail
      refine (HL.out _).mono ?_
      rintro e w2 ⟨rfl, hw2⟩
      subst hw2
      go_wp2_with fail
      refine (HG.out _).mono ?_
      rintro e w2 ⟨rfl, hw2⟩
      subst hw2
      go_wp2
      go_roundw
      case rel => exact ⟨k + 1, by omega, by go_num, by first | rfl | trivial, HN.out⟩
      case measure => simp [intOf]; omega
     | false =>
      by_cases hz0 : 0 ≤ z
      ·have HN : Hid (∀ j, j < k + 1 → l7 s.data.toList j = true) := HNX.out (by rw [HAT2.out, decide_eq_true hz0]; rfl)
       have hz1 : ¬ z < 0 := by omega
       go_wp2_with fail
       refine (HL.out _).mono ?_
       rintro e w2 ⟨rfl, hw2⟩
       subst hw2
       go_wp2_with fail
       refine (HG.out _).mono ?_
       rintro e w2 ⟨rfl, hw2⟩
       subst hw2
       go_wp2_with fail
       refine (HX.out _).mono ?_
       rintro e w2 ⟨rfl, hw2⟩
       subst hw2
       go_wp2
       go_roundw
       case rel => exact ⟨k + 1, by omega, by go_num, by first | rfl | trivial, HN.out⟩
       case measure => simp [intOf]; omega
      ·have HE : Hid (V = false) := by show _ = _; rw [HV.out]; exact oD.out (by rw [HAT2.out, decide_eq_false hz0]; rfl)
       have hz1 : z < 0 := by omega
       go_wp2_with fail
       refine (HL.out _).mono ?_
       rintro e w2 ⟨rfl, hw2⟩
       subst hw2
       go_wp2_with fail
       refine (HG.out _).mono ?_
       rintro e w2 ⟨rfl, hw2⟩
       subst hw2
       go_wp2_with fail
       refine (HX.out _).mono ?_
       rintro e w2 ⟨rfl, hw2⟩
       subst hw2
       go_wp2
       go_ret
       exact ⟨aB (by rw [HE.out]), rfl⟩
  ·obtain rfl : k = s.size := by omega
   have hE : V = decide (s.data.toList ≠ []) := by rw [HV.out]; exact Zh _ fun j hj => HA.out j (by rw [dl] at hj; exact hj)
   by_cases h0 : s.data.toList = []
   ·have HE : Hid (V = false) := by show _ = _; rw [hE]; exact decide_eq_false (fun h => h h0)
    have q0 : (s.toList == []) = true := by rw [Lib.toList_data, h0]; rfl
    have q1 : s.toList = [] := by rw [Lib.toList_data, h0]
    clear hE h0
    go_wp2
    go_ret
    exact ⟨aB (by rw [HE.out]), rfl⟩
   ·have HE : Hid (V = true) := by show _ = _; rw [hE]; exact decide_eq_true h0
    have q0 : (s.toList == []) = false := by rw [Lib.toList_data, beq_eq_false_iff_ne]; exact h0
    have q1 : ¬ s.toList = [] := by rw [Lib.toList_data]; exact h0
    have q2 : s.toList.isEmpty = false := by rw [Lib.toList_data]; simpa using h0
    clear hE h0
    go_wp2
    go_ret
    exact ⟨aB (by rw [HE.out]), rfl⟩
where
 ix3 (c : UInt8) : (decide (c = 43) || (decide (c = 45) || decide (c = 46))) = decide (0 ≤ Lib.indexByte [43, 45, 46] c) := by
  have H : ∀ n : Fin 256, (decide (UInt8.ofNat n.val = 43) || (decide (UInt8.ofNat n.val = 45) || decide (UInt8.ofNat n.val = 46))) = decide (0 ≤ Lib.indexByte [43, 45, 46] (UInt8.ofNat n.val)) := by decide +kernel
  have := H ⟨c.toNat, c.toNat_lt⟩
  simpa using this
end Go.Proofs.YtcfgioklgmlclaaGreatDoor.Ej
namespace Go.Proofs.YtcfgioklgmlclaaGreatDoor.tZ
open Go.RowKit Base aP aH
def cells (u : U) (p : Value) : Array Value := #[.string (strOf u.aj), .string (strOf u.usr), .string (strOf u.dR), .string (strOf u.hst), .bool u.hh, .int .i64 u.port, .bool u.opq, .string (strOf u.txt), p, .bool u.hq, .bool u.hf, .string (strOf u.eF), .string (strOf u.fG)]
def UB (w : World) (g : Nat) (u : U) (p : Value) : Prop := w.heap[g]? = some (.cells (cells u p) 24 (0, 0))
variable {w w' : World} {g : Nat} {u : U} {p : Value}
theorem UB.lt (h : UB w g u p) : g < w.heap.size := (Array.getElem?_eq_some_iff.1 h).1
theorem UB.below (h : UB w g u p) (hb : Below w.heap.size w w') : UB w' g u p := (hb.block g h.lt).trans h
theorem UB.facts (h : UB w g u p) : w.cell? ⟨g, 0, none⟩ = some (.string (strOf u.aj)) ∧ w.cell? ⟨g, 1, none⟩ = some (.string (strOf u.usr)) ∧ w.cell? ⟨g, 2, none⟩ = some (.string (strOf u.dR)) ∧ w.cell? ⟨g, 3, none⟩ = some (.string (strOf u.hst)) ∧ w.cell? ⟨g, 4, none⟩ = some (.bool u.hh) ∧ w.cell? ⟨g, 5, none⟩ = some (.int .i64 u.port) ∧ w.cell? ⟨g, 6, none⟩ = some (.bool u.opq) ∧ w.cell? ⟨g, 7, none⟩ = some (.string (strOf u.txt)) ∧ w.cell? ⟨g, 8, none⟩ = some p ∧ w.cell? ⟨g, 9, none⟩ = some (.bool u.hq) ∧ w.cell? ⟨g, 10, none⟩ = some (.bool u.hf) ∧ w.cell? ⟨g, 11, none⟩ = some (.string (strOf u.eF)) ∧ w.cell? ⟨g, 12, none⟩ = some (.string (strOf u.fG)) :=
 ⟨cell_of_row w g 0 _ _ _ h, cell_of_row w g 1 _ _ _ h, cell_of_row w g 2 _ _ _ h, cell_of_row w g 3 _ _ _ h, cell_of_row w g 4 _ _ _ h, cell_of_row w g 5 _ _ _ h, cell_of_row w g 6 _ _ _ h, cell_of_row w g 7 _ _ _ h, cell_of_row w g 8 _ _ _ h, cell_of_row w g 9 _ _ _ h, cell_of_row w g 10 _ _ _ h, cell_of_row w g 11 _ _ _ h, cell_of_row w g 12 _ _ _ h⟩
theorem UB.thaw (h : UB w g u p) : w.frozen? ⟨g, 0, none⟩ = false ∧ w.frozen? ⟨g, 1, none⟩ = false ∧ w.frozen? ⟨g, 2, none⟩ = false ∧ w.frozen? ⟨g, 3, none⟩ = false ∧ w.frozen? ⟨g, 4, none⟩ = false ∧ w.frozen? ⟨g, 5, none⟩ = false ∧ w.frozen? ⟨g, 6, none⟩ = false ∧ w.frozen? ⟨g, 7, none⟩ = false ∧ w.frozen? ⟨g, 8, none⟩ = false ∧ w.frozen? ⟨g, 9, none⟩ = false ∧ w.frozen? ⟨g, 10, none⟩ = false ∧ w.frozen? ⟨g, 11, none⟩ = false ∧ w.frozen? ⟨g, 12, none⟩ = false :=
 ⟨frozen_of_row w g 0 _ _ h, frozen_of_row w g 1 _ _ h, frozen_of_row w g 2 _ _ h, frozen_of_row w g 3 _ _ h, frozen_of_row w g 4 _ _ h, frozen_of_row w g 5 _ _ h, frozen_of_row w g 6 _ _ h, frozen_of_row w g 7 _ _ h, frozen_of_row w g 8 _ _ h, frozen_of_row w g 9 _ _ h, frozen_of_row w g 10 _ _ h, frozen_of_row w g 11 _ _ h, frozen_of_row w g 12 _ _ h⟩
theorem UB.usr (h : UB w g u p) (s : List UInt8) : UB (w.setCell ⟨g, 1, none⟩ (.string (strOf s))) g { u with usr := s } p := heap_setCell_same w g 1 _ _ _ h
theorem UB.dR (h : UB w g u p) (s : List UInt8) : UB (w.setCell ⟨g, 2, none⟩ (.string (strOf s))) g { u with dR := s } p := heap_setCell_same w g 2 _ _ _ h
theorem UB.hst (h : UB w g u p) (s : List UInt8) : UB (w.setCell ⟨g, 3, none⟩ (.string (strOf s))) g { u with hst := s } p := heap_setCell_same w g 3 _ _ _ h
theorem UB.port (h : UB w g u p) (z : Int) : UB (w.setCell ⟨g, 5, none⟩ (.int .i64 z)) g { u with port := z } p := heap_setCell_same w g 5 _ _ _ h
theorem UB.opq (h : UB w g u p) (b : Bool) : UB (w.setCell ⟨g, 6, none⟩ (.bool b)) g { u with opq := b } p := heap_setCell_same w g 6 _ _ _ h
theorem UB.txt (h : UB w g u p) (s : List UInt8) : UB (w.setCell ⟨g, 7, none⟩ (.string (strOf s))) g { u with txt := s } p := heap_setCell_same w g 7 _ _ _ h
theorem UB.path (h : UB w g u p) (q : Value) : UB (w.setCell ⟨g, 8, none⟩ q) g u q := heap_setCell_same w g 8 _ _ _ h
theorem UB.hq (h : UB w g u p) (b : Bool) : UB (w.setCell ⟨g, 9, none⟩ (.bool b)) g { u with hq := b } p := heap_setCell_same w g 9 _ _ _ h
theorem UB.hf (h : UB w g u p) (b : Bool) : UB (w.setCell ⟨g, 10, none⟩ (.bool b)) g { u with hf := b } p := heap_setCell_same w g 10 _ _ _ h
theorem UB.eF (h : UB w g u p) (s : List UInt8) : UB (w.setCell ⟨g, 11, none⟩ (.string (strOf s))) g { u with eF := s } p := heap_setCell_same w g 11 _ _ _ h
theorem UB.fG (h : UB w g u p) (s : List UInt8) : UB (w.setCell ⟨g, 12, none⟩ (.string (strOf s))) g { u with fG := s } p := heap_setCell_same w g 12 _ _ _ h
theorem iR.below {u : U} {A : Option Addr} {n c : Nat} (h : iR w u A n c) (hb : Below w.heap.size w w') : iR w' u A n c := ⟨h.1.below hb, h.2⟩
theorem bY {B : Nat} {v : Value} {u : U} (h : w.ownsRow B 9 1 v u.aN.length (u.aN.map Value.string)) : ∃ A c, v = .slice A u.aN.length c ∧ iR w u A u.aN.length c := by
 obtain ⟨A, c, e, h1, h2, h3⟩ := bZ h
 exact ⟨A, c, e, h3, h1, h2⟩
theorem UB.load (h : UB w g u p) : (loadVar 24 ⟨g, 0, none⟩).run Tryz.prog w = .ok (.agg (cells u p)) w :=
 run_loadVar_row w g _ _ (cells u p) (0, 0) _ h Tryz.underlying24 rfl (by kernel_rfl)
theorem UB.set (h : UB w g u p) {k i : Nat} (x : Value) (hk : g ≠ k) : UB (w.setCell ⟨k, i, none⟩ x) g u p := by
 unfold UB
 rw [heap_setCell_other _ _ _ _ hk]
 exact h
theorem res2 {fn : Func} {a b : Tmp} (h : fn.results = #[.cell a 24, .tmp b]) (hU : UB w g u p) (ok : Bool) (tmps : Array Value) (h2 : tmps.getD a undef = .pointer (some ⟨g, 0, none⟩)) (h3 : tmps.getD b undef = .bool ok) :
  (results fn tmps).run Tryz.prog w = .ok (.tuple #[.agg (cells u p), .bool ok]) w := by
 have hp' : tmps[a]?.getD undef = .pointer (some ⟨g, 0, none⟩) := by simpa using h2
 have hq' : tmps[b]?.getD undef = .bool ok := by simpa using h3
 simp [results, h, hp', hq', asAddr, hU.load]
theorem res1 {fn : Func} {a : Tmp} (h : fn.results = #[.cell a 24]) (hU : UB w g u p) (tmps : Array Value) (h2 : tmps.getD a undef = .pointer (some ⟨g, 0, none⟩)) :
  (results fn tmps).run Tryz.prog w = .ok (.agg (cells u p)) w :=
 results_cell_row h tmps w g _ _ _ _ h2 hU Tryz.underlying24 rfl (by kernel_rfl)
theorem UB.row {v : U} {q : Value} (h : UB w g v q) (u : U) (p : Value) : UB (w.setRow g (cells u p)) g u p := setRow_heap w g (cells v q) (cells u p) _ (0, 0) h
theorem au {ops : Array Oper} {rest : List Oper} {o : Oper} {a : Act} {Q : Exit → Act → World → Prop} {v : U} {q : Value} (hU : UB w g v q) (u : U) (A : Option Addr) (n c : Nat) (x y : Operand) (ho : o.op = .store 24 x y) (hgd : o.guard = none)
  (hx : a.eval x = .pointer (some ⟨g, 0, none⟩)) (hy : a.eval y = .agg (cells u (.slice A n c)))
  (h : wpList Tryz.prog ops Q rest (a.put o.dst undef) (w.setRow g (cells u (.slice A n c)))) : wpList Tryz.prog ops Q (o :: rest) a w :=
 wpList_store_row hgd 24 x y ho g (cells u (.slice A n c)) hx hy 24 (cells v q) hU (by kernel_rfl) rfl (by simp [cells, Value.oneCell']) h
theorem laid1 (w : World) (a : Array Value) (T : TypeId) : (w.alloc (.cells a T)).heap[w.heap.size]? = some (.cells a T (0, 0)) ∧ Below w.heap.size w (w.alloc (.cells a T)) :=
 ⟨heap_alloc_new w _, (Below.refl _ _).alloc (Nat.le_refl _) _⟩
theorem laid2 (w : World) (a b : Array Value) (T S : TypeId) : ((w.alloc (.cells a T)).alloc (.cells b S)).heap[w.heap.size]? = some (.cells a T (0, 0)) ∧ ((w.alloc (.cells a T)).alloc (.cells b S)).heap[w.heap.size + 1]? = some (.cells b S (0, 0)) ∧ Below w.heap.size w ((w.alloc (.cells a T)).alloc (.cells b S)) := by
 obtain ⟨h1, h2⟩ := laid1 w a T
 have h3 := laid1 (w.alloc (.cells a T)) b S
 have hs : (w.alloc (.cells a T)).heap.size = w.heap.size + 1 := by simp
 rw [hs] at h3
 exact ⟨(h3.2.block _ (by omega)).trans h1, h3.1, h2.trans (h3.2.mono (by omega))⟩
theorem acT (w : World) (a b c : Array Value) (T S R : TypeId) : (((w.alloc (.cells a T)).alloc (.cells b S)).alloc (.cells c R)).heap[w.heap.size]? = some (.cells a T (0, 0)) ∧ (((w.alloc (.cells a T)).alloc (.cells b S)).alloc (.cells c R)).heap[w.heap.size + 1]? = some (.cells b S (0, 0)) ∧ (((w.alloc (.cells a T)).alloc (.cells b S)).alloc (.cells c R)).heap[w.heap.size + 1 + 1]? = some (.cells c R (0, 0)) ∧ Below w.heap.size w (((w.alloc (.cells a T)).alloc (.cells b S)).alloc (.cells c R)) := by
 obtain ⟨h1, h2, h4⟩ := laid2 w a b T S
 have h3 := laid1 ((w.alloc (.cells a T)).alloc (.cells b S)) c R
 have hs : ((w.alloc (.cells a T)).alloc (.cells b S)).heap.size = w.heap.size + 1 + 1 := by simp
 rw [hs] at h3
 exact ⟨(h3.2.block _ (by omega)).trans h1, (h3.2.block _ (by omega)).trans h2, h3.1, h4.trans (h3.2.mono (by omega))⟩
end Go.Proofs.YtcfgioklgmlclaaGreatDoor.tZ
namespace Go.Proofs.YtcfgioklgmlclaaGreatDoor.Pbx
open Go.RowKit Base aP aH
def cu (p : Parts) : Array Value := #[.string (strOf p.aj), .string (strOf p.rest), .string (strOf p.eF), .string (strOf p.fG), .bool p.hq, .bool p.hf]
def P0 : Parts := ⟨[], [], [], [], false, false⟩
def PB (w : World) (g : Nat) (p : Parts) : Prop := w.heap[g]? = some (.cells (cu p) 72 (0, 0))
variable {w w' : World} {g : Nat} {p : Parts}
theorem PB.lt (h : PB w g p) : g < w.heap.size := (Array.getElem?_eq_some_iff.1 h).1
theorem PB.below (h : PB w g p) (hb : Below w.heap.size w w') : PB w' g p := (hb.block g h.lt).trans h
theorem PB.facts (h : PB w g p) : w.cell? ⟨g, 0, none⟩ = some (.string (strOf p.aj)) ∧ w.cell? ⟨g, 1, none⟩ = some (.string (strOf p.rest)) ∧ w.cell? ⟨g, 2, none⟩ = some (.string (strOf p.eF)) ∧ w.cell? ⟨g, 3, none⟩ = some (.string (strOf p.fG)) ∧ w.cell? ⟨g, 4, none⟩ = some (.bool p.hq) ∧ w.cell? ⟨g, 5, none⟩ = some (.bool p.hf) :=
 ⟨cell_of_row w g 0 _ _ _ h, cell_of_row w g 1 _ _ _ h, cell_of_row w g 2 _ _ _ h, cell_of_row w g 3 _ _ _ h, cell_of_row w g 4 _ _ _ h, cell_of_row w g 5 _ _ _ h⟩
theorem PB.thaw (h : PB w g p) : w.frozen? ⟨g, 0, none⟩ = false ∧ w.frozen? ⟨g, 1, none⟩ = false ∧ w.frozen? ⟨g, 2, none⟩ = false ∧ w.frozen? ⟨g, 3, none⟩ = false ∧ w.frozen? ⟨g, 4, none⟩ = false ∧ w.frozen? ⟨g, 5, none⟩ = false :=
 ⟨frozen_of_row w g 0 _ _ h, frozen_of_row w g 1 _ _ h, frozen_of_row w g 2 _ _ h, frozen_of_row w g 3 _ _ h, frozen_of_row w g 4 _ _ h, frozen_of_row w g 5 _ _ h⟩
theorem PB.aj (h : PB w g p) (s : List UInt8) : PB (w.setCell ⟨g, 0, none⟩ (.string (strOf s))) g { p with aj := s } := heap_setCell_same w g 0 _ _ _ h
theorem PB.rest (h : PB w g p) (s : List UInt8) : PB (w.setCell ⟨g, 1, none⟩ (.string (strOf s))) g { p with rest := s } := heap_setCell_same w g 1 _ _ _ h
theorem PB.eF (h : PB w g p) (s : List UInt8) : PB (w.setCell ⟨g, 2, none⟩ (.string (strOf s))) g { p with eF := s } := heap_setCell_same w g 2 _ _ _ h
theorem PB.fG (h : PB w g p) (s : List UInt8) : PB (w.setCell ⟨g, 3, none⟩ (.string (strOf s))) g { p with fG := s } := heap_setCell_same w g 3 _ _ _ h
theorem PB.hq (h : PB w g p) (b : Bool) : PB (w.setCell ⟨g, 4, none⟩ (.bool b)) g { p with hq := b } := heap_setCell_same w g 4 _ _ _ h
theorem PB.hf (h : PB w g p) (b : Bool) : PB (w.setCell ⟨g, 5, none⟩ (.bool b)) g { p with hf := b } := heap_setCell_same w g 5 _ _ _ h
theorem PB.set (h : PB w g p) {k i : Nat} (x : Value) (hk : g ≠ k) : PB (w.setCell ⟨k, i, none⟩ x) g p := by
 unfold PB
 rw [heap_setCell_other _ _ _ _ hk]
 exact h
theorem PB.row (h : PB w g p) (q : Parts) : PB (w.setRow g (cu q)) g q := setRow_heap w g (cu p) (cu q) _ (0, 0) h
theorem zf {ops : Array Oper} {rest : List Oper} {o : Oper} {a : Act} {Q : Exit → Act → World → Prop} (hU : PB w g p) (q : Parts) (x y : Operand) (ho : o.op = .store 72 x y) (hgd : o.guard = none)
  (hx : a.eval x = .pointer (some ⟨g, 0, none⟩)) (hy : a.eval y = .agg (cu q))
  (h : wpList Tryz.prog ops Q rest (a.put o.dst undef) (w.setRow g (cu q))) : wpList Tryz.prog ops Q (o :: rest) a w :=
 wpList_store_row hgd 72 x y ho g (cu q) hx hy 72 (cu p) hU (by kernel_rfl) rfl (by simp [cu, Value.oneCell']) h
theorem resP {fn : Func} {a : Tmp} (h : fn.results = #[.cell a 72]) (hU : PB w g p) (tmps : Array Value) (h2 : tmps.getD a undef = .pointer (some ⟨g, 0, none⟩)) :
  (results fn tmps).run Tryz.prog w = .ok (.agg (cu p)) w :=
 results_cell_row h tmps w g _ _ _ _ h2 hU Tryz.underlying72 rfl (by kernel_rfl)
end Go.Proofs.YtcfgioklgmlclaaGreatDoor.Pbx
