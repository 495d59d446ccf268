/- Texts that belong together: Nj, Ul, Um, MimG, acg, aam, Nk, Qv. -/
import Derived.Test.YtcfgioklgmlclaaGreatDoorPB
import Derived.Test.YtcfgioklgmlclaaGreatDoorPA
import Derived.Test.YtcfgioklgmlclaaGreatDoorMA
import Derived.Deep.QuietTactic
import Derived.BigQuiet
import Derived.Test.YtcfgioklgmlclaaGreatDoorMP
import Derived.Laws.StructEq
set_option linter.unusedSimpArgs false
set_option linter.unusedVariables false
set_option maxRecDepth 100000
set_option maxHeartbeats 64000000
namespace Go.Proofs.YtcfgioklgmlclaaGreatDoor.Nj
open Go.RowKit Base aP fE nV qL GZ G5 J7 lJ uq
theorem V7 {st : List UInt8} {c : UInt8} (L : List UInt8) (h : st.contains c = true) : tw st (c :: L) = [] := by unfold tw; simp only [List.takeWhile_cons, h]; rfl
theorem Tt {st : List UInt8} {c : UInt8} (L : List UInt8) (h : st.contains c = false) : tw st (c :: L) = c :: tw st L := by unfold tw; simp only [List.takeWhile_cons, h]; rfl
theorem uK (s some_ : ByteArray) (w : World) (hs : s.size ≤ 1073741824) (hs2 : some_.size ≤ 1073741824) : Calls Tryz.prog 36 #[.string s, .string some_] w fun e w' => e = .returned (.int .i64 ((tw some_.data.toList s.data.toList).length : Int)) ∧ w = w' := by
 have hl : s.data.toList.length = s.size := Array.length_toList
 have HL := hid hl
 obtain ⟨N, hN⟩ : ∃ N, N = (tw some_.data.toList s.data.toList).length := ⟨_, rfl⟩
 rw [← hN]
 have HN := hid hN
 have HHAS := hid (fun c w => vN.lC some_ c w hs2)
 clear hN hl
 go_enter Tryz.func36, Tryz.ntmps36
 go_wp2
 go_loop [5, 8] (fun _ vk => ∃ k : Nat, k ≤ s.size ∧ vk = .int .i64 (k : Int) ∧ Hid (N = k + (tw some_.data.toList (s.data.toList.drop k)).length)) (fun _ vk => s.size - (intOf vk).toNat)
 case atStart => exact ⟨0, Nat.zero_le _, rfl, by show _ = _; rw [Nat.zero_add]; exact HN.out⟩
 case round =>
  obtain ⟨k, hk, rfl, HK⟩ := hrel
  by_cases hlt : k < s.size
  ·obtain ⟨c, hc⟩ : ∃ c, s[k] = c := ⟨_, rfl⟩
   have hkl : k < s.data.toList.length := by rw [HL.out]; exact hlt
   have hcl : s.data.toList[k] = c := hc
   have hd : s.data.toList.drop k = c :: s.data.toList.drop (k + 1) := by rw [← hcl]; exact List.drop_eq_getElem_cons hkl
   cases hh : vN.has some_.data.toList c with
   | true =>
    have HE : Hid (N = k) := by show _ = _; rw [HK.out, hd, V7 _ hh]; rfl
    have hh2 := fun w => HHAS.out c w
    rw [hh] at hh2
    have HH := hid hh2
    clear hkl hcl hd hh hh2
    go_wp2_with fail
    refine (HH.out _).mono ?_
    rintro e w2 ⟨rfl, hw2⟩
    subst hw2
    go_wp2
    go_ret
    exact ⟨jW (by rw [HE.out]), rfl⟩
   | false =>
    have HE : Hid (N = (k + 1) + (tw some_.data.toList (s.data.toList.drop (k + 1))).length) := by
     show _ = _
     rw [HK.out, hd, Tt _ hh, List.length_cons]
     omega
    have hh2 := fun w => HHAS.out c w
    rw [hh] at hh2
    have HH := hid hh2
    clear hkl hcl hd hh hh2
    go_wp2_with fail
    refine (HH.out _).mono ?_
    rintro e w2 ⟨rfl, hw2⟩
    subst hw2
    go_wp2
    go_round
    case rel => exact ⟨k + 1, by omega, by go_num, HE.out⟩
    case measure => simp [intOf]; omega
  ·have HE : Hid (N = s.size) := by
    show _ = _
    rw [HK.out, List.drop_eq_nil_of_le (by rw [HL.out]; omega)]
    show k + 0 = _
    omega
   go_wp2
   go_ret
   exact ⟨jW (by rw [HE.out]), rfl⟩
def Dw : List (ByteArray × ByteArray) → List UInt8 → Option ByteArray
 | [], _ => none
 | p :: r, n => if p.1.data.toList = n then some p.2 else Dw r n
def Yb (o : Option ByteArray) : Value := match o with
 | none => .tuple #[.string ⟨#[]⟩, .bool false]
 | some x => .tuple #[.string x, .bool true]
theorem YU (l : List (ByteArray × ByteArray)) (n : List UInt8) : (Dw l n).isSome = l.any fun p => p.1.data.toList == n := by
 induction l with
 | nil => rfl
 | cons p r ih =>
  unfold Dw
  by_cases h : p.1.data.toList = n
  ·simp [h]
  ·rw [if_neg h, ih]
   simp [h]
theorem Lp (acc : List (List UInt8 × List UInt8)) (n : List UInt8) : (Dw (mF acc) n).isSome = zU n acc := by
 rw [YU]
 unfold mF zU
 rw [List.any_map]
 rfl
theorem Jh (A : Option Addr) (n cap : Nat) (l : List (ByteArray × ByteArray)) (name : ByteArray) (w : World) (hr : kV w A n l) (hc : n ≤ cap) (hm : n ≤ 1073741824) :
  Calls Tryz.prog 87 #[.slice A n cap, .string name] w fun e w' => e = .returned (Yb (Dw l name.data.toList)) ∧ Below w.heap.size w w' := by
 have hl : l.length = n := hr.1
 have HL := hid hl
 have HR := hid hr
 obtain ⟨G, hG⟩ : ∃ G, G = Yb (Dw l name.data.toList) := ⟨_, rfl⟩
 rw [← hG]
 have HG := hid hG
 clear hr hG hl
 go_enter Tryz.func87, Tryz.ntmps87
 go_wp2
 go_loopw [6, 9] (fun _ vk wr => ∃ k : Nat, k ≤ n ∧ vk = .int .i64 (k : Int) ∧ Hid (Below w.heap.size w wr) ∧ Hid (G = Yb (Dw (l.drop k) name.data.toList))) (fun _ vk _ => n - (intOf vk).toNat)
 case atStart => exact ⟨0, Nat.zero_le _, rfl, Below.refl _ _, HG.out⟩
 case round =>
  obtain ⟨k, hk, rfl, HB, HK⟩ := hrel
  by_cases hlt : k < n
  ·have hkl : k < l.length := by rw [HL.out]; exact hlt
   obtain ⟨b, off, rfl, hb, h1, h2⟩ := (HR.out.under HB.out (Nat.le_refl _)).2 k hkl
   have hd : l.drop k = l[k] :: l.drop (k + 1) := List.drop_eq_getElem_cons hkl
   obtain ⟨s1, hs1⟩ : ∃ s, s = l[k].1 := ⟨_, rfl⟩
   obtain ⟨s2, hs2⟩ : ∃ s, s = l[k].2 := ⟨_, rfl⟩
   rw [← hs1] at h1
   rw [← hs2] at h2
   have hki : (k : Int) < (n : Int) := by omega
   by_cases he : s1.data.toList = name.data.toList
   ·have HE : Hid (G = .tuple #[.string s2, .bool true]) := by
     show _ = _
     rw [HK.out, hd]
     unfold Dw
     rw [← hs1, ← hs2, if_pos he]
     rfl
    have hq : (s1.toList == name.toList) = true := by rw [Lib.toList_data, Lib.toList_data, he]; simp
    have hq2 : s1.toList = name.toList := by rw [Lib.toList_data, Lib.toList_data, he]
    clear hd hs1 hs2 hb hkl he hq2
    go_wp2
    go_ret2
    exact ⟨by rw [HE.out]; rfl, HB.out⟩
   ·have HE : Hid (G = Yb (Dw (l.drop (k + 1)) name.data.toList)) := by
     show _ = _
     rw [HK.out, hd]
     conv => lhs; unfold Dw
     rw [← hs1, if_neg he]
    have hq : (s1.toList == name.toList) = false := by rw [Lib.toList_data, Lib.toList_data, beq_eq_false_iff_ne]; exact he
    have hq2 : ¬ s1.toList = name.toList := by rw [Lib.toList_data, Lib.toList_data]; exact he
    clear hd hs1 hs2 hb hkl he
    go_wp2
    go_roundw
    case rel => exact ⟨k + 1, by omega, by go_num, HB.out, HE.out⟩
    case measure => simp [intOf]; omega
  ·have HE : Hid (G = .tuple #[.string ⟨#[]⟩, .bool false]) := by
    show _ = _
    rw [HK.out, List.drop_eq_nil_of_le (by rw [HL.out]; omega)]
    rfl
   go_wp2
   go_ret2
   exact ⟨by rw [HE.out]; rfl, HB.out⟩
end Go.Proofs.YtcfgioklgmlclaaGreatDoor.Nj
namespace Go.Proofs.YtcfgioklgmlclaaGreatDoor.Ul
open Go.ChangeShapes Go.WideShapes Go.ChangeAt Go.RowKit Go.Deep Base uq
def Short (l : List (ByteArray × ByteArray)) : Prop := ∀ p ∈ l, p.1.size ≤ 140737488351232 ∧ p.2.size ≤ 140737488351232
variable {P : Program} {w : World} {H : Type} {enc : TypeId × Value → H} {base : Nat} {held : Bool} {spare : Nat → Bool}
end Go.Proofs.YtcfgioklgmlclaaGreatDoor.Ul
namespace Go.Proofs.YtcfgioklgmlclaaGreatDoor.Um
open Go.RowKit Base aP fE nV qL GZ G5 J7 lJ Nj xu uq Ul
theorem Oe (a b : ByteArray) : (a.toList == b.toList) = decide (a.data.toList = b.data.toList) := by
 rw [Lib.toList_data, Lib.toList_data, Bool.eq_iff_iff]
 simp
theorem qE (s : ByteArray) (w : World) (hs : s.size ≤ 1073741824) : Calls Tryz.prog 107 #[.string s] w fun e w' => e = .returned (.bool (MF s.data.toList)) ∧ Below w.heap.size w w' := by
 have hi := fun w => vN.IC s w hs
 obtain ⟨M, hM⟩ : ∃ M : ByteArray, M = strOf (lower s.data.toList) := ⟨_, rfl⟩
 have hq := Oe M s
 have hlw := fun w => fE.gq s w (by unfold maxLen; omega)
 rw [← hM] at hlw
 have TJ := hid hlw
 obtain ⟨b, hb⟩ : ∃ b, b = decide (M.data.toList = s.data.toList) := ⟨_, rfl⟩
 rw [← hb] at hq
 have hV : MF s.data.toList = (cZ s.data.toList && b) := by unfold MF; rw [hb, hM]; rfl
 obtain ⟨t, ht⟩ : ∃ t, t = cZ s.data.toList := ⟨_, rfl⟩
 rw [← ht] at hi hV
 have HV := hid hV
 have HI := hid hi
 clear hlw hM hb hV ht hi hs
 go_enter Tryz.func107, Tryz.ntmps107
 go_wp2_with fail
 refine (HI.out _).mono ?_
 rintro e w2 ⟨rfl, hw2⟩
 subst hw2
 cases t with
 | false =>
  go_wp2
  go_ret
  exact ⟨aB (by rw [HV.out]; rfl), Below.refl _ _⟩
 | true =>
  go_wp2_with fail
  refine (TJ.out _).mono ?_
  rintro e w3 ⟨rfl, hb3⟩
  go_wp2
  go_ret
  exact ⟨aB (by rw [HV.out]; simp [hq]), hb3⟩
theorem FC (T S : ByteArray) (v : Value) (w : World) (hT : T.size ≤ 140737488351232) (hS : S.size ≤ 140737488351232) :
  Calls Tryz.prog 27 #[.agg #[.string T, .string S, v]] w fun e w' => e = .returned (.string (strOf (ess T.data.toList S.data.toList))) ∧ Below w.heap.size w w' := by
 obtain ⟨Y, hY⟩ : ∃ Y, Y = T.data.toList ++ [47] := ⟨_, rfl⟩
 obtain ⟨Z, hZ⟩ : ∃ Z, Z = Y ++ S.data.toList := ⟨_, rfl⟩
 have hYl : Y.length = T.size + 1 := by rw [hY, List.length_append, show T.data.toList.length = T.size from Array.length_toList]; rfl
 have a1 : ∀ w : World, (Op.stringOp .add T ⟨#[47]⟩).run Tryz.prog w = .ok (.string (strOf Y)) w := fun w => by rw [hY]; exact bf _ ⟨#[47]⟩ w (by show _ + 1 ≤ _; omega)
 have a2 : ∀ w : World, (Op.stringOp .add (strOf Y) S).run Tryz.prog w = .ok (.string (strOf Z)) w := fun w => by rw [hZ]; exact bf _ S w (by rw [ah]; omega)
 have HZ : Hid (ess T.data.toList S.data.toList = Z) := by show _ = _; rw [hZ, hY]; simp [ess]
 clear hY hZ hYl hT hS
 go_enter Tryz.func27, Tryz.ntmps27
 go_wp2
 go_ret
 exact ⟨by rw [HZ.out]; rfl, (Below.refl _ _).alloc (Nat.le_refl _) _⟩
def aar (T S : ByteArray) (l : List (ByteArray × ByteArray)) : Prop := l.length ≤ 20 ∧ T.size + S.size ≤ 200 ∧ ∀ p ∈ l, p.1.size + p.2.size ≤ 200
def WH (w : World) (T S : ByteArray) (l : List (ByteArray × ByteArray)) (e : Ending) (w' : World) : Prop := ∃ b : Bool, e = .returned (.bool b) ∧ (b = true → aar T S l) ∧ Below w.heap.size w w'
theorem Oh (T S : ByteArray) (A : Option Addr) (n cap : Nat) (l : List (ByteArray × ByteArray)) (w : World) (hr : kV w A n l) (hc : n ≤ cap) (hm : cap ≤ maxLen) (hsh : Short l) (hT : T.size ≤ 140737488351232) (hS : S.size ≤ 140737488351232) :
  Calls Tryz.prog 23 #[.agg #[.string T, .string S, .slice A n cap]] w (WH w T S l) := by
 unfold maxLen at hm
 have hl := hr.1
 have HR := hid hr
 have HL := hid hl
 have HSH := hid hsh
 clear hr hl hsh
 have fin : ∀ (b : Bool) (w' : World), Below w.heap.size w w' → (b = true → aar T S l) → WH w T S l (.returned (.bool b)) w' := fun b w' h hb => ⟨b, rfl, hb, h⟩
 have FIN := hid fin
 clear fin
 go_enter Tryz.func23, Tryz.ntmps23
 go_wp2
 go_loopw [3, 7] (fun _ vk wr => ∃ k : Nat, k ≤ n ∧ vk = .int .i64 (k : Int) ∧ Hid (B3 29 wr w.heap.size (.string T) (.string S) (.slice A n cap)) ∧ Hid (Below w.heap.size w wr) ∧ Hid (∀ j (h : j < l.length), j < k → l[j].1.size + l[j].2.size ≤ 200)) (fun _ vk _ => n - (intOf vk).toNat)
 case atStart => exact ⟨0, Nat.zero_le _, rfl, heap_alloc_new w _, (Below.refl _ _).alloc (Nat.le_refl _) _, fun j _ h => by omega⟩
 case round =>
  obtain ⟨k, hk, rfl, HM, HB, HF⟩ := hrel
  obtain ⟨c0, c1, c2⟩ := HM.out.facts
  by_cases hlt : k < n
  ·obtain ⟨b, off, rfl, hb, h1, h2⟩ := (HR.out.under HB.out (Nat.le_refl _)).2 k (by rw [HL.out]; exact hlt)
   have hkl : k < l.length := by rw [HL.out]; exact hlt
   have hpz := HSH.out l[k] (List.getElem_mem hkl)
   obtain ⟨s1, hs1⟩ : ∃ s, s = l[k].1 := ⟨_, rfl⟩
   obtain ⟨s2, hs2⟩ : ∃ s, s = l[k].2 := ⟨_, rfl⟩
   rw [← hs1] at h1 hpz
   rw [← hs2] at h2 hpz
   obtain ⟨z1, z2⟩ := hpz
   have FT := hid hs1
   have HS2 := hid hs2
   clear hs1 hs2 hb
   have HKL2 := hid hkl
   have hkI : (k : Int) < (n : Int) := by omega
   obtain ⟨n1, hn1⟩ : ∃ z : Int, z = (s1.size : Int) := ⟨_, rfl⟩
   obtain ⟨n2, hn2⟩ : ∃ z : Int, z = (s2.size : Int) := ⟨_, rfl⟩
   by_cases abY : s1.size + s2.size ≤ 200
   ·have HF2 : Hid (∀ j (h : j < l.length), j < k + 1 → l[j].1.size + l[j].2.size ≤ 200) := by
     intro j h hj
     by_cases hjk : j < k
     ·exact HF.out j h hjk
     ·obtain rfl : j = k := by omega
      rw [← FT.out, ← HS2.out]
      exact abY
    have hsum : ¬ ((200 : Int) < (s1.size : Int) + (s2.size : Int)) := by omega
    clear abY
    go_wp2
    go_quiet (fail)
    go_wp2
    go_roundw
    case rel => exact ⟨k + 1, by omega, by go_num, HM.out, Base.below_drewN HB.out _, HF2.out⟩
    case measure => simp [intOf]; omega
   ·have hsum : (200 : Int) < (s1.size : Int) + (s2.size : Int) := by omega
    clear abY
    go_wp2
    go_quiet (fail)
    go_wp2
    go_ret
    exact FIN.out _ _ (Base.below_drewN HB.out _) (fun h => by cases h)
  ·obtain rfl : k = n := by omega
   have HA : Hid (∀ p ∈ l, p.1.size + p.2.size ≤ 200) := by
    intro p hp
    obtain ⟨j, hj, rfl⟩ := List.getElem_of_mem hp
    exact HF.out j hj (by rw [← HL.out]; exact hj)
   by_cases h20 : k ≤ 20
   ·have h20i : (k : Int) ≤ 20 := by omega
    by_cases abY : T.size + S.size ≤ 200
    ·have hsum : (T.size : Int) + (S.size : Int) ≤ 200 := by omega
     go_wp2
     go_ret
     exact FIN.out _ _ HB.out (fun _ => ⟨by rw [HL.out]; exact h20, abY, HA.out⟩)
    ·have hsum : ¬ (T.size : Int) + (S.size : Int) ≤ 200 := by omega
     go_wp2
     go_ret
     exact FIN.out _ _ HB.out (fun h => by simp at h)
   ·have h20i : ¬ (k : Int) ≤ 20 := by omega
    go_wp2
    go_ret
    exact FIN.out _ _ HB.out (fun h => by cases h)
end Go.Proofs.YtcfgioklgmlclaaGreatDoor.Um
namespace Go.Proofs.YtcfgioklgmlclaaGreatDoor.acg
open Go.RowKit Base aP fE nV qL GZ G5 J7 lJ Nj xu Um uq Ul aao BldK
def vM (l : List (ByteArray × ByteArray)) : PL := l.map fun p => (p.1.data.toList, p.2.data.toList)
theorem Cm (l : List (ByteArray × ByteArray)) : (vM l).length = l.length := by simp [vM]
theorem G6 (l : List (ByteArray × ByteArray)) (k : Nat) (h : k < l.length) : (vM l).take (k + 1) = (vM l).take k ++ [(l[k].1.data.toList, l[k].2.data.toList)] := by
 rw [List.take_succ_eq_append_getElem (by rw [Cm]; exact h)]
 simp [vM]
theorem aeu (l : List (ByteArray × ByteArray)) : (vM l).take l.length = vM l := List.take_of_length_le (by rw [Cm]; exact Nat.le_refl _)
theorem dl (s : ByteArray) : s.data.toList.length = s.size := Array.length_toList
theorem adw (s1 s2 : ByteArray) (h : s1.size + s2.size ≤ 200) : (Ja (s1.data.toList, s2.data.toList)).length ≤ 604 := by
 have := adA s2.data.toList
 rw [dl] at this
 unfold Ja
 simp only [List.length_cons, List.length_append, dl]
 omega
theorem XA {l : List (ByteArray × ByteArray)} (h : ∀ p ∈ l, p.1.size + p.2.size ≤ 200) : ∀ k, k ≤ l.length → (pps ((vM l).take k)).length ≤ 604 * k
 | 0, _ => by simp [pps]
 | k + 1, hk => by
  have ih := XA h k (by omega)
  have := adw l[k].1 l[k].2 (h _ (List.getElem_mem _))
  rw [G6 l k (by omega), Jc, List.length_append]
  omega
theorem aew (T S : ByteArray) : (ess T.data.toList S.data.toList).length = T.size + S.size + 1 := by
 unfold ess
 simp only [List.length_cons, List.length_append, dl]
 omega
theorem hB3lt {B b : Nat} {l : List UInt8} {w : World} (h : AB B b l w) : b < w.heap.size := by
 rcases h with ⟨_, v, h2, _⟩ | ⟨_, v, h2, _⟩
 ·exact (Array.getElem?_eq_some_iff.1 h2).1
 ·exact (Array.getElem?_eq_some_iff.1 h2).1
theorem Vz (P s1 v : List UInt8) (s2 : List UInt8) (h : v = wK s2) : P ++ ((59 :: s1) ++ [61]) ++ v = P ++ Ja (s1, s2) := by
 subst h
 simp [Ja]
theorem print_any (T S : ByteArray) (A : Option Addr) (n cap : Nat) (l : List (ByteArray × ByteArray)) (w : World) (hr : kV w A n l) (hc : n ≤ cap) (hm : cap ≤ maxLen) (hF : aar T S l) :
  Calls Tryz.prog 109 #[.agg #[.string T, .string S, .slice A n cap]] w fun e w' => e = .returned (.string (strOf (dX T.data.toList S.data.toList (vM l)))) ∧ Below w.heap.size w w' := by
 unfold maxLen at hm
 obtain ⟨hf1, hf2, hf3⟩ := hF
 have hl : l.length = n := hr.1
 have HL := hid hl
 have HR := hid hr
 have HF := hid hf3
 have hn20 : n ≤ 20 := by omega
 obtain ⟨E, hE⟩ : ∃ E, E = ess T.data.toList S.data.toList := ⟨_, rfl⟩
 have hEl : E.length ≤ 201 := by rw [hE, aew]; omega
 have HE := hid (fun w => FC T S (.slice A n cap) w (by omega) (by omega))
 rw [← hE] at HE
 have HP : Hid (∀ k, k ≤ l.length → (E ++ pps ((vM l).take k)).length ≤ 201 + 604 * k) := by
  intro k hk
  have := XA hf3 k hk
  rw [List.length_append]
  omega
 have HV : Hid (dX T.data.toList S.data.toList (vM l) = E ++ pps ((vM l).take n)) := by
  show _ = _
  rw [← hl, aeu, hE]
  rfl
 have HEL := hid hEl
 have HTY : Hid (69 ≠ 5) := by show _ ≠ _; decide
 clear hr hl hf1 hf2 hf3 hE hEl
 go_enter Tryz.func109, Tryz.ntmps109
 go_upto_region 1 with (fail)
 generalize hw1 : w.alloc _ = w1
 have hb1 : Below w.heap.size w w1 := by rw [← hw1]; exact (Below.refl _ _).alloc (Nat.le_refl _) _
 have hs1 : w1.heap.size = w.heap.size + 1 := by rw [← hw1]; simp
 have jr : Hid (B3 29 w1 w.heap.size (.string T) (.string S) (.slice A n cap)) := by
  show B3 _ _ _ _ _ _
  rw [← hw1]
  exact heap_alloc_new w _
 clear hw1
 go_upto_region 2 with (fail)
 have HB2 : Hid (AB (w.heap.size + 1) (w.heap.size + 1) [] (w1.alloc (.cells #[.pointer none, .slice none 0 0] 87))) := by
  have h := Lib.fresh_isBuilder 87 5 w1
  rw [hs1] at h
  exact h
 have Om : Below (w.heap.size + 1) w1 (w1.alloc (.cells #[.pointer none, .slice none 0 0] 87)) := (Below.refl _ _).alloc (by rw [hs1]; exact Nat.le_refl _) _
 generalize hw2 : w1.alloc _ = w2 at HB2 Om ⊢
 clear hw2
 have hsz1 : w.heap.size + 1 ≤ w2.heap.size := by have := Om.size; omega
 have hx2 : B3 29 w2 w.heap.size (.string T) (.string S) (.slice A n cap) := (Om.block _ (by omega)).trans jr.out
 have iG := hid hx2
 obtain ⟨c0, c1, c2⟩ := hx2.facts
 have HB02 : Hid (Below w.heap.size w w2) := hb1.trans (Om.mono (by omega))
 have FT := hid hs1
 clear hx2 hs1 hb1 Om jr
 go_wp2_with fail
 refine (HE.out _).mono ?_
 rintro e w3 ⟨rfl, hb3⟩
 have HB3 := hid (ou HB2.out hb3)
 have HB03 := hid (bel HB02.out hb3)
 have hsz3 : w.heap.size + 1 ≤ w3.heap.size := by have := hb3.size; omega
 have hx3 := iG.out.below hb3
 have jd := hid hx3
 clear hb3 c0 c1 c2
 go_wp2_with fail
 refine (wV _ _ _ _ _ HB3.out (by rw [ah]; have := HEL.out; simp; omega) hsz3).mono ?_
 rintro e w4 ⟨rfl, hB4, hb4, hk4⟩
 have HB4 : Hid (AB (w.heap.size + 1) (w.heap.size + 1) (E ++ pps ((vM l).take 0)) w4) := by
  show AB _ _ _ _
  rw [show (E ++ pps ((vM l).take 0)) = [] ++ (strOf E).data.toList by simp [pps, strOf]]
  exact hB4
 have hb34 : Below w.heap.size w3 w4 := hb4.mono (by omega)
 have HB04 : Hid (Below w.heap.size w w4) := HB03.out.trans hb34
 have hsz4 : w.heap.size + 1 ≤ w4.heap.size := by have := hb4.size; omega
 have hx4 : B3 29 w4 w.heap.size (.string T) (.string S) (.slice A n cap) := (hb4.block _ (by omega)).trans jd.out
 obtain ⟨c0, c1, c2⟩ := hx4.facts
 clear hB4 hb4 hk4 hb34 hx4 hx3
 go_upto_region 4 with (fail)
 clear c0 c1 c2
 go_loopw [5, 12] (fun _ vk wr => ∃ k : Nat, k ≤ n ∧ vk = .int .i64 (k : Int) ∧ Hid (AB (w.heap.size + 1) (w.heap.size + 1) (E ++ pps ((vM l).take k)) wr) ∧ Hid (Below w.heap.size w wr) ∧ w.heap.size + 1 ≤ wr.heap.size) (fun _ vk _ => n - (intOf vk).toNat)
 case atStart => exact ⟨0, Nat.zero_le _, rfl, HB4.out, HB04.out, hsz4⟩
 case round =>
  obtain ⟨k, hk, rfl, HB, iM, hsz⟩ := hrel
  by_cases hlt : k < n
  ·have hkl : k < l.length := by rw [HL.out]; exact hlt
   obtain ⟨b, off, rfl, hb, h1, h2⟩ := (HR.out.under iM.out (Nat.le_refl _)).2 k hkl
   have hz := HF.out l[k] (List.getElem_mem hkl)
   have hTk := G6 l k hkl
   have hPk := HP.out (k + 1) hkl
   obtain ⟨s1, hs1⟩ : ∃ s, s = l[k].1 := ⟨_, rfl⟩
   obtain ⟨s2, hs2⟩ : ∃ s, s = l[k].2 := ⟨_, rfl⟩
   rw [← hs1] at h1 hz hTk
   rw [← hs2] at h2 hz hTk
   have HTK := hid hTk
   obtain ⟨P, hP⟩ : ∃ P, P = E ++ pps ((vM l).take k) := ⟨_, rfl⟩
   have HPN : Hid (E ++ pps ((vM l).take (k + 1)) = P ++ Ja (s1.data.toList, s2.data.toList)) := by
    show _ = _
    rw [hTk, Jc, hP, List.append_assoc]
   have hPl : P.length ≤ 20000 := by rw [hP]; have := HP.out k (by omega); omega
   have JV := hid hPl
   rw [← hP] at HB
   have hki : (k : Int) < (n : Int) := by omega
   obtain ⟨X, hX⟩ : ∃ X, X = 59 :: s1.data.toList := ⟨_, rfl⟩
   obtain ⟨Y, hY⟩ : ∃ Y, Y = X ++ [61] := ⟨_, rfl⟩
   have hYl : Y.length ≤ 202 := by rw [hY, hX]; simp only [List.length_append, List.length_cons, dl, List.length_nil]; omega
   have a1 : ∀ w : World, (Op.stringOp .add ⟨#[59]⟩ s1).run Tryz.prog w = .ok (.string (strOf X)) w := fun w => by rw [hX]; exact bf ⟨#[59]⟩ s1 w (by show 1 + s1.size ≤ _; omega)
   have a2 : ∀ w : World, (Op.stringOp .add (strOf X) ⟨#[61]⟩).run Tryz.prog w = .ok (.string (strOf Y)) w := fun w => by rw [hY]; exact bf _ ⟨#[61]⟩ w (by rw [ah, hX]; simp only [List.length_cons, dl]; show _ + 1 ≤ _; omega)
   have HST : Hid (∀ v, v = wK s2.data.toList → P ++ Y ++ v = E ++ pps ((vM l).take (k + 1))) := by
    intro v hv
    rw [HPN.out, hY, hX]
    exact Vz _ _ _ _ hv
   have HYL := hid hYl
   have HIS := hid (fun w => vN.IC s2 w (by omega))
   have WA := hid (fun w => TokS.Zy s2 w (by omega))
   have hs2z : s2.size ≤ 200 := by omega
   have hpv : wK s2.data.toList = if cZ s2.data.toList = true then s2.data.toList else qq s2.data.toList := rfl
   have hqq := adC s2.data.toList
   rw [dl] at hqq
   obtain ⟨t, ht⟩ : ∃ t, t = cZ s2.data.toList := ⟨_, rfl⟩
   rw [← ht] at HIS hpv
   obtain ⟨Q, hQ⟩ : ∃ Q : ByteArray, Q = strOf (qq s2.data.toList) := ⟨_, rfl⟩
   rw [← hQ] at WA
   have hQd : Q.data.toList = qq s2.data.toList := by rw [hQ]; rfl
   have hQl : Q.size ≤ 402 := by rw [hQ, ah]; omega
   rw [← hQd] at hpv
   have HPV := hid hpv
   have HQL := hid hQl
   clear hs1 hs2 hkl hTk hPk hP hPl hX hY hYl hpv hqq ht hQ hQd hQl hz
   go_upto_region 6 with (fail)
   generalize gI : wr.alloc _ = wa
   have hba : Below wr.heap.size wr wa := by rw [← gI]; exact (Below.refl _ _).alloc (Nat.le_refl _) _
   have hxa : B2 69 wa wr.heap.size (.string s1) (.string s2) := by show B2 _ _ _ _ _; rw [← gI]; exact heap_alloc_new _ _
   have gZ := hid (ou HB.out hba)
   have HBLa := hid (bel iM.out hba)
   have hsza : w.heap.size + 1 ≤ wa.heap.size := by have := hba.size; omega
   have iq := hid hxa
   obtain ⟨k0, k1⟩ := hxa.facts
   have qI : Hid (wr.heap.size ≠ w.heap.size + 1) := by
    show _ ≠ _
    intro e
    have h3 := hB3lt HB.out
    omega
   clear gI hba hxa h1 h2
   go_wp2_with fail
   clear k0 k1 a1 a2
   refine (wV _ _ _ _ _ gZ.out (by rw [ah]; have := HYL.out; have := JV.out; simp; omega) hsza).mono ?_
   rintro e w5 ⟨rfl, hB5, hb5, hk5⟩
   have mO : Hid (AB (w.heap.size + 1) (w.heap.size + 1) (P ++ Y) w5) := hB5
   have hb5' : Below w.heap.size wa w5 := hb5.mono (by omega)
   have HBL5 : Hid (Below w.heap.size w w5) := HBLa.out.trans hb5'
   have hsz5 : w.heap.size + 1 ≤ w5.heap.size := by have := hb5.size; omega
   have hx5 : B2 69 w5 wr.heap.size (.string s1) (.string s2) := hk5 _ _ _ _ qI.out HTY.out iq.out
   obtain ⟨k0, k1⟩ := hx5.facts
   clear hB5 hb5 hb5' hk5 hx5
   go_wp2_with fail
   refine (HIS.out _).mono ?_
   rintro e w6 ⟨rfl, hw6⟩
   subst hw6
   cases t with
   | true =>
    have HPV2 : Hid (s2.data.toList = wK s2.data.toList) := by show _ = _; rw [HPV.out, if_pos rfl]
    go_wp2_with fail
    clear k0 k1
    refine (wV _ _ _ _ _ mO.out (by have := HYL.out; have := JV.out; simp; omega) hsz5).mono ?_
    rintro e w7 ⟨rfl, hB7, hb7, _⟩
    have rD : Hid (AB (w.heap.size + 1) (w.heap.size + 1) (E ++ pps ((vM l).take (k + 1))) w7) := by
     show AB _ _ _ _
     rw [← HST.out _ HPV2.out]
     exact hB7
    have hb7' : Below w.heap.size w5 w7 := hb7.mono (by omega)
    have hsz7 : w.heap.size + 1 ≤ w7.heap.size := by have := hb7.size; omega
    clear hB7 hb7
    go_wp2
    go_roundw
    case rel => exact ⟨k + 1, by omega, by go_num, rD.out, HBL5.out.trans hb7', hsz7⟩
    case measure => simp [intOf]; omega
   | false =>
    have HPV2 : Hid (Q.data.toList = wK s2.data.toList) := by show _ = _; rw [HPV.out, if_neg (by simp)]
    go_wp2_with fail
    clear k0 k1
    refine (WA.out _).mono ?_
    rintro e w6 ⟨rfl, hb6⟩
    have sW := hid (ou mO.out hb6)
    have HBL6 := hid (bel HBL5.out hb6)
    have hsz6 : w.heap.size + 1 ≤ w6.heap.size := by have := hb6.size; omega
    clear hb6
    go_wp2_with fail
    refine (wV _ _ _ _ _ sW.out (by have := HYL.out; have := JV.out; have := HQL.out; simp; omega) hsz6).mono ?_
    rintro e w7 ⟨rfl, hB7, hb7, _⟩
    have rD : Hid (AB (w.heap.size + 1) (w.heap.size + 1) (E ++ pps ((vM l).take (k + 1))) w7) := by
     show AB _ _ _ _
     rw [← HST.out _ HPV2.out]
     exact hB7
    have hb7' : Below w.heap.size w6 w7 := hb7.mono (by omega)
    have hsz7 : w.heap.size + 1 ≤ w7.heap.size := by have := hb7.size; omega
    clear hB7 hb7
    go_wp2
    go_roundw
    case rel => exact ⟨k + 1, by omega, by go_num, rD.out, HBL6.out.trans hb7', hsz7⟩
    case measure => simp [intOf]; omega
  ·obtain rfl : k = n := by omega
   rw [← HV.out] at HB
   go_wp2_with fail
   refine (qZ _ _ _ _ HB.out hsz).mono ?_
   rintro e w7 ⟨rfl, hb7⟩
   go_wp2
   go_ret
   exact ⟨rfl, iM.out.trans (hb7.mono (by omega))⟩
end Go.Proofs.YtcfgioklgmlclaaGreatDoor.acg
namespace Go.Proofs.YtcfgioklgmlclaaGreatDoor.aam
open Go.RowKit Base aP fE nV qL GZ G5 J7 lJ Nj xu Um acg uq Ul
theorem ac7 (l : List (ByteArray × ByteArray)) (k : Nat) (h : k < l.length) : xI (vM l) k = (MF l[k].1.data.toList && (!(zU l[k].1.data.toList ((vM l).take k)) && vO.quotable l[k].2.data.toList)) := by
 unfold xI
 rw [List.getElem?_eq_getElem (by rw [Cm]; exact h)]
 simp [vM]
theorem adH {l : List (ByteArray × ByteArray)} {k : Nat} (h : k < l.length) (ho : xI (vM l) k = false) (T S : List UInt8) : gy T S (vM l) = false := by
 unfold gy BH
 rw [ZG _ k ho _ (by rw [Cm]; exact h)]
 simp
def MidB (T S : ByteArray) (l : List (ByteArray × ByteArray)) : Prop := l.length ≤ 1048576 ∧ T.size ≤ 1048576 ∧ S.size ≤ 1048576 ∧ ∀ p ∈ l, p.1.size ≤ 1048576 ∧ p.2.size ≤ 1048576
theorem aar.mid {T S : ByteArray} {l : List (ByteArray × ByteArray)} (h : aar T S l) : MidB T S l := ⟨by have := h.1; omega, by have := h.2.1; omega, by have := h.2.1; omega, fun p hp => by have := h.2.2 p hp; omega⟩
theorem EM (T S : ByteArray) (A : Option Addr) (n cap : Nat) (l : List (ByteArray × ByteArray)) (w : World) (hr : kV w A n l) (hc : n ≤ cap) (hm : cap ≤ maxLen) (hF : MidB T S l) :
  Calls Tryz.prog 55 #[.agg #[.string T, .string S, .slice A n cap]] w fun e w' => e = .returned (.bool (gy T.data.toList S.data.toList (vM l))) ∧ Below w.heap.size w w' := by
 unfold maxLen at hm
 obtain ⟨hf1, hf2, hf4, hf3⟩ := hF
 have hl : l.length = n := hr.1
 have HL := hid hl
 have HR := hid hr
 have HF := hid hf3
 have hmm := @run_makeMap Tryz.prog
 have hTs := fun w => qE T w (by omega)
 have hSs := fun w => qE S w (by omega)
 obtain ⟨V, hV⟩ : ∃ V, V = gy T.data.toList S.data.toList (vM l) := ⟨_, rfl⟩
 rw [← hV]
 obtain ⟨tb, htb⟩ : ∃ b, b = MF T.data.toList := ⟨_, rfl⟩
 obtain ⟨sb, hsb⟩ : ∃ b, b = MF S.data.toList := ⟨_, rfl⟩
 have hV2 := hV
 unfold gy at hV2
 rw [← htb, ← hsb] at hV2
 rw [← htb] at hTs
 rw [← hsb] at hSs
 have oD : Hid (∀ k, (h : k < l.length) → xI (vM l) k = false → V = false) := by
  intro k h ho
  rw [hV]
  exact adH h ho _ _
 have HV := hid hV2
 have HTS := hid hTs
 have FU := hid hSs
 have hn20 : n ≤ 1048576 := by omega
 clear hr hl hV hV2 htb hsb hTs hSs hf1 hf3
 go_enter Tryz.func55, Tryz.ntmps55
 go_upto_region 1 with (fail)
 generalize hw1 : w.alloc _ = w1
 have HB1 : Hid (Below w.heap.size w w1) := by show Below _ _ _; rw [← hw1]; exact (Below.refl _ _).alloc (Nat.le_refl _) _
 have hx1 : B3 29 w1 w.heap.size (.string T) (.string S) (.slice A n cap) := by
  rw [← hw1]
  exact heap_alloc_new w _
 have jr := hid hx1
 obtain ⟨c0, c1, c2⟩ := hx1.facts
 clear hw1 hx1
 go_wp2_with fail
 clear c0 c1 c2
 refine (HTS.out _).mono ?_
 rintro e w2 ⟨rfl, hb2⟩
 have HB2 := hid (bel HB1.out hb2)
 have hx2 := jr.out.below hb2
 have iG := hid hx2
 obtain ⟨c0, c1, c2⟩ := hx2.facts
 clear hb2 hx2
 cases tb with
 | false =>
  have HE : Hid (V = false) := by show _ = _; rw [HV.out]; rfl
  go_wp2
  go_ret
  exact ⟨aB (by rw [HE.out]), HB2.out⟩
 | true =>
  go_wp2_with fail
  clear c0 c1 c2
  refine (FU.out _).mono ?_
  rintro e w3 ⟨rfl, hb3⟩
  have HB3 := hid (bel HB2.out hb3)
  have hx3 := iG.out.below hb3
  have jd := hid hx3
  obtain ⟨c0, c1, c2⟩ := hx3.facts
  clear hb3 hx3
  cases sb with
  | false =>
   have HE : Hid (V = false) := by show _ = _; rw [HV.out]; rfl
   go_wp2
   go_ret
   exact ⟨aB (by rw [HE.out]), HB3.out⟩
  | true =>
   have HV3 : Hid (V = tN (vM l) n) := by show _ = _; rw [HV.out, ← HL.out, ← Cm l]; rfl
   clear c0 c1 c2
   go_upto_region 4 with (fail)
   clear hmm
   generalize hw4 : w3.alloc _ = w4
   have HS4 : Hid (Says w4 w3.heap.size 0 []) := by show Says _ _ _ _; rw [← hw4]; exact Says.made w3
   have HB4 : Hid (Below w.heap.size w w4) := by show Below _ _ _; rw [← hw4]; exact HB3.out.alloc HB3.out.size _
   have hx4 : B3 29 w4 w.heap.size (.string T) (.string S) (.slice A n cap) := by rw [← hw4]; exact jd.out.below ((Below.refl _ _).alloc (Nat.le_refl _) _)
   obtain ⟨c0, c1, c2⟩ := hx4.facts
   obtain ⟨gm, hgm⟩ : ∃ g, g = w3.heap.size := ⟨_, rfl⟩
   rw [← hgm] at HS4 ⊢
   have HGM : Hid (w.heap.size ≤ gm) := by show _ ≤ _; rw [hgm]; exact HB3.out.size
   clear hw4 hx4 hgm
   go_upto_region 5 with (fail)
   clear c0 c1 c2
   go_loopw [5, 20] (fun _ vk wr => ∃ (k : Nat) (names : List (List UInt8)), k ≤ n ∧ vk = .int .i64 (k : Int) ∧ Hid (Says wr gm k names) ∧ Hid (∀ x, x ∈ names ↔ x ∈ ((vM l).take k).map (·.1)) ∧ Hid (Below w.heap.size w wr) ∧ Hid (tN (vM l) k = true)) (fun _ vk _ => n - (intOf vk).toNat)
   case atStart => exact ⟨0, [], Nat.zero_le _, rfl, HS4.out, by show ∀ x, _; simp, HB4.out, rfl⟩
   case round =>
    obtain ⟨k, names, hk, rfl, HM, HN, HB, HK⟩ := hrel
    by_cases hlt : k < n
    ·have hkl : k < l.length := by rw [HL.out]; exact hlt
     obtain ⟨b, off, rfl, hb, h1, h2⟩ := (HR.out.under HB.out (Nat.le_refl _)).2 k hkl
     have hz := HF.out l[k] (List.getElem_mem hkl)
     have hTk := G6 l k hkl
     have hok := ac7 l k hkl
     have hno := oD.out k hkl
     obtain ⟨s1, hs1⟩ : ∃ s, s = l[k].1 := ⟨_, rfl⟩
     obtain ⟨s2, hs2⟩ : ∃ s, s = l[k].2 := ⟨_, rfl⟩
     rw [← hs1] at h1 hz hTk hok
     rw [← hs2] at h2 hz hTk hok
     rw [Iq _ _ _ HN.out] at hok
     have hsucc := SE (vM l) k
     rw [HK.out, Bool.true_and] at hsucc
     have HTK := hid hTk
     have hsm := fun w => qE s1 w (by omega)
     have Rj := fun w => vO.DX s2 w (by omega)
     obtain ⟨m1, hm1⟩ : ∃ b, b = MF s1.data.toList := ⟨_, rfl⟩
     obtain ⟨q2, hq2⟩ : ∃ b, b = vO.quotable s2.data.toList := ⟨_, rfl⟩
     rw [← hm1] at hok hsm
     rw [← hq2] at hok Rj
     have Ug := hid hsm
     have WA := hid Rj
     have hki : (k : Int) < (n : Int) := by omega
     have hs1z : s1.size ≤ 1048576 := by omega
     have HOK := hid hok
     have HNO2 := hid hno
     have HSU := hid hsucc
     clear hs1 hs2 hkl hTk hok hno hsucc hm1 hq2 hsm Rj hz
     go_upto_region 7 with (fail)
     generalize gI : wr.alloc _ = wa
     have hxa : B2 69 wa wr.heap.size (.string s1) (.string s2) := by show B2 _ _ _ _ _; rw [← gI]; exact heap_alloc_new _ _
     have iq := hid hxa
     have HMa : Hid (Says wa gm k names) := by show Says _ _ _ _; rw [← gI]; exact HM.out.below ((Below.refl _ _).alloc (Nat.le_refl _) _)
     have gZ : Hid (Below w.heap.size w wa) := by show Below _ _ _; rw [← gI]; exact HB.out.alloc HB.out.size _
     have qI : Hid (gm ≠ wr.heap.size) := by show _ ≠ _; have := HM.out.lt; omega
     obtain ⟨k0, k1⟩ := hxa.facts
     clear gI hxa h1 h2
     go_wp2_with fail
     clear k0 k1
     refine (Ug.out _).mono ?_
     rintro e w5 ⟨rfl, hb5⟩
     have HM5 := hid (HMa.out.below hb5)
     have mO := hid (bel gZ.out hb5)
     have hx5 := iq.out.below hb5
     have F5 := hid hx5
     obtain ⟨k0, k1⟩ := hx5.facts
     clear hb5 hx5
     cases m1 with
     | false =>
      have HE : Hid (V = false) := HNO2.out (by rw [HOK.out]; rfl)
      go_wp2
      go_ret
      exact ⟨aB (by rw [HE.out]), mO.out⟩
     | true =>
      have hlk := HM5.out.look s1 (by unfold maxLen; omega)
      by_cases hmem : s1.data.toList ∈ names
      ·have HE : Hid (V = false) := HNO2.out (by rw [HOK.out, decide_eq_true hmem]; rfl)
       rw [if_pos hmem] at hlk
       clear hmem
       go_wp2
       go_ret
       exact ⟨aB (by rw [HE.out]), mO.out⟩
      ·rw [if_neg hmem] at hlk
       have HOK2 : Hid (xI (vM l) k = q2) := by show _ = _; rw [HOK.out, decide_eq_false hmem]; rfl
       clear hmem
       go_wp2_with fail
       clear k0 k1 hlk
       refine (WA.out _).mono ?_
       rintro e w6 ⟨rfl, hb6⟩
       have HM6 := hid (HM5.out.below hb6)
       have sW := hid (bel mO.out hb6)
       have hx6 := F5.out.below hb6
       obtain ⟨k0, k1⟩ := hx6.facts
       clear hb6 hx6
       cases q2 with
       | false =>
        have HE : Hid (V = false) := HNO2.out HOK2.out
        go_wp2
        go_ret
        exact ⟨aB (by rw [HE.out]), sW.out⟩
       | true =>
        obtain ⟨w7, hput, hS7, hg7⟩ := HM6.out.put s1 (by unfold maxLen; omega) (by unfold maxLen; omega)
        have HS7 := hid hS7
        have rD : Hid (Below w.heap.size w w7) := sW.out.grown hg7 sW.out.size (fun g hg => by injection hg with hg; rw [← hg]; exact HGM.out)
        have HK7 : Hid (tN (vM l) (k + 1) = true) := by show _ = _; rw [HSU.out, HOK2.out]
        have HN7 : Hid (∀ x, x ∈ s1.data.toList :: names ↔ x ∈ ((vM l).take (k + 1)).map (·.1)) := by
         show ∀ x, _
         intro x
         rw [HTK.out]
         have := HN.out x
         simp only [List.mem_cons, List.map_append, List.mem_append, this]
         simp
         exact Or.comm
        clear hS7 hg7
        go_wp2
        go_roundw
        case rel => exact ⟨k + 1, s1.data.toList :: names, by omega, by go_num, HS7.out, HN7.out, rD.out, HK7.out⟩
        case measure => simp [intOf]; omega
    ·obtain rfl : k = n := by omega
     have HE : Hid (V = true) := by show _ = _; rw [HV3.out, HK.out]
     go_wp2
     go_ret
     exact ⟨aB (by rw [HE.out]), HB.out⟩
end Go.Proofs.YtcfgioklgmlclaaGreatDoor.aam
namespace Go.Proofs.YtcfgioklgmlclaaGreatDoor.Nk
open Go.RowKit Base aP fE nV qL GZ G5 J7 lJ Nj xu Um acg aam uq Ul
theorem ext_str {a b : ByteArray} (h : a.data.toList = b.data.toList) : a = b := by
 cases a; cases b; simp at h; subst h; rfl
theorem Og (a b : ByteArray) : (a.toList == b.toList) = decide (a = b) := by
 rw [Oe, Bool.eq_iff_iff, decide_eq_true_iff, decide_eq_true_iff]
 exact ⟨ext_str, fun h => by rw [h]⟩
theorem tX (a b : ByteArray) : a.toList = b.toList ↔ a = b := by
 rw [Lib.toList_data, Lib.toList_data]
 exact ⟨ext_str, fun h => by rw [h]⟩
theorem Tj {l m : List (ByteArray × ByteArray)} {k : Nat} (h : k < l.length) (h2 : k < m.length) (ht : l.take k = m.take k) (e : l[k] = m[k]) : l.take (k + 1) = m.take (k + 1) := by
 rw [List.take_succ_eq_append_getElem h, List.take_succ_eq_append_getElem h2, ht, e]
theorem below_drewN' (w : World) (n : Nat) : Below w.heap.size w (w.drewN n) := Base.below_drewN (Below.refl _ _) n
theorem YL (A A2 : Option Addr) (n n2 cap cap2 : Nat) (l m : List (ByteArray × ByteArray)) (w : World) (hR : kV w A n l) (hR2 : kV w A2 n2 m) (hc : n ≤ cap) (hm : cap ≤ maxLen) (hc2 : n2 ≤ cap2) (hm2 : cap2 ≤ maxLen) :
  Calls Tryz.prog 49 #[.slice A n cap, .slice A2 n2 cap2] w fun e w' => e = .returned (.bool (decide (l = m))) ∧ Below w.heap.size w w' := by
 unfold maxLen at hm hm2
 have hn : l.length = n := hR.1
 have hn2 : m.length = n2 := hR2.1
 have HN := hid hn
 have xk := hid hn2
 have HR := hid hR
 have HR2 := hid hR2
 clear hR hR2 hn hn2
 by_cases he : n = n2
 ·obtain rfl := he
  have q1 : ((n : Int) == (n : Int)) = true := by simp
  have q2 : ((n : Int) != (n : Int)) = false := by simp
  go_enter Tryz.func49, Tryz.ntmps49
  go_wp2
  go_loopw [5, 13] (fun _ vk wr => ∃ k : Nat, k ≤ n ∧ vk = .int .i64 (k : Int) ∧ Hid (l.take k = m.take k) ∧ Hid (Below w.heap.size w wr)) (fun _ vk _ => n - (intOf vk).toNat)
  case atStart => exact ⟨0, Nat.zero_le _, rfl, rfl, Below.refl _ _⟩
  case round =>
   obtain ⟨k, hk, rfl, HT, iM⟩ := hrel
   by_cases hlt : k < n
   ·have hkl : k < l.length := by rw [HN.out]; exact hlt
    have hkm : k < m.length := by rw [xk.out]; exact hlt
    obtain ⟨b, off, rfl, hb, h1, h2⟩ := (HR.out.under iM.out (Nat.le_refl _)).2 k hkl
    obtain ⟨b2, off2, rfl, hb2, h3, h4⟩ := (HR2.out.under iM.out (Nat.le_refl _)).2 k hkm
    have HTT := hid (Tj hkl hkm HT.out)
    have HX : Hid (l[k] ≠ m[k] → l ≠ m) := by
     intro e1 e2
     subst e2
     exact e1 rfl
    obtain ⟨⟨s1, s2⟩, hs⟩ : ∃ s, s = l[k] := ⟨_, rfl⟩
    obtain ⟨⟨t1, t2⟩, ht⟩ : ∃ s, s = m[k] := ⟨_, rfl⟩
    rw [← hs] at h1 h2 HX HTT
    rw [← ht] at h3 h4 HX HTT
    clear hs ht hkl hkm hb hb2
    have hki : (k : Int) < (n : Int) := by omega
    simp only [] at h1 h2 h3 h4
    by_cases e1 : s1 = t1
    ·by_cases e2 : s2 = t2
     ·have HY : Hid (l.take (k + 1) = m.take (k + 1)) := HTT.out (by rw [e1, e2])
      have p1 := (tX s1 t1).2 e1
      have p2 := (tX s2 t2).2 e2
      have HE1 := hid e1
      have HE2 := hid e2
      clear e1 e2
      go_wp2_with fail
      go_quiet (fail)
      have hbq := iM.out.trans ((below_drewN' wr nq).mono iM.out.size)
      generalize wr.drewN nq = wq at hbq ⊢
      go_wp2
      go_roundw
      case rel => exact ⟨k + 1, by omega, by go_num, HY.out, hbq⟩
      case measure => simp [intOf]; omega
     ·have HE : Hid (decide (l = m) = false) := decide_eq_false (HX.out (fun h => e2 (by injection h)))
      have p1 := (tX s1 t1).2 e1
      have p2 : ¬ s2.toList = t2.toList := fun h => e2 ((tX s2 t2).1 h)
      have HE1 := hid e1
      have HE2 := hid e2
      clear e1 e2
      go_wp2_with fail
      go_quiet (fail)
      have hbq := iM.out.trans ((below_drewN' wr nq).mono iM.out.size)
      generalize wr.drewN nq = wq at hbq ⊢
      go_wp2
      go_ret
      exact ⟨aB HE.out.symm, hbq⟩
    ·have HE : Hid (decide (l = m) = false) := decide_eq_false (HX.out (fun h => e1 (by injection h)))
     have p1 : ¬ s1.toList = t1.toList := fun h => e1 ((tX s1 t1).1 h)
     have HE1 := hid e1
     clear e1
     go_wp2_with fail
     go_quiet (fail)
     have hbq := iM.out.trans ((below_drewN' wr nq).mono iM.out.size)
     generalize wr.drewN nq = wq at hbq ⊢
     go_wp2
     go_ret
     exact ⟨aB HE.out.symm, hbq⟩
   ·obtain rfl : k = n := by omega
    have HE : Hid (decide (l = m) = true) := decide_eq_true (by
     have h := HT.out
     rw [List.take_of_length_le (by rw [HN.out]; exact Nat.le_refl _), List.take_of_length_le (by rw [xk.out]; exact Nat.le_refl _)] at h
     exact h)
    go_wp2
    go_ret
    exact ⟨aB HE.out.symm, iM.out⟩
 ·have q1 : ((n : Int) == (n2 : Int)) = false := by simp; omega
  have q2 : ((n : Int) != (n2 : Int)) = true := by simp; omega
  have HE : Hid (decide (l = m) = false) := decide_eq_false (fun h => he (by rw [← HN.out, ← xk.out, h]))
  clear he
  go_enter Tryz.func49, Tryz.ntmps49
  go_wp2
  go_ret
  exact ⟨aB HE.out.symm, Below.refl _ _⟩
def Jq (T S : ByteArray) (l : List (ByteArray × ByteArray)) (T2 S2 : ByteArray) (m : List (ByteArray × ByteArray)) : Bool := decide (T = T2) && (decide (S = S2) && decide (l = m))
theorem SI (T S : ByteArray) (A : Option Addr) (n cap : Nat) (l : List (ByteArray × ByteArray)) (T2 S2 : ByteArray) (A2 : Option Addr) (n2 cap2 : Nat) (m : List (ByteArray × ByteArray)) (w : World) (hR : kV w A n l) (hR2 : kV w A2 n2 m) (hc : n ≤ cap) (hm : cap ≤ maxLen) (hc2 : n2 ≤ cap2) (hm2 : cap2 ≤ maxLen) :
  Calls Tryz.prog 18 #[.agg #[.string T, .string S, .slice A n cap], .agg #[.string T2, .string S2, .slice A2 n2 cap2]] w fun e w' => e = .returned (.bool (Jq T S l T2 S2 m)) ∧ Below w.heap.size w w' := by
 have q1 := Og T T2
 have q2 := Og S S2
 obtain ⟨b1, hb1⟩ : ∃ b, b = decide (T = T2) := ⟨_, rfl⟩
 obtain ⟨b2, hb2⟩ : ∃ b, b = decide (S = S2) := ⟨_, rfl⟩
 obtain ⟨b3, hb3⟩ : ∃ b, b = decide (l = m) := ⟨_, rfl⟩
 have HV : Hid (Jq T S l T2 S2 m = (b1 && (b2 && b3))) := by show _ = _; rw [hb1, hb2, hb3]; rfl
 rw [← hb1] at q1
 rw [← hb2] at q2
 have HEQ := hid (fun (w' : World) (h : Below w.heap.size w w') => YL A A2 n n2 cap cap2 l m w' (hR.under h (Nat.le_refl _)) (hR2.under h (Nat.le_refl _)) hc hm hc2 hm2)
 rw [← hb3] at HEQ
 clear hb1 hb2 hb3 hR hR2
 cases b1 with
 | false =>
  go_enter Tryz.func18, Tryz.ntmps18
  go_wp2
  go_ret
  exact ⟨aB (by rw [HV.out]; rfl), ((Below.refl _ _).alloc (Nat.le_refl _) _).alloc (by simp) _⟩
 | true =>
  cases b2 with
  | false =>
   go_enter Tryz.func18, Tryz.ntmps18
   go_wp2
   go_ret
   exact ⟨aB (by rw [HV.out]; rfl), ((Below.refl _ _).alloc (Nat.le_refl _) _).alloc (by simp) _⟩
  | true =>
   go_enter Tryz.func18, Tryz.ntmps18
   go_wp2_with fail
   refine (HEQ.out _ (((Below.refl _ _).alloc (Nat.le_refl _) _).alloc (by simp) _)).mono ?_
   rintro e w2 ⟨rfl, hb2⟩
   go_wp2
   go_ret
   exact ⟨aB (by rw [HV.out]; first | rfl | simp), (((Below.refl _ _).alloc (Nat.le_refl _) _).alloc (by simp) _).trans (hb2.mono (by simp; omega))⟩
theorem yS (T S : ByteArray) (A : Option Addr) (n cap : Nat) (l : List (ByteArray × ByteArray)) (T2 S2 : ByteArray) (A2 : Option Addr) (n2 cap2 : Nat) (m : List (ByteArray × ByteArray)) (w : World) (hR : kV w A n l) (hR2 : kV w A2 n2 m) (hc : n ≤ cap) (hm : cap ≤ maxLen) (hc2 : n2 ≤ cap2) (hm2 : cap2 ≤ maxLen) :
  Calls Tryz.prog 15 #[.agg #[.string T, .string S, .slice A n cap], .agg #[.string T2, .string S2, .slice A2 n2 cap2]] w fun e w' => e = .returned (.bool (Jq T S l T2 S2 m)) ∧ Below w.heap.size w w' := by
 unfold maxLen at hm hm2
 have hn : l.length = n := hR.1
 have hn2 : m.length = n2 := hR2.1
 have HN := hid hn
 have xk := hid hn2
 have HR := hid hR
 have HR2 := hid hR2
 have q1 := Og T T2
 have q2 := Og S S2
 obtain ⟨b1, hb1⟩ : ∃ b, b = decide (T = T2) := ⟨_, rfl⟩
 obtain ⟨b2, hb2⟩ : ∃ b, b = decide (S = S2) := ⟨_, rfl⟩
 have HV0 : Hid (Jq T S l T2 S2 m = (b1 && (b2 && decide (l = m)))) := by show _ = _; rw [hb1, hb2]; rfl
 rw [← hb1] at q1
 rw [← hb2] at q2
 clear hb1 hb2 hR hR2 hn hn2
 have start : Below w.heap.size w ((w.alloc (.cells #[.string T, .string S, .slice A n cap] 29)).alloc (.cells #[.string T2, .string S2, .slice A2 n2 cap2] 29)) := ((Below.refl _ _).alloc (Nat.le_refl _) _).alloc (by simp) _
 cases b1 with
 | false =>
  go_enter Tryz.func15, Tryz.ntmps15
  go_wp2
  go_ret
  exact ⟨aB (by rw [HV0.out]; rfl), start⟩
 | true =>
  cases b2 with
  | false =>
   go_enter Tryz.func15, Tryz.ntmps15
   go_wp2
   go_ret
   exact ⟨aB (by rw [HV0.out]; rfl), start⟩
  | true =>
   have HV : Hid (Jq T S l T2 S2 m = decide (l = m)) := by show _ = _; rw [HV0.out]; simp
   by_cases he : n = n2
   ·obtain rfl := he
    have q3 : ((n : Int) == (n : Int)) = true := by simp
    have q4 : ((n : Int) != (n : Int)) = false := by simp
    go_enter Tryz.func15, Tryz.ntmps15
    go_upto_region 1 with (fail)
    have iG : Hid (B3 29 ((w.alloc (.cells #[.string T, .string S, .slice A n cap] 29)).alloc (.cells #[.string T2, .string S2, .slice A2 n cap2] 29)) (w.heap.size + 1) (.string T2) (.string S2) (.slice A2 n cap2)) := by
     have h := heap_alloc_new (w.alloc (.cells #[.string T, .string S, .slice A n cap] 29)) (.cells #[.string T2, .string S2, .slice A2 n cap2] 29)
     simp only [World.size_alloc] at h
     exact h
    have jr : Hid (B3 29 ((w.alloc (.cells #[.string T, .string S, .slice A n cap] 29)).alloc (.cells #[.string T2, .string S2, .slice A2 n cap2] 29)) w.heap.size (.string T) (.string S) (.slice A n cap)) := B3.below (heap_alloc_new w _) ((Below.refl _ _).alloc (Nat.le_refl _) _)
    generalize (w.alloc _).alloc _ = w1 at start jr iG ⊢
    have HB1 := hid start
    clear start
    obtain ⟨c0, c1, c2⟩ := jr.out.facts
    obtain ⟨d0, d1, d2⟩ := iG.out.facts
    go_upto_region 4 with (fail)
    clear c0 c1 c2 d0 d1 d2
    go_loopw [5, 30] (fun _ vk wr => ∃ k : Nat, k ≤ n ∧ vk = .int .i64 (k : Int) ∧ Hid (l.take k = m.take k) ∧ Hid (Below w.heap.size w wr) ∧ Hid (B3 29 wr w.heap.size (.string T) (.string S) (.slice A n cap)) ∧ Hid (B3 29 wr (w.heap.size + 1) (.string T2) (.string S2) (.slice A2 n cap2))) (fun _ vk _ => n - (intOf vk).toNat)
    case atStart => exact ⟨0, Nat.zero_le _, rfl, rfl, HB1.out, jr.out, iG.out⟩
    case round =>
     obtain ⟨k, hk, rfl, HT, iM, jr, iG⟩ := hrel
     by_cases hlt : k < n
     ·have hkl : k < l.length := by rw [HN.out]; exact hlt
      have hkm : k < m.length := by rw [xk.out]; exact hlt
      obtain ⟨b, off, rfl, hb, h1, h2⟩ := (HR.out.under iM.out (Nat.le_refl _)).2 k hkl
      obtain ⟨b2, off2, rfl, hb2, h3, h4⟩ := (HR2.out.under iM.out (Nat.le_refl _)).2 k hkm
      have HTT := hid (Tj hkl hkm HT.out)
      have HX : Hid (l[k] ≠ m[k] → l ≠ m) := by
       intro e1 e2
       subst e2
       exact e1 rfl
      obtain ⟨⟨s1, s2⟩, hs⟩ : ∃ s, s = l[k] := ⟨_, rfl⟩
      obtain ⟨⟨t1, t2⟩, ht⟩ : ∃ s, s = m[k] := ⟨_, rfl⟩
      rw [← hs] at h1 h2 HX HTT
      rw [← ht] at h3 h4 HX HTT
      clear hs ht hkl hkm hb hb2
      have hki : (k : Int) < (n : Int) := by omega
      simp only [] at h1 h2 h3 h4
      obtain ⟨c0, c1, c2⟩ := jr.out.facts
      obtain ⟨d0, d1, d2⟩ := iG.out.facts
      by_cases e1 : s1 = t1
      ·by_cases e2 : s2 = t2
       ·have HY : Hid (l.take (k + 1) = m.take (k + 1)) := HTT.out (by rw [e1, e2])
        have p1 := (tX s1 t1).2 e1
        have p2 := (tX s2 t2).2 e2
        have HE1 := hid e1
        have HE2 := hid e2
        clear e1 e2
        go_wp2_with fail
        go_quiet (fail)
        have hbq := iM.out.trans ((below_drewN' wr nq).mono iM.out.size)
        have HXq : Hid (B3 29 (wr.drewN nq) w.heap.size (.string T) (.string S) (.slice (some ⟨b, off, none⟩) n cap)) := jr.out
        have HXq2 : Hid (B3 29 (wr.drewN nq) (w.heap.size + 1) (.string T2) (.string S2) (.slice (some ⟨b2, off2, none⟩) n cap2)) := iG.out
        generalize wr.drewN nq = wq at hbq HXq HXq2 ⊢
        go_wp2
        go_roundw
        case rel => exact ⟨k + 1, by omega, by go_num, HY.out, hbq, HXq.out, HXq2.out⟩
        case measure => simp [intOf]; omega
       ·have HE : Hid (decide (l = m) = false) := decide_eq_false (HX.out (fun h => e2 (by injection h)))
        have p1 := (tX s1 t1).2 e1
        have p2 : ¬ s2.toList = t2.toList := fun h => e2 ((tX s2 t2).1 h)
        have HE1 := hid e1
        have HE2 := hid e2
        clear e1 e2
        go_wp2_with fail
        go_quiet (fail)
        have hbq := iM.out.trans ((below_drewN' wr nq).mono iM.out.size)
        generalize wr.drewN nq = wq at hbq ⊢
        go_wp2
        go_ret
        exact ⟨aB (by rw [HV.out, HE.out]), hbq⟩
      ·have HE : Hid (decide (l = m) = false) := decide_eq_false (HX.out (fun h => e1 (by injection h)))
       have p1 : ¬ s1.toList = t1.toList := fun h => e1 ((tX s1 t1).1 h)
       have HE1 := hid e1
       clear e1
       go_wp2_with fail
       go_quiet (fail)
       have hbq := iM.out.trans ((below_drewN' wr nq).mono iM.out.size)
       generalize wr.drewN nq = wq at hbq ⊢
       go_wp2
       go_ret
       exact ⟨aB (by rw [HV.out, HE.out]), hbq⟩
     ·obtain rfl : k = n := by omega
      have HE : Hid (decide (l = m) = true) := decide_eq_true (by
       have h := HT.out
       rw [List.take_of_length_le (by rw [HN.out]; exact Nat.le_refl _), List.take_of_length_le (by rw [xk.out]; exact Nat.le_refl _)] at h
       exact h)
      go_wp2
      go_ret
      exact ⟨aB (by rw [HV.out, HE.out]), iM.out⟩
   ·have q3 : ((n : Int) == (n2 : Int)) = false := by simp; omega
    have q4 : ((n : Int) != (n2 : Int)) = true := by simp; omega
    have HE : Hid (decide (l = m) = false) := decide_eq_false (fun h => he (by rw [← HN.out, ← xk.out, h]))
    clear he
    go_enter Tryz.func15, Tryz.ntmps15
    go_wp2
    go_ret
    exact ⟨aB (by rw [HV.out, HE.out]), start⟩
end Go.Proofs.YtcfgioklgmlclaaGreatDoor.Nk
namespace Go.Proofs.YtcfgioklgmlclaaGreatDoor.Qv
open Go.RowKit Base aP fE nV qL G5 J7 lJ Nj xu Um acg aam Nk uq Ul
theorem EN (T S : ByteArray) (l : List (ByteArray × ByteArray)) : Jq T S l T S l = true := by unfold Jq; simp
end Go.Proofs.YtcfgioklgmlclaaGreatDoor.Qv
