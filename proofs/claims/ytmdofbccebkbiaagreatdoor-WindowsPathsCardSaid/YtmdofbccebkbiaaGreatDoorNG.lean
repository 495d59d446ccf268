/- Texts that belong together: Ox. -/
import Derived.Test.YtmdofbccebkbiaaGreatDoorNC
import Derived.Test.YtmdofbccebkbiaaGreatDoorNF
import Derived.Test.YtmdofbccebkbiaaGreatDoorMW
set_option linter.unusedSimpArgs false
set_option linter.unusedVariables false
set_option maxRecDepth 100000
set_option maxHeartbeats 64000000
namespace Go.Proofs.YtmdofbccebkbiaaGreatDoor.Ox
open Go.RowKit Base aT rJ xJ Rk Oa XI BldF zX
open Go.Proofs.YtmdofbccebkbiaaGreatDoor.zW (Env)
open Go.Proofs.YtmdofbccebkbiaaGreatDoor.PosV (FIL tl)
open Go.Proofs.YtmdofbccebkbiaaGreatDoor.bQ (aF bP oC jD)
def brk (s : List UInt8) : Bool := s.any fun c => decide (c = 92) || decide (c = 47)
def gQ (l : List ByteArray) : List UInt8 := l.flatMap fun s => 92 :: fA.dec s.data.toList
def jf (l : List ByteArray) : Bool := l.all fun s => !brk (fA.dec s.data.toList)
def headW (h : List UInt8) (l : List ByteArray) : List UInt8 := if h ≠ [] then 92 :: 92 :: h else (l.head?.map fun a => a.data.toList).getD []
def nR (h : List UInt8) (l : List ByteArray) : List ByteArray := if h ≠ [] then l else l.drop 1
def nI (h : List UInt8) (l : List ByteArray) : Option (List UInt8) := if jf (nR h l) = true ∧ jc (headW h l ++ gQ (nR h l)) = true then some (headW h l ++ gQ (nR h l)) else none
def lQ (au h : List UInt8) (b6 : Bool) (l : List ByteArray) : List UInt8 × Int :=
 if au ≠ FIL ∨ b6 = true then ([], 2) else ((nI h l).map fun o => (o, (0 : Int))).getD ([], 2)
theorem uH (l : List ByteArray) (s : ByteArray) : gQ (l ++ [s]) = gQ l ++ (92 :: fA.dec s.data.toList) := by simp [gQ]
theorem iO (l : List ByteArray) : (gQ l).length ≤ (aF l).length := by
 induction l with
 | nil => exact Nat.le_refl _
 | cons a l ih =>
  have h := fA.iF a.data.toList
  have e1 : gQ (a :: l) = (92 :: fA.dec a.data.toList) ++ gQ l := rfl
  have e2 : aF (a :: l) = (47 :: a.data.toList) ++ aF l := rfl
  rw [e1, e2, List.length_append, List.length_append, List.length_cons, List.length_cons]
  omega
theorem qN (l : List ByteArray) (k : Nat) (h : k < l.length) : jf (l.take (k + 1)) = (jf (l.take k) && !brk (fA.dec l[k].data.toList)) := by
 unfold jf
 rw [take_snoc l k h, List.all_append]
 simp
theorem yj {l : List ByteArray} (k : Nat) (h : k < l.length) (hc : brk (fA.dec l[k].data.toList) = true) : jf l = false := by
 cases e : jf l with
 | false => rfl
 | true =>
  have h1 := List.all_eq_true.1 e _ (List.getElem_mem h)
  rw [hc] at h1
  cases h1
theorem aae (l : List ByteArray) : (aF (l.drop 1)).length ≤ (aF l).length := by
 cases l with
 | nil => exact Nat.le_refl _
 | cons a l =>
  have e2 : aF (a :: l) = (47 :: a.data.toList) ++ aF l := rfl
  rw [e2, List.length_append]
  exact Nat.le_add_left _ _
theorem yE (s0 s1 s2 s3 : ByteArray) (b4 : Bool) (z5 : Int) (b6 : Bool) (s7 : ByteArray) (A : Option Addr) (n cap : Nat) (l : List ByteArray) (b9 b10 : Bool) (s11 s12 : ByteArray) (w : World) (hR : bK w A n (l.map Value.string)) (hnc : n ≤ cap) (hcm : cap ≤ maxLen) (hl : (aF l).length + s3.size ≤ 800000) (hE : Env w) :
  Calls Tryz.prog 34 #[.agg #[.string s0, .string s1, .string s2, .string s3, .bool b4, .int .i64 z5, .bool b6, .string s7, .slice A n cap, .bool b9, .bool b10, .string s11, .string s12]] w fun e w' => e = .returned (.tuple #[.string (strOf (lQ s0.data.toList s3.data.toList b6 l).1), .int .i64 (lQ s0.data.toList s3.data.toList b6 l).2]) ∧ Below w.heap.size w w' := by
 have hn : l.length = n := by rw [← hR.1, List.length_map]
 have hpl := bP l
 have h3l : s3.data.toList.length = s3.size := Array.length_toList
 unfold maxLen at hcm
 obtain ⟨V, hV⟩ : ∃ V, V = lQ s0.data.toList s3.data.toList b6 l := ⟨_, rfl⟩
 rw [← hV]
 by_cases e0 : s0.data.toList = FIL
 ·have q0 : (s0.toList == [102, 105, 108, 101]) = true := by rw [tl, e0]; rfl
  cases b6 with
  | true =>
   have HV : Hid (V = ([], 2)) := by show _ = _; rw [hV]; unfold lQ; rw [if_pos (.inr rfl)]
   clear hn hpl hR hl hV e0 hE h3l
   go_enter Tryz.func34, Tryz.ntmps34
   go_wp2
   go_ret2
   exact ⟨by rw [HV.out]; first | done | rfl, (Below.refl _ _).alloc (Nat.le_refl _) _⟩
  | false =>
   obtain ⟨BS, hBS⟩ : ∃ b, b = headW s3.data.toList l := ⟨_, rfl⟩
   obtain ⟨R, hRR⟩ : ∃ r, r = nR s3.data.toList l := ⟨_, rfl⟩
   have HVN : Hid (jf R = false → V = ([], 2)) := fun h => by rw [hV]; unfold lQ nI; rw [if_neg (by rintro (h | h); exact h e0; cases h), ← hRR, h, if_neg (by rintro ⟨h, _⟩; cases h)]; rfl
   have XC : Hid (jf R = true → V = if jc (BS ++ gQ R) = true then (BS ++ gQ R, 0) else ([], 2)) := fun h => by
    rw [hV]; unfold lQ nI; rw [if_neg (by rintro (h | h); exact h e0; cases h), ← hRR, ← hBS, h]
    cases jc (BS ++ gQ R) with
    | true => rw [if_pos ⟨rfl, rfl⟩, if_pos rfl]; rfl
    | false => rw [if_neg (by rintro ⟨_, h⟩; cases h), if_neg (by decide)]; rfl
   have HE := hid hE
   by_cases e3 : s3.data.toList = []
   ·have q3 : s3.toList = [] := by rw [tl]; exact e3
    have q3' : (s3.toList == []) = true := by rw [q3]; rfl
    have wW : R = l.drop 1 := by rw [hRR]; unfold nR; rw [if_neg (fun h => h e3)]
    by_cases hn1 : 0 < n
    ·have hnI : (0 : Int) < (n : Int) := by omega
     obtain ⟨g0, kS, rfl, hg0, hcell0⟩ := hR.spot hn1
     have hcut := hR.cut 1 (by omega)
     have hl0 : 0 < l.length := by omega
     have hc0 := hcell0 0 (by rw [List.length_map]; exact hl0)
     rw [List.getElem_map] at hc0
     obtain ⟨a, ha⟩ : ∃ a, a = l[0] := ⟨_, rfl⟩
     rw [← ha] at hc0
     have hBa : BS = a.data.toList := by rw [hBS]; unfold headW; rw [if_neg (fun h => h e3), List.head?_eq_getElem?, List.getElem?_eq_getElem hl0, ha]; rfl
     have hsa := oC l 0 hl0
     rw [← ha] at hsa
     obtain ⟨n2, hn2⟩ : ∃ n2, n2 = n - 1 := ⟨_, rfl⟩
     have HN : Hid (R.length = n2) := by show _ = _; rw [wW, List.length_drop, hn2, hn]
     have HRR : Hid (bK w (some ⟨g0, kS + 1, none⟩) n2 (R.map Value.string)) := by show bK _ _ _ _; rw [hn2, wW, List.map_drop]; exact hcut
     have hpd := aae l
     have wY := hid (bP R)
     have hal : a.data.toList.length = a.size := Array.length_toList
     have hbl : BS.length = a.size := by rw [hBa]; exact hal
     have hpc : (aF (l.drop 1)).length + a.size ≤ (aF l).length := by
      match l, hl0, ha with
      | x :: r, _, ha =>
       have ex : a = x := ha
       subst ex
       show (aF r).length + a.size ≤ ((47 :: a.data.toList) ++ aF r).length
       rw [List.length_append, List.length_cons, hal]
       omega
     have wP : Hid ((aF R).length + BS.length ≤ 800002) := by show _ ≤ _; rw [wW, hbl]; omega
     have AQ : Hid (BS.length ≤ 800002) := by show _ ≤ _; omega
     have hBe : strOf BS = a := by rw [hBa]; exact aS a
     have hc2' : (1 : Int) ≤ (n : Int) := by omega
     have F5 := hid hBe
     have has : a.size ≤ 800000 := by omega
     have HN1 := hid hn2
     have hn9 : n ≤ 9223372036854775807 := by omega
     have hn29 : n2 ≤ 9223372036854775807 := by omega
     by_cases hcap : cap = 1
     ·obtain rfl : cap = 1 := hcap
      obtain rfl : n = 1 := by omega
      obtain rfl : n2 = 0 := by omega
      have hrn : R = [] := List.eq_nil_of_length_eq_zero HN.out
      have HRR : Hid (bK w (some ⟨g0, kS, none⟩) 0 (R.map Value.string)) := by show bK _ _ _ _; rw [hrn]; first | done | exact bK.nil _
      clear hrn
      clear hn hpl hR hl hV e0 hE h3l hBS hRR wW hBa hn2 e3 hcut hcell0 hsa hpd hal hbl hpc hBe ha
      go_enter Tryz.func34, Tryz.ntmps34
      go_upto_region 8 with (fail)
      generalize hw1 : w.alloc _ = w1
      have HB1 : Hid (Below w.heap.size w w1) := by show Below _ _ _; rw [← hw1]; exact (Below.refl _ _).alloc (Nat.le_refl _) _
      have hs1 : w1.heap.size = w.heap.size + 1 := by rw [← hw1]; simp
      clear hw1
      have LM : Hid (mg (w.heap.size + 1) (w.heap.size + 1) [] (w1.alloc (.cells #[.pointer none, .slice none 0 0] 77))) := by
       have h := Lib.fresh_isBuilder 77 5 w1
       rw [hs1] at h
       exact h
      have Ed : Hid (Below (w.heap.size + 1) w1 (w1.alloc (.cells #[.pointer none, .slice none 0 0] 77))) := (Below.refl _ _).alloc (by rw [hs1]; exact Nat.le_refl _) _
      have hbw : Below w.heap.size w (w1.alloc (.cells #[.pointer none, .slice none 0 0] 77)) := HB1.out.trans (Ed.out.mono (Nat.le_succ _))
      have hc8 : (w1.alloc (.cells #[.pointer none, .slice none 0 0] 77)).cell? ⟨g0, kS, none⟩ = some (.string a) := (hbw.cell (p := ⟨g0, kS, none⟩) hg0).trans hc0
      have h0J : (0 : Int) < ((1 : Nat) : Int) := by decide
      go_wp2_with fail
      clear hc8 hbw
      refine (write_any _ _ _ _ _ LM.out (by show 0 + a.size ≤ _; omega) (by simp; omega)).mono ?_
      rintro e w6 ⟨rfl, hB6, hb6⟩
      have HB0 : Hid (mg (w.heap.size + 1) (w.heap.size + 1) BS w6) := by
       show mg _ _ _ _
       have h := hB6
       rw [← F5.out] at h
       exact h
      have Gw := hid (Ed.out.trans hb6)
      clear hB6 hb6 LM Ed hc0
      go_wp2
      go_loopw [7, 8, 38] (fun _ _ vk wr => ∃ k : Nat, k ≤ 0 ∧ vk = .int .i64 (k : Int) ∧ Hid (mg (w.heap.size + 1) (w.heap.size + 1) (BS ++ gQ (R.take k)) wr) ∧ Hid (Below (w.heap.size + 1) w1 wr) ∧ Hid (jf (R.take k) = true)) (fun _ _ vk _ => 0 - (intOf vk).toNat)
      case atStart => exact ⟨0, Nat.zero_le _, rfl, (by show mg _ _ _ _; rw [List.take_zero]; show mg _ _ (BS ++ []) _; rw [List.append_nil]; exact HB0.out), Gw.out, rfl⟩
      case round =>
       clear HB0 Gw
       obtain ⟨k, hk, rfl, HB, eP, HF⟩ := hrel
       have hb1 := HB1.out
       have hsz : w.heap.size + 1 ≤ wr.heap.size := by have := eP.out.size; rw [hs1] at this; exact this
       by_cases hlt : k < 0
       ·exact absurd hlt (Nat.not_lt_zero _)
       ·obtain rfl : k = 0 := by omega
        have hT : R.take 0 = R := List.take_of_length_le (by rw [HN.out]; exact Nat.le_refl _)
        rw [hT] at HB HF
        have hol : (BS ++ gQ R).length ≤ 900000 := by have h1 := iO R; have h2 := wP.out; have h3 := AQ.out; rw [List.length_append]; omega
        obtain ⟨O, hO⟩ : ∃ O, O = BS ++ gQ R := ⟨_, rfl⟩
        rw [← hO] at HB hol
        obtain ⟨f, hf⟩ : ∃ f, f = jc O := ⟨_, rfl⟩
        have FM : Hid (∀ w : World, Env w → Calls Tryz.prog 36 #[.string (strOf O)] w fun e w' => e = .returned (.bool f) ∧ Below w.heap.size w w') := fun w h => by rw [hf]; exact zW.ni (strOf O) w (by rw [ah]; omega) h
        have GK : Hid (V = if f = true then (O, 0) else ([], 2)) := by show _ = _; rw [XC.out HF.out, ← hO, ← hf]
        clear hT hO hf hol
        go_wp2_with fail
        refine (gZ _ _ _ _ (Ii HB.out) hsz).mono ?_
        rintro e w3 ⟨rfl, hBS, hb3⟩
        have TW := hid hBS
        clear hBS
        have kL := hid (eP.out.trans hb3)
        have BX : Hid (Below w.heap.size w w3) := hb1.trans (kL.out.mono (by omega))
        go_wp2_with fail
        refine (FM.out _ (HE.out.below BX.out)).mono ?_
        rintro e w4 ⟨rfl, hb4⟩
        have oP := hid (bel BX.out hb4)
        cases f with
        | false =>
         have pO : Hid (V = ([], 2)) := by show _ = _; rw [GK.out]; rfl
         clear hb3 hb4 TW
         go_wp2
         go_ret2
         exact ⟨by rw [pO.out]; first | done | rfl, oP.out⟩
        | true =>
         have pO : Hid (V = (O, 0)) := by show _ = _; rw [GK.out]; rfl
         have HB4 : Hid (IsF (w.heap.size + 1) (w.heap.size + 1) O w4) := uj TW.out hb4
         have yx : w.heap.size + 1 ≤ w4.heap.size := by have h1 := kL.out.size; have h2 := hb4.size; rw [hs1] at h1; omega
         clear hb4
         go_wp2_with fail
         refine (gZ _ _ _ _ HB4.out yx).mono ?_
         rintro e w5 ⟨rfl, _, hb5⟩
         have LP : Hid (Below w.heap.size w w5) := oP.out.trans (hb5.mono (by omega))
         clear hb5
         go_wp2
         go_ret2
         exact ⟨by rw [pO.out]; first | done | rfl, LP.out⟩
     ·have hcap2 : 2 ≤ cap := by omega
      clear hcap
      clear hn hpl hR hl hV e0 hE h3l hBS hRR wW hBa hn2 e3 hcut hcell0 hsa hpd hal hbl hpc hBe ha
      go_enter Tryz.func34, Tryz.ntmps34
      go_upto_region 8 with (fail)
      generalize hw1 : w.alloc _ = w1
      have HB1 : Hid (Below w.heap.size w w1) := by show Below _ _ _; rw [← hw1]; exact (Below.refl _ _).alloc (Nat.le_refl _) _
      have hs1 : w1.heap.size = w.heap.size + 1 := by rw [← hw1]; simp
      clear hw1
      have LM : Hid (mg (w.heap.size + 1) (w.heap.size + 1) [] (w1.alloc (.cells #[.pointer none, .slice none 0 0] 77))) := by
       have h := Lib.fresh_isBuilder 77 5 w1
       rw [hs1] at h
       exact h
      have Ed : Hid (Below (w.heap.size + 1) w1 (w1.alloc (.cells #[.pointer none, .slice none 0 0] 77))) := (Below.refl _ _).alloc (by rw [hs1]; exact Nat.le_refl _) _
      have hbw : Below w.heap.size w (w1.alloc (.cells #[.pointer none, .slice none 0 0] 77)) := HB1.out.trans (Ed.out.mono (Nat.le_succ _))
      have hc8 : (w1.alloc (.cells #[.pointer none, .slice none 0 0] 77)).cell? ⟨g0, kS, none⟩ = some (.string a) := (hbw.cell (p := ⟨g0, kS, none⟩) hg0).trans hc0
      have h0J : (0 : Int) < (n : Int) := hnI
      go_wp2_with fail
      clear hc8 hbw
      refine (write_any _ _ _ _ _ LM.out (by show 0 + a.size ≤ _; omega) (by simp; omega)).mono ?_
      rintro e w6 ⟨rfl, hB6, hb6⟩
      have HB0 : Hid (mg (w.heap.size + 1) (w.heap.size + 1) BS w6) := by
       show mg _ _ _ _
       have h := hB6
       rw [← F5.out] at h
       exact h
      have Gw := hid (Ed.out.trans hb6)
      clear hB6 hb6 LM Ed hc0
      go_wp2
      rw [← HN1.out]
      go_loopw [7, 8, 38] (fun _ _ vk wr => ∃ k : Nat, k ≤ n2 ∧ vk = .int .i64 (k : Int) ∧ Hid (mg (w.heap.size + 1) (w.heap.size + 1) (BS ++ gQ (R.take k)) wr) ∧ Hid (Below (w.heap.size + 1) w1 wr) ∧ Hid (jf (R.take k) = true)) (fun _ _ vk _ => n2 - (intOf vk).toNat)
      case atStart => exact ⟨0, Nat.zero_le _, rfl, (by show mg _ _ _ _; rw [List.take_zero]; show mg _ _ (BS ++ []) _; rw [List.append_nil]; exact HB0.out), Gw.out, rfl⟩
      case round =>
       clear HB0 Gw
       obtain ⟨k, hk, rfl, HB, eP, HF⟩ := hrel
       have hb1 := HB1.out
       have hsz : w.heap.size + 1 ≤ wr.heap.size := by have := eP.out.size; rw [hs1] at this; exact this
       by_cases hlt : k < n2
       ·have hkl : k < R.length := by rw [HN.out]; exact hlt
        have hRr := HRR.out.below (hb1.trans (eP.out.mono (by omega)))
        obtain ⟨g, off, eA, hg, hcell⟩ := hRr.spot (by omega)
        cases eA
        have hc := hcell k (by rw [List.length_map]; exact hkl)
        rw [List.getElem_map] at hc
        obtain ⟨s, hs⟩ : ∃ s, s = R[k] := ⟨_, rfl⟩
        rw [← hs] at hc
        obtain ⟨D, hD⟩ : ∃ D, D = fA.dec s.data.toList := ⟨_, rfl⟩
        have hDl : D.length ≤ s.size := by rw [hD]; have := fA.iF s.data.toList; rwa [show s.data.toList.length = s.size from Array.length_toList] at this
        have HS : Hid (BS ++ gQ (R.take (k + 1)) = (BS ++ gQ (R.take k)) ++ (92 :: D)) := by show _ = _; rw [take_snoc R k hkl, uH, ← hs, hD, List.append_assoc]
        have hsum := oC R k hkl
        have qR := jD R (k + 1)
        have hpk := iO (R.take k)
        rw [bP, List.length_take, Nat.min_eq_left (by omega)] at hpk
        have hpl := wY.out
        have hll := wP.out
        rw [← hs] at hsum
        have hss : s.size ≤ 899999 := by omega
        have JA : Hid (∀ w : World, Calls Tryz.prog 59 #[.string s] w fun e w' => ∃ v, e = .returned v ∧ w'.ownsRow w.heap.size 5 1 v D.length (aJ D) ∧ Below w.heap.size w w') := fun w => by rw [hD]; exact fA.decode_any s w (by omega)
        obtain ⟨q, hq⟩ : ∃ q, q = brk D := ⟨_, rfl⟩
        have LQ : Hid (∀ w : World, Calls Tryz.prog 75 #[.string (strOf D), .string ⟨#[92, 47]⟩] w fun e w' => e = .returned (.bool q) ∧ Below w.heap.size w w') := fun w => by rw [hq]; exact PthM.pW (strOf D) w (by rw [ah]; omega)
        have a1 : ∀ w : World, (Op.stringOp .add ⟨#[92]⟩ (strOf D)).run Tryz.prog w = .ok (.string (strOf (92 :: D))) w := fun w => dP ⟨#[92]⟩ (strOf D) w (by rw [ah]; show 1 + D.length ≤ _; omega)
        have HLEN : Hid ((BS ++ gQ (R.take k)).length + (1 + D.length) ≤ 140737488355328) := by show _ ≤ _; rw [List.length_append]; have := AQ.out; omega
        have O8 : q = true → V = ([], 2) := fun h => HVN.out (yj k hkl (by rw [← hs, ← hD, ← hq]; exact h))
        have O9 : q = false → jf (R.take (k + 1)) = true := fun h => by rw [qN R k hkl, HF.out, ← hs, ← hD, ← hq, h]; rfl
        have VI := hid O8
        have XY := hid O9
        clear hs hD hq hsum qR hpk hpl hll hRr hcell hkl O8 O9 hDl
        go_wp2_with fail
        refine (JA.out _).mono ?_
        rintro e w3 ⟨v3, rfl, hown, hb3⟩
        obtain ⟨A3, c3, rfl, hc3, XE, hr3⟩ := aU hown
        have hst := aP 61 9 5 Tryz.underlying61 Tryz.underlying5 Tryz.underlying9 _ c3 hr3
        have Sv := fun k => aP 61 9 5 Tryz.underlying61 Tryz.underlying5 Tryz.underlying9 _ c3 (yX hr3 k)
        have HB3 := hid (iw HB.out hb3)
        have kL : Hid (Below (w.heap.size + 1) w1 w3) := eP.out.trans (hb3.mono hsz)
        clear hown hb3 hr3 XE hc3
        go_wp2_with fail
        refine (LQ.out _).mono ?_
        rintro e w4 ⟨rfl, hb4⟩
        have hsz3 : w.heap.size + 1 ≤ w3.heap.size := by have := kL.out.size; rw [hs1] at this; exact this
        have HB4 := hid (iw HB3.out hb4)
        have AP : Hid (Below (w.heap.size + 1) w1 w4) := kL.out.trans (hb4.mono hsz3)
        clear hst Sv hb4
        cases q with
        | true =>
         have pO : Hid (V = ([], 2)) := VI.out rfl
         go_wp2
         go_ret2
         exact ⟨by rw [pO.out]; first | done | rfl, hb1.trans (AP.out.mono (by omega))⟩
        | false =>
         have QS := hid (XY.out rfl)
         have yx : w.heap.size + 1 ≤ w4.heap.size := by have := AP.out.size; rw [hs1] at this; exact this
         go_wp2_with fail
         refine (write_any _ _ _ _ _ HB4.out (by rw [ah]; have := HLEN.out; simp at this ⊢; omega) yx).mono ?_
         rintro e w5 ⟨rfl, Y2, hb5⟩
         have rE : Hid (mg (w.heap.size + 1) (w.heap.size + 1) (BS ++ gQ (R.take (k + 1))) w5) := by show mg _ _ _ _; rw [HS.out]; exact Y2
         have xk := hid (AP.out.trans hb5)
         clear Y2 hb5
         go_wp2
         go_roundw
         case rel => exact ⟨k + 1, by omega, by go_num, rE, xk, QS⟩
         case measure => simp [intOf]; omega
       ·obtain rfl : k = n2 := by omega
        have hT : R.take k = R := List.take_of_length_le (by rw [HN.out]; exact Nat.le_refl _)
        rw [hT] at HB HF
        have hol : (BS ++ gQ R).length ≤ 900000 := by have h1 := iO R; have h2 := wP.out; have h3 := AQ.out; rw [List.length_append]; omega
        obtain ⟨O, hO⟩ : ∃ O, O = BS ++ gQ R := ⟨_, rfl⟩
        rw [← hO] at HB hol
        obtain ⟨f, hf⟩ : ∃ f, f = jc O := ⟨_, rfl⟩
        have FM : Hid (∀ w : World, Env w → Calls Tryz.prog 36 #[.string (strOf O)] w fun e w' => e = .returned (.bool f) ∧ Below w.heap.size w w') := fun w h => by rw [hf]; exact zW.ni (strOf O) w (by rw [ah]; omega) h
        have GK : Hid (V = if f = true then (O, 0) else ([], 2)) := by show _ = _; rw [XC.out HF.out, ← hO, ← hf]
        clear hT hO hf hol
        go_wp2_with fail
        refine (gZ _ _ _ _ (Ii HB.out) hsz).mono ?_
        rintro e w3 ⟨rfl, hBS, hb3⟩
        have TW := hid hBS
        clear hBS
        have kL := hid (eP.out.trans hb3)
        have BX : Hid (Below w.heap.size w w3) := hb1.trans (kL.out.mono (by omega))
        go_wp2_with fail
        refine (FM.out _ (HE.out.below BX.out)).mono ?_
        rintro e w4 ⟨rfl, hb4⟩
        have oP := hid (bel BX.out hb4)
        cases f with
        | false =>
         have pO : Hid (V = ([], 2)) := by show _ = _; rw [GK.out]; rfl
         clear hb3 hb4 TW
         go_wp2
         go_ret2
         exact ⟨by rw [pO.out]; first | done | rfl, oP.out⟩
        | true =>
         have pO : Hid (V = (O, 0)) := by show _ = _; rw [GK.out]; rfl
         have HB4 : Hid (IsF (w.heap.size + 1) (w.heap.size + 1) O w4) := uj TW.out hb4
         have yx : w.heap.size + 1 ≤ w4.heap.size := by have h1 := kL.out.size; have h2 := hb4.size; rw [hs1] at h1; omega
         clear hb4
         go_wp2_with fail
         refine (gZ _ _ _ _ HB4.out yx).mono ?_
         rintro e w5 ⟨rfl, _, hb5⟩
         have LP : Hid (Below w.heap.size w w5) := oP.out.trans (hb5.mono (by omega))
         clear hb5
         go_wp2
         go_ret2
         exact ⟨by rw [pO.out]; first | done | rfl, LP.out⟩
    ·obtain rfl : n = 0 := by omega
     have hnI : ¬ (0 : Int) < ((0 : Nat) : Int) := by decide
     have hl0 : l = [] := List.eq_nil_of_length_eq_zero hn
     obtain ⟨n2, hn2⟩ : ∃ n2, n2 = 0 := ⟨_, rfl⟩
     have hBa : BS = [] := by rw [hBS, hl0]; unfold headW; rw [if_neg (fun h => h e3)]; rfl
     have hRe : R = [] := by rw [wW, hl0]; rfl
     have HN : Hid (R.length = n2) := by show _ = _; rw [hRe, hn2]; rfl
     obtain ⟨A2, hA2⟩ : ∃ A2 : Option Addr, A2 = A := ⟨_, rfl⟩
     have HRR : Hid (bK w A2 n2 (R.map Value.string)) := by show bK _ _ _ _; rw [hRe, hn2]; exact bK.nil _
     have wY := hid (bP R)
     have wP : Hid ((aF R).length + BS.length ≤ 800002) := by show _ ≤ _; rw [hRe, hBa]; decide
     have AQ : Hid (BS.length ≤ 800002) := by show _ ≤ _; rw [hBa]; decide
     have F5 := hid hBa
     rw [← hn2, ← hA2]
     have HN1 := hid hn2
     have hnI2 : ¬ (0 : Int) < (n2 : Int) := by omega
     clear hn hpl hR hl hV e0 hE h3l hBS hRR wW hBa hRe hn2 hA2 e3 hl0 hn1 hnI
     go_enter Tryz.func34, Tryz.ntmps34
     go_wp2
     generalize hw1 : w.alloc _ = w1
     have HB1 : Hid (Below w.heap.size w w1) := by show Below _ _ _; rw [← hw1]; exact (Below.refl _ _).alloc (Nat.le_refl _) _
     have hs1 : w1.heap.size = w.heap.size + 1 := by rw [← hw1]; simp
     clear hw1
     have LM : Hid (mg (w.heap.size + 1) (w.heap.size + 1) [] (w1.alloc (.cells #[.pointer none, .slice none 0 0] 77))) := by
      have h := Lib.fresh_isBuilder 77 5 w1
      rw [hs1] at h
      exact h
     have Ed : Hid (Below (w.heap.size + 1) w1 (w1.alloc (.cells #[.pointer none, .slice none 0 0] 77))) := (Below.refl _ _).alloc (by rw [hs1]; exact Nat.le_refl _) _
     have HB0 : Hid (mg (w.heap.size + 1) (w.heap.size + 1) BS (w1.alloc (.cells #[.pointer none, .slice none 0 0] 77))) := by show mg _ _ _ _; rw [F5.out]; exact LM.out
     have Gw := Ed
     clear LM Ed
     go_loopw [7, 8, 38] (fun _ _ vk wr => ∃ k : Nat, k ≤ n2 ∧ vk = .int .i64 (k : Int) ∧ Hid (mg (w.heap.size + 1) (w.heap.size + 1) (BS ++ gQ (R.take k)) wr) ∧ Hid (Below (w.heap.size + 1) w1 wr) ∧ Hid (jf (R.take k) = true)) (fun _ _ vk _ => n2 - (intOf vk).toNat)
     case atStart => exact ⟨0, Nat.zero_le _, rfl, (by show mg _ _ _ _; rw [List.take_zero]; show mg _ _ (BS ++ []) _; rw [List.append_nil]; exact HB0.out), Gw.out, rfl⟩
     case round =>
      clear HB0 Gw
      obtain ⟨k, hk, rfl, HB, eP, HF⟩ := hrel
      have hb1 := HB1.out
      have hsz : w.heap.size + 1 ≤ wr.heap.size := by have := eP.out.size; rw [hs1] at this; exact this
      by_cases hlt : k < n2
      ·have hkl : k < R.length := by rw [HN.out]; exact hlt
       have hRr := HRR.out.below (hb1.trans (eP.out.mono (by omega)))
       obtain ⟨g, off, eA, hg, hcell⟩ := hRr.spot (by omega)
       cases eA
       have hc := hcell k (by rw [List.length_map]; exact hkl)
       rw [List.getElem_map] at hc
       obtain ⟨s, hs⟩ : ∃ s, s = R[k] := ⟨_, rfl⟩
       rw [← hs] at hc
       obtain ⟨D, hD⟩ : ∃ D, D = fA.dec s.data.toList := ⟨_, rfl⟩
       have hDl : D.length ≤ s.size := by rw [hD]; have := fA.iF s.data.toList; rwa [show s.data.toList.length = s.size from Array.length_toList] at this
       have HS : Hid (BS ++ gQ (R.take (k + 1)) = (BS ++ gQ (R.take k)) ++ (92 :: D)) := by show _ = _; rw [take_snoc R k hkl, uH, ← hs, hD, List.append_assoc]
       have hsum := oC R k hkl
       have qR := jD R (k + 1)
       have hpk := iO (R.take k)
       rw [bP, List.length_take, Nat.min_eq_left (by omega)] at hpk
       have hpl := wY.out
       have hll := wP.out
       rw [← hs] at hsum
       have hss : s.size ≤ 899999 := by omega
       have JA : Hid (∀ w : World, Calls Tryz.prog 59 #[.string s] w fun e w' => ∃ v, e = .returned v ∧ w'.ownsRow w.heap.size 5 1 v D.length (aJ D) ∧ Below w.heap.size w w') := fun w => by rw [hD]; exact fA.decode_any s w (by omega)
       obtain ⟨q, hq⟩ : ∃ q, q = brk D := ⟨_, rfl⟩
       have LQ : Hid (∀ w : World, Calls Tryz.prog 75 #[.string (strOf D), .string ⟨#[92, 47]⟩] w fun e w' => e = .returned (.bool q) ∧ Below w.heap.size w w') := fun w => by rw [hq]; exact PthM.pW (strOf D) w (by rw [ah]; omega)
       have a1 : ∀ w : World, (Op.stringOp .add ⟨#[92]⟩ (strOf D)).run Tryz.prog w = .ok (.string (strOf (92 :: D))) w := fun w => dP ⟨#[92]⟩ (strOf D) w (by rw [ah]; show 1 + D.length ≤ _; omega)
       have HLEN : Hid ((BS ++ gQ (R.take k)).length + (1 + D.length) ≤ 140737488355328) := by show _ ≤ _; rw [List.length_append]; have := AQ.out; omega
       have O8 : q = true → V = ([], 2) := fun h => HVN.out (yj k hkl (by rw [← hs, ← hD, ← hq]; exact h))
       have O9 : q = false → jf (R.take (k + 1)) = true := fun h => by rw [qN R k hkl, HF.out, ← hs, ← hD, ← hq, h]; rfl
       have VI := hid O8
       have XY := hid O9
       clear hs hD hq hsum qR hpk hpl hll hRr hcell hkl O8 O9 hDl
       go_wp2_with fail
       refine (JA.out _).mono ?_
       rintro e w3 ⟨v3, rfl, hown, hb3⟩
       obtain ⟨A3, c3, rfl, hc3, XE, hr3⟩ := aU hown
       have hst := aP 61 9 5 Tryz.underlying61 Tryz.underlying5 Tryz.underlying9 _ c3 hr3
       have Sv := fun k => aP 61 9 5 Tryz.underlying61 Tryz.underlying5 Tryz.underlying9 _ c3 (yX hr3 k)
       have HB3 := hid (iw HB.out hb3)
       have kL : Hid (Below (w.heap.size + 1) w1 w3) := eP.out.trans (hb3.mono hsz)
       clear hown hb3 hr3 XE hc3
       go_wp2_with fail
       refine (LQ.out _).mono ?_
       rintro e w4 ⟨rfl, hb4⟩
       have hsz3 : w.heap.size + 1 ≤ w3.heap.size := by have := kL.out.size; rw [hs1] at this; exact this
       have HB4 := hid (iw HB3.out hb4)
       have AP : Hid (Below (w.heap.size + 1) w1 w4) := kL.out.trans (hb4.mono hsz3)
       clear hst Sv hb4
       cases q with
       | true =>
        have pO : Hid (V = ([], 2)) := VI.out rfl
        go_wp2
        go_ret2
        exact ⟨by rw [pO.out]; first | done | rfl, hb1.trans (AP.out.mono (by omega))⟩
       | false =>
        have QS := hid (XY.out rfl)
        have yx : w.heap.size + 1 ≤ w4.heap.size := by have := AP.out.size; rw [hs1] at this; exact this
        go_wp2_with fail
        refine (write_any _ _ _ _ _ HB4.out (by rw [ah]; have := HLEN.out; simp at this ⊢; omega) yx).mono ?_
        rintro e w5 ⟨rfl, Y2, hb5⟩
        have rE : Hid (mg (w.heap.size + 1) (w.heap.size + 1) (BS ++ gQ (R.take (k + 1))) w5) := by show mg _ _ _ _; rw [HS.out]; exact Y2
        have xk := hid (AP.out.trans hb5)
        clear Y2 hb5
        go_wp2
        go_roundw
        case rel => exact ⟨k + 1, by omega, by go_num, rE, xk, QS⟩
        case measure => simp [intOf]; omega
      ·obtain rfl : k = n2 := by omega
       have hT : R.take k = R := List.take_of_length_le (by rw [HN.out]; exact Nat.le_refl _)
       rw [hT] at HB HF
       have hol : (BS ++ gQ R).length ≤ 900000 := by have h1 := iO R; have h2 := wP.out; have h3 := AQ.out; rw [List.length_append]; omega
       obtain ⟨O, hO⟩ : ∃ O, O = BS ++ gQ R := ⟨_, rfl⟩
       rw [← hO] at HB hol
       obtain ⟨f, hf⟩ : ∃ f, f = jc O := ⟨_, rfl⟩
       have FM : Hid (∀ w : World, Env w → Calls Tryz.prog 36 #[.string (strOf O)] w fun e w' => e = .returned (.bool f) ∧ Below w.heap.size w w') := fun w h => by rw [hf]; exact zW.ni (strOf O) w (by rw [ah]; omega) h
       have GK : Hid (V = if f = true then (O, 0) else ([], 2)) := by show _ = _; rw [XC.out HF.out, ← hO, ← hf]
       clear hT hO hf hol
       go_wp2_with fail
       refine (gZ _ _ _ _ (Ii HB.out) hsz).mono ?_
       rintro e w3 ⟨rfl, hBS, hb3⟩
       have TW := hid hBS
       clear hBS
       have kL := hid (eP.out.trans hb3)
       have BX : Hid (Below w.heap.size w w3) := hb1.trans (kL.out.mono (by omega))
       go_wp2_with fail
       refine (FM.out _ (HE.out.below BX.out)).mono ?_
       rintro e w4 ⟨rfl, hb4⟩
       have oP := hid (bel BX.out hb4)
       cases f with
       | false =>
        have pO : Hid (V = ([], 2)) := by show _ = _; rw [GK.out]; rfl
        clear hb3 hb4 TW
        go_wp2
        go_ret2
        exact ⟨by rw [pO.out]; first | done | rfl, oP.out⟩
       | true =>
        have pO : Hid (V = (O, 0)) := by show _ = _; rw [GK.out]; rfl
        have HB4 : Hid (IsF (w.heap.size + 1) (w.heap.size + 1) O w4) := uj TW.out hb4
        have yx : w.heap.size + 1 ≤ w4.heap.size := by have h1 := kL.out.size; have h2 := hb4.size; rw [hs1] at h1; omega
        clear hb4
        go_wp2_with fail
        refine (gZ _ _ _ _ HB4.out yx).mono ?_
        rintro e w5 ⟨rfl, _, hb5⟩
        have LP : Hid (Below w.heap.size w w5) := oP.out.trans (hb5.mono (by omega))
        clear hb5
        go_wp2
        go_ret2
        exact ⟨by rw [pO.out]; first | done | rfl, LP.out⟩
   ·have q3 : (s3.toList == []) = false := by rw [tl, beq_eq_false_iff_ne]; exact e3
    have q3' : s3.toList.isEmpty = false := by rw [tl]; simpa using e3
    have wW : R = l := by rw [hRR]; unfold nR; rw [if_pos e3]
    have hBa : BS = 92 :: 92 :: s3.data.toList := by rw [hBS]; unfold headW; rw [if_pos e3]
    have a0 : ∀ w : World, (Op.stringOp .add ⟨#[92, 92]⟩ s3).run Tryz.prog w = .ok (.string (strOf BS)) w := fun w => by
     have h := dP (P := Tryz.prog) ⟨#[92, 92]⟩ s3 w (by show 2 + s3.size ≤ _; omega)
     rw [h, hBa]
     rfl
    obtain ⟨n2, hn2⟩ : ∃ n2, n2 = n := ⟨_, rfl⟩
    obtain ⟨c2, hc2⟩ : ∃ c2, c2 = cap := ⟨_, rfl⟩
    obtain ⟨A2, hA2⟩ : ∃ A2 : Option Addr, A2 = A := ⟨_, rfl⟩
    have HN : Hid (R.length = n2) := by show _ = _; rw [wW, hn2, hn]
    have HRR : Hid (bK w A2 n2 (R.map Value.string)) := by show bK _ _ _ _; rw [hA2, hn2, wW]; exact hR
    have wY := hid (bP R)
    have hbl : BS.length = s3.size + 2 := by rw [hBa]; simp [h3l]
    have wP : Hid ((aF R).length + BS.length ≤ 800002) := by show _ ≤ _; rw [wW, hbl]; omega
    have AQ : Hid (BS.length ≤ 800002) := by show _ ≤ _; omega
    rw [← hn2, ← hc2, ← hA2]
    have hnc2 : n2 ≤ c2 := by omega
    have hcm2 : c2 ≤ 9223372036854775807 := by omega
    have hw3 : s3.size ≤ 800000 := by omega
    clear hn hpl hR hl hV e0 hE h3l hBS hRR wW hBa hn2 hc2 hA2 e3 hnc hcm hbl
    go_enter Tryz.func34, Tryz.ntmps34
    go_wp2_with fail
    generalize hw1 : w.alloc _ = w1
    have HB1 : Hid (Below w.heap.size w w1) := by show Below _ _ _; rw [← hw1]; exact (Below.refl _ _).alloc (Nat.le_refl _) _
    have hs1 : w1.heap.size = w.heap.size + 1 := by rw [← hw1]; simp
    clear hw1
    have LM : Hid (mg (w.heap.size + 1) (w.heap.size + 1) [] (w1.alloc (.cells #[.pointer none, .slice none 0 0] 77))) := by
     have h := Lib.fresh_isBuilder 77 5 w1
     rw [hs1] at h
     exact h
    have Ed : Hid (Below (w.heap.size + 1) w1 (w1.alloc (.cells #[.pointer none, .slice none 0 0] 77))) := (Below.refl _ _).alloc (by rw [hs1]; exact Nat.le_refl _) _
    refine (write_any _ _ _ _ _ LM.out (by rw [ah]; have := AQ.out; simp; omega) (by simp; omega)).mono ?_
    rintro e w6 ⟨rfl, hB6, hb6⟩
    have HB0 : Hid (mg (w.heap.size + 1) (w.heap.size + 1) BS w6) := hB6
    have Gw := hid (Ed.out.trans hb6)
    clear hB6 hb6 LM Ed a0
    go_wp2
    go_loopw [7, 8, 38] (fun _ _ vk wr => ∃ k : Nat, k ≤ n2 ∧ vk = .int .i64 (k : Int) ∧ Hid (mg (w.heap.size + 1) (w.heap.size + 1) (BS ++ gQ (R.take k)) wr) ∧ Hid (Below (w.heap.size + 1) w1 wr) ∧ Hid (jf (R.take k) = true)) (fun _ _ vk _ => n2 - (intOf vk).toNat)
    case atStart => exact ⟨0, Nat.zero_le _, rfl, (by show mg _ _ _ _; rw [List.take_zero]; show mg _ _ (BS ++ []) _; rw [List.append_nil]; exact HB0.out), Gw.out, rfl⟩
    case round =>
     clear HB0 Gw
     obtain ⟨k, hk, rfl, HB, eP, HF⟩ := hrel
     have hb1 := HB1.out
     have hsz : w.heap.size + 1 ≤ wr.heap.size := by have := eP.out.size; rw [hs1] at this; exact this
     by_cases hlt : k < n2
     ·have hkl : k < R.length := by rw [HN.out]; exact hlt
      have hRr := HRR.out.below (hb1.trans (eP.out.mono (by omega)))
      obtain ⟨g, off, eA, hg, hcell⟩ := hRr.spot (by omega)
      cases eA
      have hc := hcell k (by rw [List.length_map]; exact hkl)
      rw [List.getElem_map] at hc
      obtain ⟨s, hs⟩ : ∃ s, s = R[k] := ⟨_, rfl⟩
      rw [← hs] at hc
      obtain ⟨D, hD⟩ : ∃ D, D = fA.dec s.data.toList := ⟨_, rfl⟩
      have hDl : D.length ≤ s.size := by rw [hD]; have := fA.iF s.data.toList; rwa [show s.data.toList.length = s.size from Array.length_toList] at this
      have HS : Hid (BS ++ gQ (R.take (k + 1)) = (BS ++ gQ (R.take k)) ++ (92 :: D)) := by show _ = _; rw [take_snoc R k hkl, uH, ← hs, hD, List.append_assoc]
      have hsum := oC R k hkl
      have qR := jD R (k + 1)
      have hpk := iO (R.take k)
      rw [bP, List.length_take, Nat.min_eq_left (by omega)] at hpk
      have hpl := wY.out
      have hll := wP.out
      rw [← hs] at hsum
      have hss : s.size ≤ 899999 := by omega
      have JA : Hid (∀ w : World, Calls Tryz.prog 59 #[.string s] w fun e w' => ∃ v, e = .returned v ∧ w'.ownsRow w.heap.size 5 1 v D.length (aJ D) ∧ Below w.heap.size w w') := fun w => by rw [hD]; exact fA.decode_any s w (by omega)
      obtain ⟨q, hq⟩ : ∃ q, q = brk D := ⟨_, rfl⟩
      have LQ : Hid (∀ w : World, Calls Tryz.prog 75 #[.string (strOf D), .string ⟨#[92, 47]⟩] w fun e w' => e = .returned (.bool q) ∧ Below w.heap.size w w') := fun w => by rw [hq]; exact PthM.pW (strOf D) w (by rw [ah]; omega)
      have a1 : ∀ w : World, (Op.stringOp .add ⟨#[92]⟩ (strOf D)).run Tryz.prog w = .ok (.string (strOf (92 :: D))) w := fun w => dP ⟨#[92]⟩ (strOf D) w (by rw [ah]; show 1 + D.length ≤ _; omega)
      have HLEN : Hid ((BS ++ gQ (R.take k)).length + (1 + D.length) ≤ 140737488355328) := by show _ ≤ _; rw [List.length_append]; have := AQ.out; omega
      have O8 : q = true → V = ([], 2) := fun h => HVN.out (yj k hkl (by rw [← hs, ← hD, ← hq]; exact h))
      have O9 : q = false → jf (R.take (k + 1)) = true := fun h => by rw [qN R k hkl, HF.out, ← hs, ← hD, ← hq, h]; rfl
      have VI := hid O8
      have XY := hid O9
      clear hs hD hq hsum qR hpk hpl hll hRr hcell hkl O8 O9 hDl
      go_wp2_with fail
      refine (JA.out _).mono ?_
      rintro e w3 ⟨v3, rfl, hown, hb3⟩
      obtain ⟨A3, c3, rfl, hc3, XE, hr3⟩ := aU hown
      have hst := aP 61 9 5 Tryz.underlying61 Tryz.underlying5 Tryz.underlying9 _ c3 hr3
      have Sv := fun k => aP 61 9 5 Tryz.underlying61 Tryz.underlying5 Tryz.underlying9 _ c3 (yX hr3 k)
      have HB3 := hid (iw HB.out hb3)
      have kL : Hid (Below (w.heap.size + 1) w1 w3) := eP.out.trans (hb3.mono hsz)
      clear hown hb3 hr3 XE hc3
      go_wp2_with fail
      refine (LQ.out _).mono ?_
      rintro e w4 ⟨rfl, hb4⟩
      have hsz3 : w.heap.size + 1 ≤ w3.heap.size := by have := kL.out.size; rw [hs1] at this; exact this
      have HB4 := hid (iw HB3.out hb4)
      have AP : Hid (Below (w.heap.size + 1) w1 w4) := kL.out.trans (hb4.mono hsz3)
      clear hst Sv hb4
      cases q with
      | true =>
       have pO : Hid (V = ([], 2)) := VI.out rfl
       go_wp2
       go_ret2
       exact ⟨by rw [pO.out]; first | done | rfl, hb1.trans (AP.out.mono (by omega))⟩
      | false =>
       have QS := hid (XY.out rfl)
       have yx : w.heap.size + 1 ≤ w4.heap.size := by have := AP.out.size; rw [hs1] at this; exact this
       go_wp2_with fail
       refine (write_any _ _ _ _ _ HB4.out (by rw [ah]; have := HLEN.out; simp at this ⊢; omega) yx).mono ?_
       rintro e w5 ⟨rfl, Y2, hb5⟩
       have rE : Hid (mg (w.heap.size + 1) (w.heap.size + 1) (BS ++ gQ (R.take (k + 1))) w5) := by show mg _ _ _ _; rw [HS.out]; exact Y2
       have xk := hid (AP.out.trans hb5)
       clear Y2 hb5
       go_wp2
       go_roundw
       case rel => exact ⟨k + 1, by omega, by go_num, rE, xk, QS⟩
       case measure => simp [intOf]; omega
     ·obtain rfl : k = n2 := by omega
      have hT : R.take k = R := List.take_of_length_le (by rw [HN.out]; exact Nat.le_refl _)
      rw [hT] at HB HF
      have hol : (BS ++ gQ R).length ≤ 900000 := by have h1 := iO R; have h2 := wP.out; have h3 := AQ.out; rw [List.length_append]; omega
      obtain ⟨O, hO⟩ : ∃ O, O = BS ++ gQ R := ⟨_, rfl⟩
      rw [← hO] at HB hol
      obtain ⟨f, hf⟩ : ∃ f, f = jc O := ⟨_, rfl⟩
      have FM : Hid (∀ w : World, Env w → Calls Tryz.prog 36 #[.string (strOf O)] w fun e w' => e = .returned (.bool f) ∧ Below w.heap.size w w') := fun w h => by rw [hf]; exact zW.ni (strOf O) w (by rw [ah]; omega) h
      have GK : Hid (V = if f = true then (O, 0) else ([], 2)) := by show _ = _; rw [XC.out HF.out, ← hO, ← hf]
      clear hT hO hf hol
      go_wp2_with fail
      refine (gZ _ _ _ _ (Ii HB.out) hsz).mono ?_
      rintro e w3 ⟨rfl, hBS, hb3⟩
      have TW := hid hBS
      clear hBS
      have kL := hid (eP.out.trans hb3)
      have BX : Hid (Below w.heap.size w w3) := hb1.trans (kL.out.mono (by omega))
      go_wp2_with fail
      refine (FM.out _ (HE.out.below BX.out)).mono ?_
      rintro e w4 ⟨rfl, hb4⟩
      have oP := hid (bel BX.out hb4)
      cases f with
      | false =>
       have pO : Hid (V = ([], 2)) := by show _ = _; rw [GK.out]; rfl
       clear hb3 hb4 TW
       go_wp2
       go_ret2
       exact ⟨by rw [pO.out]; first | done | rfl, oP.out⟩
      | true =>
       have pO : Hid (V = (O, 0)) := by show _ = _; rw [GK.out]; rfl
       have HB4 : Hid (IsF (w.heap.size + 1) (w.heap.size + 1) O w4) := uj TW.out hb4
       have yx : w.heap.size + 1 ≤ w4.heap.size := by have h1 := kL.out.size; have h2 := hb4.size; rw [hs1] at h1; omega
       clear hb4
       go_wp2_with fail
       refine (gZ _ _ _ _ HB4.out yx).mono ?_
       rintro e w5 ⟨rfl, _, hb5⟩
       have LP : Hid (Below w.heap.size w w5) := oP.out.trans (hb5.mono (by omega))
       clear hb5
       go_wp2
       go_ret2
       exact ⟨by rw [pO.out]; first | done | rfl, LP.out⟩
 ·have q0 : (s0.toList == [102, 105, 108, 101]) = false := by rw [tl, beq_eq_false_iff_ne]; exact e0
  have HV : Hid (V = ([], 2)) := by show _ = _; rw [hV]; unfold lQ; rw [if_pos (.inl e0)]
  clear hn hpl hR hl hV e0 hE h3l
  go_enter Tryz.func34, Tryz.ntmps34
  go_wp2
  go_ret2
  exact ⟨by rw [HV.out]; first | done | rfl, (Below.refl _ _).alloc (Nat.le_refl _) _⟩
end Go.Proofs.YtmdofbccebkbiaaGreatDoor.Ox
