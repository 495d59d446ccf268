/- Texts that belong together: zX, VW, WinB, WinR. -/
import Derived.Test.YtmdofbccebkbiaaGreatDoorMV
import Derived.Test.YtmdofbccebkbiaaGreatDoorMF
import Derived.Test.YtmdofbccebkbiaaGreatDoorME
import Derived.Test.YtmdofbccebkbiaaGreatDoorMA
import Derived.Test.YtmdofbccebkbiaaGreatDoorNA
import Derived.Test.YtmdofbccebkbiaaGreatDoorShelf4
import Derived.Test.YtmdofbccebkbiaaGreatDoorMB
import Derived.Lib.Replace
import Derived.Lib.IndexLaws
set_option linter.unusedSimpArgs false
set_option linter.unusedVariables false
set_option maxRecDepth 100000
set_option maxHeartbeats 64000000
namespace Go.Proofs.YtmdofbccebkbiaaGreatDoor.zX
open Go.RowKit Base rJ dM qK xJ uY kX
def bs (c : UInt8) : UInt8 := if c = 47 then 92 else c
def fs (c : UInt8) : UInt8 := if c = 92 then 47 else c
def BAR : List UInt8 := [60, 62, 58, 34, 47, 92, 124, 63, 42]
def JJ (c : UInt8) : Bool := !decide ((c.toNat : Int) < 32) && !BAR.contains c
def AO (x : List UInt8) : Bool := decide (x ≠ [46]) && decide (x ≠ [46, 46]) && val x && x.all JJ
def Js (x : List UInt8) (last : Bool) : Bool := AO x && (decide (x ≠ []) || last)
def lS : List (List UInt8) → Bool
 | [] => true
 | x :: r => Js x r.isEmpty && lS r
def qw (c : UInt8) : Bool := letter c.toNat || digit c.toNat || decide (c = 45) || decide (c = 46)
def LOC : List UInt8 := [108, 111, 99, 97, 108, 104, 111, 115, 116]
def who (s : List UInt8) : Bool := s.all qw && decide (hst s true = some s) && decide (s ≠ LOC)
abbrev W3 := List UInt8 × List UInt8 × List (List UInt8)
def near : List (List UInt8) → Bool
 | a :: b :: r => nrm a && lS (b :: r)
 | _ => false
def far : List (List UInt8) → Bool
 | a :: b :: h :: x :: t => decide (a = []) && decide (b = []) && who h && decide (x ≠ []) && lS (x :: t)
 | _ => false
def three (l : List (List UInt8)) : W3 := if near l = true then (l.getD 0 [], [], l.drop 1) else ([], l.getD 2 [], l.drop 3)
def NV (l : List (List UInt8)) : Option W3 := if near l = true ∨ far l = true then some (three l) else none
def gJ (p : List UInt8) : List (List UInt8) := spl 92 (p.map bs)
def iI (p : List UInt8) : Option W3 := NV (gJ p)
def jc (p : List UInt8) : Bool := near (gJ p) || far (gJ p)
theorem sG (p : List UInt8) : (iI p).isSome = jc p := by
 unfold iI NV jc
 cases near (gJ p) <;> cases far (gJ p) <;> rfl
theorem bs_bs (c : UInt8) : bs (bs c) = bs c := by
 unfold bs
 by_cases h : c = 47
 ·subst h; rfl
 ·simp only [if_neg h]
theorem ZT (p : List UInt8) : gJ (p.map bs) = gJ p := by
 unfold gJ
 rw [List.map_map]
 congr 1
 exact List.map_congr_left fun c _ => bs_bs c
theorem fs_47 (c : UInt8) : (fs c = 47) ↔ (bs c = 92) := by
 unfold bs fs
 by_cases h : c = 92
 ·subst h; decide
 ·rw [if_neg h]
  by_cases h2 : c = 47
  ·subst h2; decide
  ·rw [if_neg h2]
   exact ⟨fun e => absurd e h2, fun e => absurd e h⟩
theorem U9 (p : List UInt8) : spl 47 (p.map fs) = gJ p := by
 unfold gJ
 have h1 := Vp 92 47 fs (p.map bs) (fun c hc => by
  rw [fs_47]
  obtain ⟨d, _, rfl⟩ := List.mem_map.1 hc
  rw [bs_bs])
 have e : (p.map bs).map fs = p.map fs := by
  rw [List.map_map]
  refine List.map_congr_left fun c _ => ?_
  show fs (bs c) = fs c
  unfold bs fs
  by_cases h : c = 47
  ·subst h; rfl
  ·rw [if_neg h]
 rw [e] at h1
 rw [h1]
 conv => rhs; rw [← List.map_id (spl 92 (p.map bs))]
 refine List.map_congr_left fun x hx => ?_
 conv => rhs; rw [id, ← List.map_id x]
 refine List.map_congr_left fun d hd => ?_
 have := (NJ 92 _ x hx d hd).2
 show fs d = d
 unfold fs
 rw [if_neg this]
theorem ZC (l : List (List UInt8)) (h : near l = true) : far l = false := by
 match l, h with
 | a :: b :: r, h =>
  simp only [near, Bool.and_eq_true] at h
  match r with
  | [] => rfl
  | [_] => rfl
  | hh :: x :: t =>
   have : a ≠ [] := by rintro rfl; exact absurd h.1 (by decide)
   show (decide (a = []) && decide (b = []) && who hh && decide (x ≠ []) && lS (x :: t)) = false
   rw [decide_eq_false this]
   rfl
theorem XA : ∀ (l : List (List UInt8)) (k : Nat) (h : k < l.length), lS (l.drop k) = (Js l[k] (decide (k + 1 = l.length)) && lS (l.drop (k + 1))) := by
 intro l k h
 rw [List.drop_eq_getElem_cons h, lS]
 congr 2
 rw [Bool.eq_iff_iff]
 simp only [List.isEmpty_iff, List.drop_eq_nil_iff, decide_eq_true_eq]
 omega
end Go.Proofs.YtmdofbccebkbiaaGreatDoor.zX
namespace Go.Proofs.YtmdofbccebkbiaaGreatDoor.VW
open Go.RowKit Base aT kW rJ xJ Rk FT zX
open Go.Proofs.YtmdofbccebkbiaaGreatDoor.uT (Max)
open Go.Proofs.YtmdofbccebkbiaaGreatDoor.qK (val)
theorem Ci {p : UInt8 → Bool} (L : List UInt8) (k : Nat) (h : k < L.length) : (L.drop k).all p = (p L[k] && (L.drop (k + 1)).all p) := by
 rw [List.drop_eq_getElem_cons h, List.all_cons]
def TG (x : List UInt8) : Bool := x.all JJ && val x
theorem wone_eq (x : List UInt8) (last : Bool) : Js x last = (qc x last && TG x) := by
 unfold Js AO qc TG
 cases decide (x ≠ [46]) <;> cases decide (x ≠ [46, 46]) <;> cases val x <;> cases x.all JJ <;> cases (decide (x ≠ []) || last) <;> rfl
theorem Vy : ∀ l : List (List UInt8), lS l = (jh l && l.all TG)
 | [] => rfl
 | x :: r => by
  rw [lS, jh, Vy r, wone_eq, List.all_cons]
  cases qc x r.isEmpty <;> cases TG x <;> cases jh r <;> cases r.all TG <;> rfl
theorem aal (l : List (List UInt8)) (k : Nat) (h : k < l.length) : (l.drop k).all TG = (TG l[k] && (l.drop (k + 1)).all TG) := by
 rw [List.drop_eq_getElem_cons h, List.all_cons]
theorem U5 {c : UInt8} (h1 : ¬ (c.toNat : Int) < 32) (h2 : BAR.contains c = false) : JJ c = true := by unfold JJ; rw [h2, decide_eq_false h1]; rfl
theorem U4 {c : UInt8} (h1 : (c.toNat : Int) < 32) : JJ c = false := by unfold JJ; rw [decide_eq_true h1]; rfl
theorem U3 {c : UInt8} (h2 : BAR.contains c = true) : JJ c = false := by unfold JJ; rw [h2]; simp
theorem o9 (s : ByteArray) (w : World) (hs : s.size ≤ 900000) :
  Calls Tryz.prog 202 #[.string s] w fun e w' => e = .returned (.bool (AO s.data.toList)) ∧ Below w.heap.size w w' := by
 have hl : s.data.toList.length = s.size := Array.length_toList
 obtain ⟨b, hb⟩ : ∃ b, b = AO s.data.toList := ⟨_, rfl⟩
 rw [← hb]
 obtain ⟨v, hv⟩ : ∃ v, v = val s.data.toList := ⟨_, rfl⟩
 obtain ⟨E, hE⟩ : ∃ E, E = s.data.toList.all JJ := ⟨_, rfl⟩
 have HVA : Hid (∀ (A : Option Addr) (n cap : Nat) (w : World), bK w A n (aJ s.data.toList) → n ≤ 1073741824 → n ≤ cap → Calls Tryz.prog 65 #[.slice A n cap] w fun e w' => e = .returned (.bool v) ∧ Below w.heap.size w w') := fun A n cap w h1 h2 h3 => by rw [hv]; exact qK.iC A n cap _ w h1 h2 h3
 have HCAP : Hid (∀ w : World, s.size ≤ grownCap w s.size 0 5) := fun w => grownCap_ge w s.size 0 5
 have hcv := fun (w : World) s => run_bytes_of_string (P := Tryz.prog) w 9 61 5 s Tryz.underlying9 Tryz.underlying61 Tryz.underlying5
 have Ud := hid hs
 have HL := hid hl
 have JU : Hid (E = (s.data.toList.drop 0).all JJ) := hE
 by_cases h1 : s.data.toList = [46]
 ·have f1 : (s.toList == [46]) = true := by rw [tl, h1]; rfl
  have HF : Hid (b = false) := by show _ = _; rw [hb, h1]; rfl
  clear hb hv hE hs hl h1
  go_enter Tryz.func202, Tryz.ntmps202
  go_wp2
  go_ret
  exact ⟨by rw [HF.out]; first | done | rfl, Below.refl _ _⟩
 ·have f1 : (s.toList == [46]) = false := by rw [tl, beq_eq_false_iff_ne]; exact h1
  by_cases h2 : s.data.toList = [46, 46]
  ·have f2 : (s.toList == [46, 46]) = true := by rw [tl, h2]; rfl
   have HF : Hid (b = false) := by show _ = _; rw [hb, h2]; rfl
   clear hb hv hE hs hl h1 h2
   go_enter Tryz.func202, Tryz.ntmps202
   go_wp2
   go_ret
   exact ⟨by rw [HF.out]; first | done | rfl, Below.refl _ _⟩
  ·have f2 : (s.toList == [46, 46]) = false := by rw [tl, beq_eq_false_iff_ne]; exact h2
   have F5 : Hid (b = (v && E)) := by show _ = _; rw [hb, hv, hE]; unfold AO; rw [decide_eq_true h1, decide_eq_true h2]; rfl
   clear hb hv hE hs hl h1 h2
   go_enter Tryz.func202, Tryz.ntmps202
   go_wp2_with fail
   refine (HVA.out _ s.size _ _ (gB s _ _ 5) (by have := Ud.out; omega) (HCAP.out _)).mono ?_
   rintro e w3 ⟨rfl, hb3⟩
   have HB := hid (((Below.refl w.heap.size w).alloc (Nat.le_refl _) _).drew.trans (hb3.mono (by simp)))
   clear hb3 hcv
   cases v with
   | false =>
    have HF : Hid (b = false) := by show _ = _; rw [F5.out]; rfl
    go_wp2
    go_ret
    exact ⟨by rw [HF.out]; first | done | rfl, HB.out⟩
   | true =>
    have HF : Hid (b = E) := by show _ = _; rw [F5.out]; rfl
    go_wp2
    go_loopw [3] (fun vk wr => ∃ k : Nat, k ≤ s.size ∧ vk = .int .i64 (k : Int) ∧ wr = w3 ∧ Hid (E = (s.data.toList.drop k).all JJ)) (fun vk _ => s.size - (intOf vk).toNat)
    case atStart => exact ⟨0, Nat.zero_le _, rfl, rfl, JU⟩
    case round =>
     clear JU
     have hss := Ud.out
     obtain ⟨k, hk, rfl, rfl, HE⟩ := hrel
     by_cases hlt : k < s.size
     ·obtain ⟨c, hc⟩ : ∃ c, s[k] = c := ⟨_, rfl⟩
      have hkl : k < s.data.toList.length := by rw [HL.out]; exact hlt
      have hcl : s.data.toList[k] = c := hc
      have hok := Ci (p := JJ) s.data.toList k hkl
      rw [hcl] at hok
      by_cases h3 : (c.toNat : Int) < 32
      ·have HE2 : Hid (E = false) := by show _ = _; rw [HE.out, hok, U4 h3]; rfl
       clear hok hkl hcl
       go_wp2
       go_ret
       exact ⟨by rw [HF.out, HE2.out]; first | done | rfl, HB.out⟩
      ·obtain ⟨a, ha⟩ : ∃ a, a = BAR.contains c := ⟨_, rfl⟩
       have QE : Hid (∀ w : World, Calls Tryz.prog 136 #[.string ⟨#[60, 62, 58, 34, 47, 92, 124, 63, 42]⟩, .int .u8 (c.toNat : Int)] w fun e w' => ∃ z : Int, e = .returned (.int .i64 z) ∧ decide (0 ≤ z) = a ∧ w' = w) := fun w => by
        refine (Tryz.strings_IndexByte ⟨#[60, 62, 58, 34, 47, 92, 124, 63, 42]⟩ _ w).mono ?_
        rintro e w' ⟨rfl, rfl⟩
        refine ⟨_, rfl, ?_, rfl⟩
        rw [show ((c.toNat : Int).toNat.toUInt8) = c by simp, has1, ha]
        rfl
       cases a with
       | true =>
        have HE2 : Hid (E = false) := by show _ = _; rw [HE.out, hok, U3 ha.symm]; rfl
        clear hok hkl hcl ha
        go_wp2_with fail
        refine (QE.out _).mono ?_
        rintro e w2 ⟨z, rfl, hz, hw2⟩
        subst hw2
        have hz1 : 0 ≤ z := by simpa using hz
        clear hz
        go_wp2
        go_ret
        exact ⟨by rw [HF.out, HE2.out]; first | done | rfl, HB.out⟩
       | false =>
        have HE2 : Hid (E = (s.data.toList.drop (k + 1)).all JJ) := by show _ = _; rw [HE.out, hok, U5 h3 ha.symm]; rfl
        clear hok hkl hcl ha
        go_wp2_with fail
        refine (QE.out _).mono ?_
        rintro e w2 ⟨z, rfl, hz, hw2⟩
        subst hw2
        have hz1 : ¬ 0 ≤ z := by simpa using hz
        clear hz
        go_wp2
        go_roundw
        case rel => exact ⟨k + 1, by omega, by go_num, by first | rfl | trivial, HE2⟩
        case measure => simp [intOf]; omega
     ·obtain rfl : k = s.size := by omega
      have HE2 : Hid (E = true) := by show _ = _; rw [HE.out, List.drop_eq_nil_of_le (by rw [HL.out]; exact Nat.le_refl _)]; rfl
      go_wp2
      go_ret
      exact ⟨by rw [HF.out, HE2.out]; first | done | rfl, HB.out⟩
theorem EY (A : Option Addr) (n cap : Nat) (l : List (List UInt8)) (w : World) (hR : bK w A n ((l.map strOf).map Value.string)) (hm : n ≤ 1073741824) (hz : ∀ x ∈ l, x.length ≤ 900000) :
  Calls Tryz.prog 142 #[.slice A n cap] w fun e w' => e = .returned (.bool (lS l)) ∧ Below w.heap.size w w' := by
 have hl : l.length = n := by rw [← hR.1, List.length_map, List.length_map]
 obtain ⟨E, hE⟩ : ∃ E, E = lS l := ⟨_, rfl⟩
 rw [← hE]
 have HN := hid hl
 have HR := hid hR
 have HZ := hid hz
 have JU : Hid (E = lS (l.drop 0)) := hE
 clear hl hR hE hz
 go_enter Tryz.func142, Tryz.ntmps142
 go_wp2
 go_loopw [3, 4, 7] (fun _ _ vk wr => ∃ k : Nat, k ≤ n ∧ vk = .int .i64 (k : Int) ∧ Hid (Below w.heap.size w wr) ∧ Hid (E = lS (l.drop k))) (fun _ _ vk _ => n - (intOf vk).toNat)
 case atStart => exact ⟨0, Nat.zero_le _, rfl, Below.refl _ _, JU⟩
 case round =>
  clear JU
  obtain ⟨k, hk, rfl, HB, HE⟩ := hrel
  have X5 := hid (HR.out.below HB.out)
  by_cases hlt : k < n
  ·obtain ⟨g, off, rfl, hg, hc⟩ := vF X5.out k hlt HN.out
   obtain ⟨x, hx⟩ : ∃ x, x = l[k]'(by rw [HN.out]; exact hlt) := ⟨_, rfl⟩
   rw [← hx] at hc
   have hxl : x.length ≤ 900000 := HZ.out x (by rw [hx]; exact List.getElem_mem _)
   have hok := XA l k (by rw [HN.out]; exact hlt)
   rw [show l[k]'(by rw [HN.out]; exact hlt) = x from hx.symm, HN.out] at hok
   obtain ⟨f, hf⟩ : ∃ f, f = AO x := ⟨_, rfl⟩
   have HFR : Hid (∀ w : World, Calls Tryz.prog 202 #[.string (strOf x)] w fun e w' => e = .returned (.bool f) ∧ Below w.heap.size w w') := fun w => by rw [hf]; exact o9 (strOf x) w (by rw [ah]; omega)
   cases f with
   | false =>
    have HE2 : Hid (E = false) := by show _ = _; rw [HE.out, hok]; unfold Js; rw [← hf]; rfl
    clear hok hx hf
    go_wp2_with fail
    refine (HFR.out _).mono ?_
    rintro e w2 ⟨rfl, hb2⟩
    have HB2 := hid (bel HB.out hb2)
    clear hb2 hc
    go_wp2
    go_ret
    exact ⟨by rw [HE2.out]; first | done | rfl, HB2.out⟩
   | true =>
    by_cases h3 : x = []
    ·have f3 : (strOf x).toList = [] := by rw [tl]; exact h3
     have f3' : ((strOf x).toList == []) = true := by rw [f3]; rfl
     by_cases hla : k + 1 = n
     ·have hli : ¬ (k : Int) < (n : Int) - 1 := by omega
      have HE2 : Hid (E = lS (l.drop (k + 1))) := by show _ = _; rw [HE.out, hok]; unfold Js; rw [← hf, decide_eq_true hla]; simp
      clear hok hx hf h3 hla
      go_wp2_with fail
      refine (HFR.out _).mono ?_
      rintro e w2 ⟨rfl, hb2⟩
      have HB2 := hid (bel HB.out hb2)
      clear hb2 hc
      go_wp2
      go_roundw
      case rel => exact ⟨k + 1, by omega, by go_num, HB2, HE2⟩
      case measure => simp [intOf]; omega
     ·have hli : (k : Int) < (n : Int) - 1 := by omega
      have HE2 : Hid (E = false) := by show _ = _; rw [HE.out, hok]; unfold Js; rw [h3, decide_eq_false hla]; simp
      clear hok hx hf h3 hla
      go_wp2_with fail
      refine (HFR.out _).mono ?_
      rintro e w2 ⟨rfl, hb2⟩
      have HB2 := hid (bel HB.out hb2)
      clear hb2 hc
      go_wp2
      go_ret
      exact ⟨by rw [HE2.out]; first | done | rfl, HB2.out⟩
    ·have f3 : ((strOf x).toList == []) = false := by rw [tl, beq_eq_false_iff_ne]; exact h3
     have f3' : (strOf x).toList.isEmpty = false := by rw [tl]; simpa [strOf] using h3
     have HE2 : Hid (E = lS (l.drop (k + 1))) := by show _ = _; rw [HE.out, hok]; unfold Js; rw [← hf, decide_eq_true h3]; rfl
     clear hok hx hf h3
     go_wp2_with fail
     refine (HFR.out _).mono ?_
     rintro e w2 ⟨rfl, hb2⟩
     have HB2 := hid (bel HB.out hb2)
     clear hb2 hc
     go_wp2
     go_roundw
     case rel => exact ⟨k + 1, by omega, by go_num, HB2, HE2⟩
     case measure => simp [intOf]; omega
  ·obtain rfl : k = n := by omega
   have HE2 : Hid (E = true) := by show _ = _; rw [HE.out, List.drop_eq_nil_of_le (by rw [HN.out]; exact Nat.le_refl _)]; rfl
   clear X5
   go_wp2
   go_ret
   exact ⟨by rw [HE2.out]; first | done | rfl, HB.out⟩
theorem Fp (A : Option Addr) (n cap : Nat) (l : List (List UInt8)) (w : World) (hR : bK w A n ((l.map strOf).map Value.string)) (hm : n ≤ 900001) (hz : ∀ x ∈ l, x.length ≤ 900000) :
  Calls Tryz.prog 145 #[.slice A n cap] w fun e w' => e = .returned (.bool (lS l && decide (0 < l.length))) ∧ Below w.heap.size w w' := by
 have hl : l.length = n := by rw [← hR.1, List.length_map, List.length_map]
 obtain ⟨E, hE⟩ : ∃ E, E = l.all TG := ⟨_, rfl⟩
 obtain ⟨O, hO⟩ : ∃ O, O = (jh l && decide (0 < l.length)) := ⟨_, rfl⟩
 have HW : Hid ((lS l && decide (0 < l.length)) = (E && O)) := by
  show _ = _
  rw [Vy, hE, hO]
  cases jh l <;> cases l.all TG <;> cases decide (0 < l.length) <;> rfl
 have HRO : Hid (∀ w : World, bK w A n ((l.map strOf).map Value.string) → Calls Tryz.prog 69 #[.slice A n cap] w fun e w' => e = .returned (.bool O) ∧ w = w') := fun w h => by rw [hO]; exact Qd A n cap l w h (by omega)
 have hcv := fun (w : World) s => run_bytes_of_string (P := Tryz.prog) w 9 61 5 s Tryz.underlying9 Tryz.underlying61 Tryz.underlying5
 have HCV := hid hcv
 have HN := hid hl
 have HR := hid hR
 have HZ := hid hz
 have JU : Hid (E = (l.drop 0).all TG) := hE
 clear hl hR hE hz hO hcv
 go_enter Tryz.func145, Tryz.ntmps145
 go_wp2
 go_loopw [3, 4, 7, 15] (fun _ _ vk _ wr => ∃ k : Nat, k ≤ n ∧ vk = .int .i64 (k : Int) ∧ Hid (Below w.heap.size w wr) ∧ Hid (E = (l.drop k).all TG)) (fun _ _ vk _ _ => n - (intOf vk).toNat)
 case atStart => exact ⟨0, Nat.zero_le _, rfl, Below.refl _ _, JU⟩
 case round =>
  clear JU
  obtain ⟨k, hk, rfl, HB, HE⟩ := hrel
  have X5 := hid (HR.out.below HB.out)
  by_cases hlt : k < n
  ·obtain ⟨g, off, rfl, hg, hc⟩ := vF X5.out k hlt HN.out
   obtain ⟨x, hx⟩ : ∃ x, x = l[k]'(by rw [HN.out]; exact hlt) := ⟨_, rfl⟩
   rw [← hx] at hc
   have hxl : x.length ≤ 900000 := HZ.out x (by rw [hx]; exact List.getElem_mem _)
   have hok := aal l k (by rw [HN.out]; exact hlt)
   rw [show l[k]'(by rw [HN.out]; exact hlt) = x from hx.symm] at hok
   have hsz : (strOf x).size = x.length := ah x
   obtain ⟨s, hsx⟩ : ∃ s, s = strOf x := ⟨_, rfl⟩
   rw [← hsx] at hc hsz
   have hsl : s.data.toList = x := by rw [hsx]; rfl
   obtain ⟨v, hv⟩ : ∃ v, v = val x := ⟨_, rfl⟩
   have HVA : Hid (∀ (A : Option Addr) (n cap : Nat) (w : World), bK w A n (aJ s.data.toList) → n ≤ 1073741824 → n ≤ cap → Calls Tryz.prog 68 #[.slice A n cap] w fun e w' => e = .returned (.bool v) ∧ Below w.heap.size w w') := fun A n cap w h1 h2 h3 => by rw [hv, ← hsl]; exact RefV.iC A n cap _ w h1 h2 h3
   have HCAP : Hid (∀ w : World, s.size ≤ grownCap w s.size 0 5) := fun w => grownCap_ge w s.size 0 5
   obtain ⟨F, hF⟩ : ∃ F, F = x.all JJ := ⟨_, rfl⟩
   have HRK : Hid (E = (F && v && (l.drop (k + 1)).all TG)) := by show _ = _; rw [HE.out, hok]; unfold TG; rw [hF, hv]
   have HF0 : Hid (F = (s.data.toList.drop 0).all JJ) := by show _ = _; rw [hsl]; exact hF
   have HSL : Hid (s.data.toList.length = s.size) := Array.length_toList
   have HC := hid hc
   have hss : s.size ≤ 900000 := by omega
   clear hok hx hv hF hsl hsx hsz hxl hc
   have hc := HC.out
   go_wp2
   clear hc
   go_loopw [4, 15] (fun _ vj wj => ∃ j : Nat, j ≤ s.size ∧ vj = .int .i64 (j : Int) ∧ wj = wr ∧ Hid (F = (s.data.toList.drop j).all JJ)) (fun _ vj _ => s.size - (intOf vj).toNat)
   case atStart => exact ⟨0, Nat.zero_le _, rfl, rfl, HF0⟩
   case round =>
    clear HF0
    obtain ⟨j, hj, rfl, rfl, HF⟩ := hrel
    have hc := HC.out
    by_cases hjt : j < s.size
    ·obtain ⟨c, hcc⟩ : ∃ c, s[j] = c := ⟨_, rfl⟩
     have hkl : j < s.data.toList.length := by rw [HSL.out]; exact hjt
     have hcl : s.data.toList[j] = c := hcc
     have hok := Ci (p := JJ) s.data.toList j hkl
     rw [hcl] at hok
     by_cases h3 : (c.toNat : Int) < 32
     ·have HE2 : Hid (E = false) := by show _ = _; rw [HRK.out, HF.out, hok, U4 h3]; rfl
      clear hok hkl hcl
      go_wp2
      go_ret
      exact ⟨by rw [HW.out, HE2.out]; first | done | rfl, HB.out⟩
     ·obtain ⟨a, ha⟩ : ∃ a, a = BAR.contains c := ⟨_, rfl⟩
      have QE : Hid (∀ w : World, Calls Tryz.prog 64 #[.string ⟨#[60, 62, 58, 34, 47, 92, 124, 63, 42]⟩, .int .u8 (c.toNat : Int)] w fun e w' => e = .returned (.bool a) ∧ w = w') := fun w => by rw [ha]; exact Rl.zD ⟨#[60, 62, 58, 34, 47, 92, 124, 63, 42]⟩ c w (by decide)
      cases a with
      | true =>
       have HE2 : Hid (E = false) := by show _ = _; rw [HRK.out, HF.out, hok, U3 ha.symm]; rfl
       clear hok hkl hcl ha
       go_wp2_with fail
       refine (QE.out _).mono ?_
       rintro e w2 ⟨rfl, hw2⟩
       subst hw2
       go_wp2
       go_ret
       exact ⟨by rw [HW.out, HE2.out]; first | done | rfl, HB.out⟩
      | false =>
       have HE2 : Hid (F = (s.data.toList.drop (j + 1)).all JJ) := by show _ = _; rw [HF.out, hok, U5 h3 ha.symm]; rfl
       clear hok hkl hcl ha
       go_wp2_with fail
       refine (QE.out _).mono ?_
       rintro e w2 ⟨rfl, hw2⟩
       subst hw2
       go_wp2
       go_roundw
       case rel => exact ⟨j + 1, by omega, by go_num, by first | rfl | trivial, HE2⟩
       case measure => simp [intOf]; omega
    ·obtain rfl : j = s.size := by omega
     have HF2 : Hid (F = true) := by show _ = _; rw [HF.out, List.drop_eq_nil_of_le (by rw [HSL.out]; exact Nat.le_refl _)]; rfl
     have hcv := HCV.out
     go_wp2_with fail
     clear hc
     refine (HVA.out _ s.size _ _ (gB s _ _ 5) (by omega) (HCAP.out _)).mono ?_
     rintro e w3 ⟨rfl, hb3⟩
     have HB3 := hid (bel HB.out (((Below.refl _ _).alloc (Nat.le_refl _) _).drew.trans (hb3.mono (by simp))))
     clear hb3 hcv
     cases v with
     | false =>
      have HE2 : Hid (E = false) := by show _ = _; rw [HRK.out]; simp
      go_wp2
      go_ret
      exact ⟨by rw [HW.out, HE2.out]; first | done | rfl, HB3.out⟩
     | true =>
      have HE2 : Hid (E = (l.drop (k + 1)).all TG) := by show _ = _; rw [HRK.out, HF2.out]; rfl
      go_wp2
      go_roundw
      case rel => exact ⟨k + 1, by omega, by go_num, HB3, HE2⟩
      case measure => simp [intOf]; omega
  ·obtain rfl : k = n := by omega
   have HE2 : Hid (E = true) := by show _ = _; rw [HE.out, List.drop_eq_nil_of_le (by rw [HN.out]; exact Nat.le_refl _)]; rfl
   go_wp2_with fail
   refine (HRO.out _ X5.out).mono ?_
   rintro e w2 ⟨rfl, hw2⟩
   subst hw2
   go_wp2
   go_ret
   exact ⟨by rw [HW.out, HE2.out]; first | done | rfl, HB.out⟩
end Go.Proofs.YtmdofbccebkbiaaGreatDoor.VW
namespace Go.Proofs.YtmdofbccebkbiaaGreatDoor.WinB
open Go.RowKit Base aT rJ Rk FT zX VW dM
open Go.Proofs.YtmdofbccebkbiaaGreatDoor.uY (hst HV)
open Go.Proofs.YtmdofbccebkbiaaGreatDoor.lI (nP)
open Go.Proofs.YtmdofbccebkbiaaGreatDoor.uT (Max)
theorem Zg (s : ByteArray) (w : World) (hs : s.size ≤ 900000) (hL : nP w) (hT : Tab.Pow w) (hM : Max w) :
  Calls Tryz.prog 143 #[.string s] w fun e w' => e = .returned (.bool (who s.data.toList)) ∧ Below w.heap.size w w' := by
 have hl : s.data.toList.length = s.size := Array.length_toList
 obtain ⟨b, hb⟩ : ∃ b, b = who s.data.toList := ⟨_, rfl⟩
 rw [← hb]
 obtain ⟨E, hE⟩ : ∃ E, E = s.data.toList.all qw := ⟨_, rfl⟩
 obtain ⟨H, hH⟩ : ∃ H, H = hst s.data.toList true := ⟨_, rfl⟩
 have F5 : Hid (b = (E && decide (H = some s.data.toList) && decide (s.data.toList ≠ LOC))) := by show _ = _; rw [hb, hE, hH]; rfl
 have HPH : Hid (Calls Tryz.prog 162 #[.string s, .bool true] w fun e w' => e = .returned (HV H) ∧ Below w.heap.size w w') := by rw [hH]; exact wR.parse_any s true w hs hL hT hM
 have Og : Hid (∀ (c : UInt8) (w : World), Calls Tryz.prog 148 #[.int .u8 (c.toNat : Int)] w fun e w' => e = .returned (.bool (letter c.toNat)) ∧ w = w') := fun c w => dM.iV _ w
 have N7 : Hid (∀ (c : UInt8) (w : World), Calls Tryz.prog 149 #[.int .u8 (c.toNat : Int)] w fun e w' => e = .returned (.bool (digit c.toNat)) ∧ w = w') := fun c w => dM.jE _ w
 have HL := hid hl
 have Ud := hid hs
 have JU : Hid (E = (s.data.toList.drop 0).all qw) := hE
 clear hb hE hH hl hs hL hT hM
 go_enter Tryz.func143, Tryz.ntmps143
 go_wp2
 go_loopw [3] (fun vk wr => ∃ k : Nat, k ≤ s.size ∧ vk = .int .i64 (k : Int) ∧ wr = w ∧ Hid (E = (s.data.toList.drop k).all qw)) (fun vk _ => s.size - (intOf vk).toNat)
 case atStart => exact ⟨0, Nat.zero_le _, rfl, rfl, JU⟩
 case round =>
  clear JU
  have hss := Ud.out
  obtain ⟨k, hk, rfl, rfl, HE⟩ := hrel
  by_cases hlt : k < s.size
  ·obtain ⟨c, hc⟩ : ∃ c, s[k] = c := ⟨_, rfl⟩
   have hkl : k < s.data.toList.length := by rw [HL.out]; exact hlt
   have hcl : s.data.toList[k] = c := hc
   have hok := Ci (p := qw) s.data.toList k hkl
   rw [hcl] at hok
   obtain ⟨a1, ha1⟩ : ∃ a, a = letter c.toNat := ⟨_, rfl⟩
   obtain ⟨a2, ha2⟩ : ∃ a, a = digit c.toNat := ⟨_, rfl⟩
   have JV : Hid (∀ w : World, Calls Tryz.prog 148 #[.int .u8 (c.toNat : Int)] w fun e w' => e = .returned (.bool a1) ∧ w = w') := fun w => by rw [ha1]; exact Og.out c w
   have HD1 : Hid (∀ w : World, Calls Tryz.prog 149 #[.int .u8 (c.toNat : Int)] w fun e w' => e = .returned (.bool a2) ∧ w = w') := fun w => by rw [ha2]; exact N7.out c w
   have hwc : qw c = (a1 || a2 || decide (c = 45) || decide (c = 46)) := by unfold qw; rw [ha1, ha2]
   rw [hwc] at hok
   clear ha1 ha2 hwc
   cases a1 with
   | true =>
    have HE2 : Hid (E = (s.data.toList.drop (k + 1)).all qw) := by show _ = _; rw [HE.out, hok]; rfl
    clear hok hkl hcl
    go_wp2_with fail
    refine (JV.out _).mono ?_
    rintro e w2 ⟨rfl, hw2⟩
    subst hw2
    go_wp2
    go_roundw
    case rel => exact ⟨k + 1, by omega, by go_num, by first | rfl | trivial, HE2⟩
    case measure => simp [intOf]; omega
   | false =>
    cases a2 with
    | true =>
     have HE2 : Hid (E = (s.data.toList.drop (k + 1)).all qw) := by show _ = _; rw [HE.out, hok]; rfl
     clear hok hkl hcl
     go_wp2_with fail
     refine (JV.out _).mono ?_
     rintro e w2 ⟨rfl, hw2⟩
     subst hw2
     go_wp2_with fail
     refine (HD1.out _).mono ?_
     rintro e w2 ⟨rfl, hw2⟩
     subst hw2
     go_wp2
     go_roundw
     case rel => exact ⟨k + 1, by omega, by go_num, by first | rfl | trivial, HE2⟩
     case measure => simp [intOf]; omega
    | false =>
     by_cases h5 : c = 45
     ·have HE2 : Hid (E = (s.data.toList.drop (k + 1)).all qw) := by show _ = _; rw [HE.out, hok, decide_eq_true h5]; rfl
      have q5 : ((c.toNat : Int) != 45) = false := by rw [h5]; rfl
      clear hok hkl hcl h5
      go_wp2_with fail
      refine (JV.out _).mono ?_
      rintro e w2 ⟨rfl, hw2⟩
      subst hw2
      go_wp2_with fail
      refine (HD1.out _).mono ?_
      rintro e w2 ⟨rfl, hw2⟩
      subst hw2
      go_wp2
      go_roundw
      case rel => exact ⟨k + 1, by omega, by go_num, by first | rfl | trivial, HE2⟩
      case measure => simp [intOf]; omega
     ·have q5 : ((c.toNat : Int) != 45) = true := by have h := uq (d := 45) h5; unfold bne; rw [show ((c.toNat : Int) == 45) = false from h]; rfl
      by_cases h6 : c = 46
      ·have HE2 : Hid (E = (s.data.toList.drop (k + 1)).all qw) := by show _ = _; rw [HE.out, hok, decide_eq_true h6]; simp
       have q6 : ((c.toNat : Int) != 46) = false := by rw [h6]; rfl
       clear hok hkl hcl h5 h6
       go_wp2_with fail
       refine (JV.out _).mono ?_
       rintro e w2 ⟨rfl, hw2⟩
       subst hw2
       go_wp2_with fail
       refine (HD1.out _).mono ?_
       rintro e w2 ⟨rfl, hw2⟩
       subst hw2
       go_wp2
       go_roundw
       case rel => exact ⟨k + 1, by omega, by go_num, by first | rfl | trivial, HE2⟩
       case measure => simp [intOf]; omega
      ·have q6 : ((c.toNat : Int) != 46) = true := by have h := uq (d := 46) h6; unfold bne; rw [show ((c.toNat : Int) == 46) = false from h]; rfl
       have HF : Hid (b = false) := by show _ = _; rw [F5.out, HE.out, hok, decide_eq_false h5, decide_eq_false h6]; rfl
       clear hok hkl hcl h5 h6
       go_wp2_with fail
       refine (JV.out _).mono ?_
       rintro e w2 ⟨rfl, hw2⟩
       subst hw2
       go_wp2_with fail
       refine (HD1.out _).mono ?_
       rintro e w2 ⟨rfl, hw2⟩
       subst hw2
       go_wp2
       go_ret
       exact ⟨by rw [HF.out]; first | done | rfl, Below.refl _ _⟩
  ·obtain rfl : k = s.size := by omega
   have HE2 : Hid (E = true) := by show _ = _; rw [HE.out, List.drop_eq_nil_of_le (by rw [HL.out]; exact Nat.le_refl _)]; rfl
   cases H with
   | none =>
    have HF : Hid (b = false) := by show _ = _; rw [F5.out, HE2.out]; rfl
    have HP2 : Hid (Calls Tryz.prog 162 #[.string s, .bool true] wr fun e w' => e = .returned (.tuple #[.string (strOf []), .bool false]) ∧ Below wr.heap.size wr w') := HPH.out
    clear HPH
    go_wp2_with fail
    refine HP2.out.mono ?_
    rintro e w2 ⟨rfl, hb2⟩
    have HB2 := hid hb2
    clear hb2
    go_wp2
    go_ret
    exact ⟨by rw [HF.out]; first | done | rfl, HB2.out⟩
   | some L =>
    have HP2 : Hid (Calls Tryz.prog 162 #[.string s, .bool true] wr fun e w' => e = .returned (.tuple #[.string (strOf L), .bool true]) ∧ Below wr.heap.size wr w') := HPH.out
    clear HPH
    by_cases hL : L = s.data.toList
    ·have q7 : ((strOf L).toList == s.toList) = true := by rw [tl, tl, hL]; simp [strOf]
     have q7' : (strOf L).toList = s.toList := by rw [tl, tl, hL]; rfl
     by_cases h8 : s.data.toList = LOC
     ·have q8 : (s.toList == [108, 111, 99, 97, 108, 104, 111, 115, 116]) = true := by rw [tl, h8]; rfl
      have q8' : s.toList = [108, 111, 99, 97, 108, 104, 111, 115, 116] := by rw [tl, h8]; rfl
      have HF : Hid (b = false) := by show _ = _; rw [F5.out, decide_eq_false (p := s.data.toList ≠ LOC) (fun h => h h8)]; simp
      clear hL h8
      go_wp2_with fail
      refine HP2.out.mono ?_
      rintro e w2 ⟨rfl, hb2⟩
      have HB2 := hid hb2
      clear hb2
      go_wp2
      go_ret
      exact ⟨by rw [HF.out]; first | done | rfl, HB2.out⟩
     ·have q8 : (s.toList == [108, 111, 99, 97, 108, 104, 111, 115, 116]) = false := by rw [tl, beq_eq_false_iff_ne]; exact h8
      have q8' : ¬ s.toList = [108, 111, 99, 97, 108, 104, 111, 115, 116] := by rw [tl]; exact h8
      have HF : Hid (b = true) := by show _ = _; rw [F5.out, HE2.out, hL]; simp [h8]
      clear hL h8
      go_wp2_with fail
      refine HP2.out.mono ?_
      rintro e w2 ⟨rfl, hb2⟩
      have HB2 := hid hb2
      clear hb2
      go_wp2
      go_ret
      exact ⟨by rw [HF.out]; first | done | rfl, HB2.out⟩
    ·have q7 : ((strOf L).toList == s.toList) = false := by rw [tl, tl, beq_eq_false_iff_ne]; exact hL
     have HF : Hid (b = false) := by show _ = _; rw [F5.out, decide_eq_false (p := some L = some s.data.toList) (fun h => hL (Option.some.inj h))]; simp
     clear hL
     go_wp2_with fail
     refine HP2.out.mono ?_
     rintro e w2 ⟨rfl, hb2⟩
     have HB2 := hid hb2
     clear hb2
     go_wp2
     go_ret
     exact ⟨by rw [HF.out]; first | done | rfl, HB2.out⟩
theorem aaL (s : ByteArray) (w : World) (hs : s.size ≤ 900000) :
  Calls Tryz.prog 144 #[.string s] w fun e w' => e = .returned (.bool (who s.data.toList)) ∧ Below w.heap.size w w' := by
 have hl : s.data.toList.length = s.size := Array.length_toList
 obtain ⟨b, hb⟩ : ∃ b, b = who s.data.toList := ⟨_, rfl⟩
 rw [← hb]
 obtain ⟨E, hE⟩ : ∃ E, E = s.data.toList.all qw := ⟨_, rfl⟩
 obtain ⟨H, hH⟩ : ∃ H, H = hst s.data.toList true := ⟨_, rfl⟩
 have F5 : Hid (b = (E && decide (H = some s.data.toList) && decide (s.data.toList ≠ LOC))) := by show _ = _; rw [hb, hE, hH]; rfl
 have HPH : Hid (E = true → Calls Tryz.prog 203 #[.string s, .bool true] w fun e w' => e = .returned (HV H) ∧ Below w.heap.size w w') := by
  show _ → _
  intro hE1
  rw [hH]
  refine HstE.ZQ s w hs fun h9 => ?_
  rw [hE] at hE1
  cases e9 : s.data.toList with
  | nil => rw [e9] at h9; cases h9
  | cons a r =>
   rw [e9] at h9 hE1
   rw [List.head?_cons, Option.some.injEq] at h9
   rw [List.all_cons, h9] at hE1
   exact absurd hE1 (by rw [show qw 91 = false from by decide]; simp)
 have Og : Hid (∀ (c : UInt8) (w : World), Calls Tryz.prog 93 #[.int .u8 (c.toNat : Int)] w fun e w' => e = .returned (.bool (letter c.toNat)) ∧ w = w') := fun c w => kM.iV _ w
 have N7 : Hid (∀ (c : UInt8) (w : World), Calls Tryz.prog 171 #[.int .u8 (c.toNat : Int)] w fun e w' => e = .returned (.bool (digit c.toNat)) ∧ w = w') := fun c w => kM.jE _ w
 have HL := hid hl
 have Ud := hid hs
 have JU : Hid (E = (s.data.toList.drop 0).all qw) := hE
 clear hb hE hH hl hs
 go_enter Tryz.func144, Tryz.ntmps144
 go_wp2
 go_loopw [3, 8] (fun _ vk wr => ∃ k : Nat, k ≤ s.size ∧ vk = .int .i64 (k : Int) ∧ wr = w ∧ Hid (E = (s.data.toList.drop k).all qw)) (fun _ vk _ => s.size - (intOf vk).toNat)
 case atStart => exact ⟨0, Nat.zero_le _, rfl, rfl, JU⟩
 case round =>
  clear JU
  have hss := Ud.out
  obtain ⟨k, hk, rfl, rfl, HE⟩ := hrel
  by_cases hlt : k < s.size
  ·obtain ⟨c, hc⟩ : ∃ c, s[k] = c := ⟨_, rfl⟩
   have hkl : k < s.data.toList.length := by rw [HL.out]; exact hlt
   have hcl : s.data.toList[k] = c := hc
   have hok := Ci (p := qw) s.data.toList k hkl
   rw [hcl] at hok
   obtain ⟨a1, ha1⟩ : ∃ a, a = letter c.toNat := ⟨_, rfl⟩
   obtain ⟨a2, ha2⟩ : ∃ a, a = digit c.toNat := ⟨_, rfl⟩
   have JV : Hid (∀ w : World, Calls Tryz.prog 93 #[.int .u8 (c.toNat : Int)] w fun e w' => e = .returned (.bool a1) ∧ w = w') := fun w => by rw [ha1]; exact Og.out c w
   have HD1 : Hid (∀ w : World, Calls Tryz.prog 171 #[.int .u8 (c.toNat : Int)] w fun e w' => e = .returned (.bool a2) ∧ w = w') := fun w => by rw [ha2]; exact N7.out c w
   have hwc : qw c = (a1 || a2 || decide (c = 45) || decide (c = 46)) := by unfold qw; rw [ha1, ha2]
   rw [hwc] at hok
   clear ha1 ha2 hwc
   cases a1 with
   | true =>
    have HE2 : Hid (E = (s.data.toList.drop (k + 1)).all qw) := by show _ = _; rw [HE.out, hok]; rfl
    clear hok hkl hcl
    go_wp2_with fail
    refine (JV.out _).mono ?_
    rintro e w2 ⟨rfl, hw2⟩
    subst hw2
    go_wp2
    go_roundw
    case rel => exact ⟨k + 1, by omega, by go_num, by first | rfl | trivial, HE2⟩
    case measure => simp [intOf]; omega
   | false =>
    cases a2 with
    | true =>
     have HE2 : Hid (E = (s.data.toList.drop (k + 1)).all qw) := by show _ = _; rw [HE.out, hok]; rfl
     clear hok hkl hcl
     go_wp2_with fail
     refine (JV.out _).mono ?_
     rintro e w2 ⟨rfl, hw2⟩
     subst hw2
     go_wp2_with fail
     refine (HD1.out _).mono ?_
     rintro e w2 ⟨rfl, hw2⟩
     subst hw2
     go_wp2
     go_roundw
     case rel => exact ⟨k + 1, by omega, by go_num, by first | rfl | trivial, HE2⟩
     case measure => simp [intOf]; omega
    | false =>
     by_cases h5 : c = 45
     ·have HE2 : Hid (E = (s.data.toList.drop (k + 1)).all qw) := by show _ = _; rw [HE.out, hok, decide_eq_true h5]; rfl
      have q5 : ((c.toNat : Int) != 45) = false := by rw [h5]; rfl
      clear hok hkl hcl h5
      go_wp2_with fail
      refine (JV.out _).mono ?_
      rintro e w2 ⟨rfl, hw2⟩
      subst hw2
      go_wp2_with fail
      refine (HD1.out _).mono ?_
      rintro e w2 ⟨rfl, hw2⟩
      subst hw2
      go_wp2
      go_roundw
      case rel => exact ⟨k + 1, by omega, by go_num, by first | rfl | trivial, HE2⟩
      case measure => simp [intOf]; omega
     ·have q5 : ((c.toNat : Int) != 45) = true := by have h := uq (d := 45) h5; unfold bne; rw [show ((c.toNat : Int) == 45) = false from h]; rfl
      by_cases h6 : c = 46
      ·have HE2 : Hid (E = (s.data.toList.drop (k + 1)).all qw) := by show _ = _; rw [HE.out, hok, decide_eq_true h6]; simp
       have q6 : ((c.toNat : Int) != 46) = false := by rw [h6]; rfl
       clear hok hkl hcl h5 h6
       go_wp2_with fail
       refine (JV.out _).mono ?_
       rintro e w2 ⟨rfl, hw2⟩
       subst hw2
       go_wp2_with fail
       refine (HD1.out _).mono ?_
       rintro e w2 ⟨rfl, hw2⟩
       subst hw2
       go_wp2
       go_roundw
       case rel => exact ⟨k + 1, by omega, by go_num, by first | rfl | trivial, HE2⟩
       case measure => simp [intOf]; omega
      ·have q6 : ((c.toNat : Int) != 46) = true := by have h := uq (d := 46) h6; unfold bne; rw [show ((c.toNat : Int) == 46) = false from h]; rfl
       have HF : Hid (b = false) := by show _ = _; rw [F5.out, HE.out, hok, decide_eq_false h5, decide_eq_false h6]; rfl
       clear hok hkl hcl h5 h6
       go_wp2_with fail
       refine (JV.out _).mono ?_
       rintro e w2 ⟨rfl, hw2⟩
       subst hw2
       go_wp2_with fail
       refine (HD1.out _).mono ?_
       rintro e w2 ⟨rfl, hw2⟩
       subst hw2
       go_wp2
       go_ret
       exact ⟨by rw [HF.out]; first | done | rfl, Below.refl _ _⟩
  ·obtain rfl : k = s.size := by omega
   have HE2 : Hid (E = true) := by show _ = _; rw [HE.out, List.drop_eq_nil_of_le (by rw [HL.out]; exact Nat.le_refl _)]; rfl
   cases H with
   | none =>
    have HF : Hid (b = false) := by show _ = _; rw [F5.out, HE2.out]; rfl
    have HP2 : Hid (Calls Tryz.prog 203 #[.string s, .bool true] wr fun e w' => e = .returned (.tuple #[.string (strOf []), .bool false]) ∧ Below wr.heap.size wr w') := HPH.out HE2.out
    clear HPH
    go_wp2_with fail
    refine HP2.out.mono ?_
    rintro e w2 ⟨rfl, hb2⟩
    have HB2 := hid hb2
    clear hb2
    go_wp2
    go_ret
    exact ⟨by rw [HF.out]; first | done | rfl, HB2.out⟩
   | some L =>
    have HP2 : Hid (Calls Tryz.prog 203 #[.string s, .bool true] wr fun e w' => e = .returned (.tuple #[.string (strOf L), .bool true]) ∧ Below wr.heap.size wr w') := HPH.out HE2.out
    clear HPH
    by_cases hL : L = s.data.toList
    ·have q7 : ((strOf L).toList == s.toList) = true := by rw [tl, tl, hL]; simp [strOf]
     have q7' : (strOf L).toList = s.toList := by rw [tl, tl, hL]; rfl
     by_cases h8 : s.data.toList = LOC
     ·have q8 : (s.toList == [108, 111, 99, 97, 108, 104, 111, 115, 116]) = true := by rw [tl, h8]; rfl
      have q8' : s.toList = [108, 111, 99, 97, 108, 104, 111, 115, 116] := by rw [tl, h8]; rfl
      have HF : Hid (b = false) := by show _ = _; rw [F5.out, decide_eq_false (p := s.data.toList ≠ LOC) (fun h => h h8)]; simp
      clear hL h8
      go_wp2_with fail
      refine HP2.out.mono ?_
      rintro e w2 ⟨rfl, hb2⟩
      have HB2 := hid hb2
      clear hb2
      go_wp2
      go_ret
      exact ⟨by rw [HF.out]; first | done | rfl, HB2.out⟩
     ·have q8 : (s.toList == [108, 111, 99, 97, 108, 104, 111, 115, 116]) = false := by rw [tl, beq_eq_false_iff_ne]; exact h8
      have q8' : ¬ s.toList = [108, 111, 99, 97, 108, 104, 111, 115, 116] := by rw [tl]; exact h8
      have HF : Hid (b = true) := by show _ = _; rw [F5.out, HE2.out, hL]; simp [h8]
      clear hL h8
      go_wp2_with fail
      refine HP2.out.mono ?_
      rintro e w2 ⟨rfl, hb2⟩
      have HB2 := hid hb2
      clear hb2
      go_wp2
      go_ret
      exact ⟨by rw [HF.out]; first | done | rfl, HB2.out⟩
    ·have q7 : ((strOf L).toList == s.toList) = false := by rw [tl, tl, beq_eq_false_iff_ne]; exact hL
     have HF : Hid (b = false) := by show _ = _; rw [F5.out, decide_eq_false (p := some L = some s.data.toList) (fun h => hL (Option.some.inj h))]; simp
     clear hL
     go_wp2_with fail
     refine HP2.out.mono ?_
     rintro e w2 ⟨rfl, hb2⟩
     have HB2 := hid hb2
     clear hb2
     go_wp2
     go_ret
     exact ⟨by rw [HF.out]; first | done | rfl, HB2.out⟩
end Go.Proofs.YtmdofbccebkbiaaGreatDoor.WinB
namespace Go.Proofs.YtmdofbccebkbiaaGreatDoor.WinR
open Go.RowKit Base aT zX uT
theorem bs_ne {c : UInt8} (h : c ≠ 47) : bs c = c := by unfold bs; rw [if_neg h]
theorem rZ : ∀ (L : List UInt8) (k : Nat), L.count 47 ≤ k → Lib.replaceK [47] [92] k L = L.map bs
 | [], 0, _ => rfl
 | [], k + 1, _ => rfl
 | a :: l, 0, h => by
  have hb : a ≠ 47 := by rintro rfl; simp at h
  have ih := rZ l 0 (by rw [List.count_cons_of_ne (by simpa using hb)] at h; exact h)
  rw [List.map_cons, ← ih, bs_ne hb]
  rfl
 | a :: l, k + 1, h => by
  by_cases hb : a = 47
  ·subst hb
   have ih := rZ l k (by simp at h; omega)
   have e : Lib.index (47 :: l) [47] = 0 := by rw [Lib.index, if_pos (by simp [List.isPrefixOf])]
   rw [Lib.replaceK, e, if_neg (by decide), List.map_cons]
   show [] ++ [92] ++ _ = _
   rw [← ih]
   rfl
  ·have hc : l.count 47 ≤ k + 1 := by rw [List.count_cons_of_ne (by simpa using hb)] at h; exact h
   have ih := rZ l (k + 1) hc
   have e : Lib.index (a :: l) [47] = if Lib.index l [47] == -1 then -1 else Lib.index l [47] + 1 := by rw [Lib.index, if_neg (by simp [List.isPrefixOf, Ne.symm hb])]
   rw [Lib.replaceK] at ih ⊢
   rw [List.map_cons, bs_ne hb, ← ih, e]
   by_cases hm : Lib.index l [47] = -1
   ·rw [hm]
    rfl
   ·have hge := Lib.index_ge l [47]
    obtain ⟨j, hj⟩ : ∃ j : Nat, Lib.index l [47] = j := ⟨(Lib.index l [47]).toNat, by omega⟩
    have h1 : ((j : Int) == -1) = false := beq_eq_false_iff_ne.2 (by omega)
    have h2 : ((j : Int) + 1 == -1) = false := beq_eq_false_iff_ne.2 (by omega)
    have h3 : ((j : Int) + 1).toNat = j + 1 := by omega
    simp only [hj, h1, Bool.false_eq_true, if_false, h2, h3]
    simp
theorem Qb (s : ByteArray) (w : World) (hs : s.size ≤ 1073741824) (hM : Max w) : Calls Tryz.prog 140 #[.string s, .string ⟨#[47]⟩, .string ⟨#[92]⟩] w fun e w' => e = .returned (.string (strOf (s.data.toList.map bs))) ∧ Below w.heap.size w w' := by
 obtain ⟨m, hm⟩ := hM
 have hc := Lib.countB_le ⟨#[47]⟩ (Nat.le_refl _) s.size s (Nat.le_refl _)
 refine (Tryz.strings_ReplaceAll s ⟨#[47]⟩ ⟨#[92]⟩ m w (by omega) hm (Nat.le_refl _) (by show s.size + Lib.countB s ⟨#[47]⟩ * 1 ≤ _; omega)).mono ?_
 rintro e w' ⟨rfl, hb⟩
 refine ⟨?_, hb⟩
 rw [show (⟨#[47]⟩ : ByteArray).data.toList = [47] from rfl, show (⟨#[92]⟩ : ByteArray).data.toList = [92] from rfl]
 unfold Lib.replaceAll Lib.replace Lib.replaceNum
 rw [if_neg (by decide), if_pos (.inl (by decide)), rZ _ _ (by rw [← Lib.count_one]; exact Nat.le_refl _)]
 rfl
end Go.Proofs.YtmdofbccebkbiaaGreatDoor.WinR
