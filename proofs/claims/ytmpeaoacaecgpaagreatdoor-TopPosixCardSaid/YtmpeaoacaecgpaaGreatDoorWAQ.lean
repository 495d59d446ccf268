/- Texts that belong together: NI, aj7, pR, agI, PosC, O1, BldF, Zw, UrlE, ag0. -/
import Derived.Test.YtmpeaoacaecgpaaGreatDoorWAO
import Derived.Test.YtmpeaoacaecgpaaGreatDoorWAP
import Derived.Test.YtmpeaoacaecgpaaGreatDoorWAA
import Derived.Test.YtmpeaoacaecgpaaGreatDoorWAE
import Derived.Test.YtmpeaoacaecgpaaGreatDoorWAN
import Derived.Test.YtmpeaoacaecgpaaGreatDoorShelf
import Derived.Laws.OwnMore
import Derived.Laws.IdiomStrings
import Derived.Shelf.Strings.BuilderF
import Derived.Test.YtmpeaoacaecgpaaGreatDoorWAF
import Derived.BigQuiet
import Derived.Deep.DeepCutAuto
set_option linter.unusedSimpArgs false
set_option linter.unusedVariables false
set_option maxRecDepth 100000
set_option maxHeartbeats 64000000
namespace Go.Proofs.YtmpeaoacaecgpaaGreatDoor.NI
open Go.RowKit Base Base2 Base3 sW yu Sls
open Go.Proofs.YtmpeaoacaecgpaaGreatDoor.pO (Max)
open Go.Proofs.YtmpeaoacaecgpaaGreatDoor.qh (val)
theorem tl (s : ByteArray) : s.toList = s.data.toList := Lib.toList_data s
theorem zQ {w : World} {A : Option Addr} {n : Nat} {l : List (List UInt8)} (h : aY w A n ((l.map strOf).map Value.string)) (k : Nat) (hk : k < n) (hl : l.length = n) : ∃ g off, A = some ⟨g, off, none⟩ ∧ g < w.heap.size ∧ w.cell? ⟨g, off + k, none⟩ = some (.string (strOf (l[k]'(by omega)))) := by
 obtain ⟨g, off, e, hg, hcell⟩ := h.spot (by omega)
 have hc := hcell k (by rw [List.length_map, List.length_map]; omega)
 simp only [List.getElem_map] at hc
 exact ⟨g, off, e, hg, hc⟩
theorem abu (A : Option Addr) (n cap : Nat) (l : List (List UInt8)) (w : World) (hR : aY w A n ((l.map strOf).map Value.string)) (hm : n ≤ 1073741824) :
  Calls Tryz.prog 100 #[.slice A n cap] w fun e w' => e = .returned (.bool (jO l && decide (0 < l.length))) ∧ w = w' := by
 have hl : l.length = n := by rw [← hR.1, List.length_map, List.length_map]
 obtain ⟨E, hE⟩ : ∃ E, E = jO l := ⟨_, rfl⟩
 have HN := hid hl
 have HR := hid hR
 have HZ : Hid ((jO l && decide (0 < l.length)) = (E && decide (0 < n))) := by show _ = _; rw [hE, hl]
 have Uw : Hid (E = jO (l.drop 0)) := hE
 clear hl hR hE
 go_enter Tryz.func100, Tryz.ntmps100
 go_wp2
 go_loopw [3, 6] (fun _ vk wr => ∃ k : Nat, k ≤ n ∧ vk = .int .i64 (k : Int) ∧ wr = w ∧ Hid (E = jO (l.drop k))) (fun _ vk _ => n - (intOf vk).toNat)
 case atStart => exact ⟨0, Nat.zero_le _, rfl, rfl, Uw⟩
 case round =>
  clear Uw
  obtain ⟨k, hk, rfl, rfl, HE⟩ := hrel
  by_cases hlt : k < n
  ·obtain ⟨g, off, rfl, hg, hc⟩ := zQ HR.out k hlt HN.out
   obtain ⟨x, hx⟩ : ∃ x, x = l[k]'(by rw [HN.out]; exact hlt) := ⟨_, rfl⟩
   rw [← hx] at hc
   have hok := QS l k (by rw [HN.out]; exact hlt)
   rw [show l[k]'(by rw [HN.out]; exact hlt) = x from hx.symm, HN.out] at hok
   by_cases h1 : x = [46]
   ·have f1 : ((strOf x).toList == [46]) = true := by rw [tl, h1]; rfl
    have HE2 : Hid (E = false) := by show _ = _; rw [HE.out, hok]; simp [tH, h1]
    clear hok hx h1
    go_wp2
    go_ret
    exact ⟨by rw [HZ.out, HE2.out]; rfl, rfl⟩
   ·have f1 : ((strOf x).toList == [46]) = false := by rw [tl, beq_eq_false_iff_ne]; exact h1
    by_cases h2 : x = [46, 46]
    ·have f2 : ((strOf x).toList == [46, 46]) = true := by rw [tl, h2]; rfl
     have HE2 : Hid (E = false) := by show _ = _; rw [HE.out, hok]; simp [tH, h2]
     clear hok hx h1 h2
     go_wp2
     go_ret
     exact ⟨by rw [HZ.out, HE2.out]; rfl, rfl⟩
    ·have f2 : ((strOf x).toList == [46, 46]) = false := by rw [tl, beq_eq_false_iff_ne]; exact h2
     by_cases h3 : x = []
     ·have f3 : (strOf x).toList = [] := by rw [tl]; exact h3
      by_cases hla : k + 1 = n
      ·have hli : ¬ (k : Int) < (n : Int) - 1 := by omega
       have HE2 : Hid (E = jO (l.drop (k + 1))) := by show _ = _; rw [HE.out, hok]; simp [tH, h1, h2, h3, hla]
       clear hok hx h1 h2 h3 hla
       go_wp2
       go_roundw
       case rel => exact ⟨k + 1, by omega, by go_num, by first | rfl | trivial, HE2⟩
       case measure => simp [intOf]; omega
      ·have hli : (k : Int) < (n : Int) - 1 := by omega
       have HE2 : Hid (E = false) := by show _ = _; rw [HE.out, hok]; simp [tH, h1, h2, h3, hla]
       clear hok hx h1 h2 h3 hla
       go_wp2
       go_ret
       exact ⟨by rw [HZ.out, HE2.out]; rfl, rfl⟩
     ·have f3 : ((strOf x).toList == []) = false := by rw [tl, beq_eq_false_iff_ne]; exact h3
      have f3' : (strOf x).toList.isEmpty = false := by rw [tl]; simpa [strOf] using h3
      have HE2 : Hid (E = jO (l.drop (k + 1))) := by show _ = _; rw [HE.out, hok]; simp [tH, h1, h2, h3]
      clear hok hx h1 h2 h3
      go_wp2
      go_roundw
      case rel => exact ⟨k + 1, by omega, by go_num, by first | rfl | trivial, HE2⟩
      case measure => simp [intOf]; omega
  ·obtain rfl : k = n := by omega
   have HE2 : Hid (E = true) := by show _ = _; rw [HE.out, List.drop_eq_nil_of_le (by rw [HN.out]; exact Nat.le_refl _)]; rfl
   by_cases h0 : 0 < k
   ·have h0i : (0 : Int) < (k : Int) := by omega
    go_wp2
    go_ret
    exact ⟨by rw [HZ.out, HE2.out]; simp [h0], rfl⟩
   ·obtain rfl : k = 0 := by omega
    go_wp2
    go_ret
    exact ⟨by rw [HZ.out, HE2.out]; rfl, rfl⟩
end Go.Proofs.YtmpeaoacaecgpaaGreatDoor.NI
namespace Go.Proofs.YtmpeaoacaecgpaaGreatDoor.aj7
open Go.RowKit Base Base2 Base3 sW yu Sls NI
open Go.Proofs.YtmpeaoacaecgpaaGreatDoor.pO (Max)
open Go.Proofs.YtmpeaoacaecgpaaGreatDoor.qh (val)
theorem pre47 : ∀ L : List UInt8, Lib.hasPrefix L [47] = decide (L.head? = some 47)
 | [] => rfl
 | c :: L => by
  by_cases h : c = 47
  ·subst h
   rw [decide_eq_true (show (47 :: L).head? = some 47 from rfl)]
   simp [Lib.hasPrefix, List.isPrefixOf]
  ·rw [decide_eq_false (by simpa using h)]
   simp only [Lib.hasPrefix, List.isPrefixOf, Bool.and_true, beq_eq_false_iff_ne, ne_eq]
   exact fun e => h e.symm
theorem ext1 (s : ByteArray) : (s.extract 1 s.size).data.toList = s.data.toList.drop 1 := by
 rw [Regs.ext_drop s 1 s.size rfl]
 rfl
theorem ext1_size (s : ByteArray) : (s.extract 1 s.size).size ≤ s.size := by rw [ByteArray.size_extract]; omega
theorem abm (s : ByteArray) (w : World) (hs : s.size ≤ 900000) :
  Calls Tryz.prog 41 #[.string s] w fun e w' => e = .returned (.bool (fine s.data.toList)) ∧ Below w.heap.size w w' := by
 have hl : s.data.toList.length = s.size := Array.length_toList
 obtain ⟨b, hb⟩ : ∃ b, b = fine s.data.toList := ⟨_, rfl⟩
 rw [← hb]
 obtain ⟨v, hv⟩ : ∃ v, v = val s.data.toList := ⟨_, rfl⟩
 obtain ⟨z, hz⟩ : ∃ z, z = s.data.toList.contains 0 := ⟨_, rfl⟩
 obtain ⟨l, hll⟩ : ∃ l, l = spl 47 (s.data.toList.drop 1) := ⟨_, rfl⟩
 obtain ⟨E, hE⟩ : ∃ E, E = jO l := ⟨_, rfl⟩
 have hV : b = (v && decide (s.data.toList.head? = some 47) && !z && E) := by rw [hb, hv, hz, hE, hll]; rfl
 have HHA : Hid (∀ w : World, Calls Tryz.prog 85 #[.string s, .int .u8 0] w fun e w' => e = .returned (.bool z) ∧ w = w') := fun w => by rw [hz]; exact Gn.kC s 0 w (by omega)
 have Gh : ∀ w : World, s.size ≤ grownCap w s.size 0 5 := fun w => grownCap_ge w s.size 0 5
 have HCAP := hid Gh
 have HVA : Hid (∀ (A : Option Addr) (n cap : Nat) (w : World), aY w A n (ah s.data.toList) → n ≤ 1073741824 → n ≤ cap → Calls Tryz.prog 99 #[.slice A n cap] w fun e w' => e = .returned (.bool v) ∧ Below w.heap.size w w') := fun A n cap w h1 h2 h3 => by rw [hv]; exact akn.fF A n cap _ w h1 h2 h3
 have TB : Hid (∀ w : World, Calls Tryz.prog 101 #[.string (s.extract 1 s.size), .int .u8 47] w (Gj w l)) := fun w => by rw [hll, ← ext1]; exact vP _ w (by have := ext1_size s; omega)
 have hcv := fun (w : World) s => run_bytes_of_string (P := Tryz.prog) w 9 45 5 s Tryz.underlying9 Tryz.underlying45 Tryz.underlying5
 have hlen : l ≠ [] := by rw [hll]; exact Ee 47 _
 have hlen2 : l.length ≤ 900001 := by rw [hll]; have := kD 47 (s.data.toList.drop 1); rw [List.length_drop, hl] at this; omega
 have HL0 := hid hlen
 have HL2 := hid hlen2
 have HEE := hid hE
 have OT := hid hV
 have Zh := hid hs
 clear Gh hb hz hll hE hv hlen hlen2 hs
 by_cases e0 : s.data.toList = []
 ·have q0 : s.toList = [] := by rw [tl]; exact e0
  have HF : Hid (b = false) := by show _ = _; rw [hV, e0]; simp
  clear e0 hl hV
  go_enter Tryz.func41, Tryz.ntmps41
  go_wp2
  go_ret
  exact ⟨by rw [HF.out]; first | done | rfl, Below.refl _ _⟩
 ·have q0 : (s.toList == []) = false := by rw [tl, beq_eq_false_iff_ne]; exact e0
  have q0' : s.toList.isEmpty = false := by rw [tl]; simpa using e0
  have h0 : 0 < s.size := by rw [← hl]; exact List.length_pos_iff.2 e0
  obtain ⟨c, hc⟩ : ∃ c, s[0] = c := ⟨_, rfl⟩
  have hhd : s.data.toList.head? = some c := by
   rw [List.head?_eq_getElem?, List.getElem?_eq_getElem (by rw [hl]; exact h0)]
   exact congrArg some hc
  have h0i : (1 : Int) ≤ (s.size : Int) := by omega
  by_cases h47 : c = 47
  ·have q1 : ((c.toNat : Int) != 47) = false := by rw [h47]; rfl
   have hV2 : b = (v && !z && E) := by rw [hV, hhd, h47]; simp
   have uQ := hid hV2
   clear e0 hl hV hhd h47 hV2
   cases z with
   | true =>
    have HF : Hid (b = false) := by show _ = _; rw [uQ.out]; simp
    go_enter Tryz.func41, Tryz.ntmps41
    go_wp2_with fail
    refine (HHA.out _).mono ?_
    rintro e w2 ⟨rfl, rfl⟩
    go_wp2
    go_ret
    exact ⟨by rw [HF.out]; first | done | rfl, Below.refl _ _⟩
   | false =>
    cases v with
    | false =>
     have HF : Hid (b = false) := by show _ = _; rw [uQ.out]; simp
     go_enter Tryz.func41, Tryz.ntmps41
     go_wp2_with fail
     refine (HHA.out _).mono ?_
     rintro e w2 ⟨rfl, hw2⟩
     subst hw2
     go_wp2_with fail
     refine (HVA.out _ s.size _ _ (fV s _ _ 5) (by have := Zh.out; omega) (HCAP.out _)).mono ?_
     rintro e w3 ⟨rfl, hb3⟩
     have HB := hid (((Below.refl w.heap.size w).alloc (Nat.le_refl _) _).drew.trans (hb3.mono (by simp)))
     clear hb3 hcv
     go_wp2
     go_ret
     exact ⟨by rw [HF.out]; first | done | rfl, HB.out⟩
    | true =>
     have HF : Hid (b = E) := by show _ = _; rw [uQ.out]; simp
     go_enter Tryz.func41, Tryz.ntmps41
     go_wp2_with fail
     refine (HHA.out _).mono ?_
     rintro e w2 ⟨rfl, hw2⟩
     subst hw2
     go_wp2_with fail
     refine (HVA.out _ s.size _ _ (fV s _ _ 5) (by have := Zh.out; omega) (HCAP.out _)).mono ?_
     rintro e w3 ⟨rfl, hb3⟩
     have HB := hid (((Below.refl w.heap.size w).alloc (Nat.le_refl _) _).drew.trans (hb3.mono (by simp)))
     clear hb3 hcv
     go_wp2_with fail
     refine (TB.out _).mono ?_
     rintro e w4 ⟨v4, rfl, hown, hb4⟩
     obtain ⟨A4, c4, rfl, hc4, hm4, hr4⟩ := aJ hown
     have HB4 := hid (bel HB.out hb4)
     have HR4 := hid hr4
     clear hown hb4 hr4
     go_wp2_with fail
     refine (abu A4 l.length c4 l _ HR4.out (by have := HL2.out; omega)).mono ?_
     rintro e w5 ⟨rfl, rfl⟩
     rw [← HEE.out, show decide (0 < l.length) = true from decide_eq_true (List.length_pos_iff.2 HL0.out), Bool.and_true]
     go_wp2
     go_ret
     exact ⟨by rw [HF.out]; first | done | rfl, HB4.out⟩
  ·have q1 : ((c.toNat : Int) != 47) = true := by have h := yO (d := 47) h47; unfold bne; rw [show ((c.toNat : Int) == 47) = false from h]; rfl
   have HF : Hid (b = false) := by show _ = _; rw [hV, hhd]; simp [h47]
   clear e0 hl hV hhd h47
   go_enter Tryz.func41, Tryz.ntmps41
   go_wp2
   go_ret
   exact ⟨by rw [HF.out]; first | done | rfl, Below.refl _ _⟩
theorem oW (s : ByteArray) (w : World) (hs : s.size ≤ 900000) (hM : Max w) :
  Calls Tryz.prog 42 #[.string s] w fun e w' => e = .returned (.bool (fine s.data.toList)) ∧ Below w.heap.size w w' := by
 have hl : s.data.toList.length = s.size := Array.length_toList
 obtain ⟨b, hb⟩ : ∃ b, b = fine s.data.toList := ⟨_, rfl⟩
 rw [← hb]
 obtain ⟨v, hv⟩ : ∃ v, v = val s.data.toList := ⟨_, rfl⟩
 obtain ⟨z, hz⟩ : ∃ z, z = s.data.toList.contains 0 := ⟨_, rfl⟩
 obtain ⟨l, hll⟩ : ∃ l, l = spl 47 (s.data.toList.drop 1) := ⟨_, rfl⟩
 obtain ⟨E, hE⟩ : ∃ E, E = jO l := ⟨_, rfl⟩
 have hV : b = (v && decide (s.data.toList.head? = some 47) && !z && E) := by rw [hb, hv, hz, hE, hll]; rfl
 have HVA : Hid (∀ (A : Option Addr) (n cap : Nat) (w : World), aY w A n (ah s.data.toList) → n ≤ 1073741824 → n ≤ cap → Calls Tryz.prog 102 #[.slice A n cap] w fun e w' => e = .returned (.bool v) ∧ Below w.heap.size w w') := fun A n cap w h1 h2 h3 => by rw [hv]; exact qh.fF A n cap _ w h1 h2 h3
 obtain ⟨p, hp⟩ : ∃ p, p = decide (s.data.toList.head? = some 47) := ⟨_, rfl⟩
 have HPX : Hid (∀ w : World, Calls Tryz.prog 103 #[.string s, .string ⟨#[47]⟩] w fun e w' => e = .returned (.bool p) ∧ w' = w) := fun w => by rw [hp, ← pre47]; exact Tryz.strings_HasPrefix s ⟨#[47]⟩ w
 have HCT : Hid (∀ w : World, Calls Tryz.prog 104 #[.string s, .string ⟨#[0]⟩] w fun e w' => e = .returned (.bool z) ∧ w = w') := fun w => by rw [hz]; exact FN 0 s w
 have wC : Hid (∀ w : World, Max w → Calls Tryz.prog 105 #[.string (s.extract 1 s.size), .string ⟨#[47]⟩] w (pO.Read w l)) := fun w h => by rw [hll, ← ext1]; exact abH _ w (by have := ext1_size s; omega) h
 have HCAP : Hid (∀ w : World, s.size ≤ grownCap w s.size 0 5) := fun w => grownCap_ge w s.size 0 5
 have hcv := fun (w : World) s => run_bytes_of_string (P := Tryz.prog) w 9 45 5 s Tryz.underlying9 Tryz.underlying45 Tryz.underlying5
 have hpos : p = true → 1 ≤ s.size := by
  intro h
  rw [hp, decide_eq_true_iff] at h
  rw [← hl]
  cases e : s.data.toList with
  | nil => rw [e] at h; cases h
  | cons a t => simp
 rw [← hp] at hV
 have HPO := hid hpos
 have HEE := hid hE
 have OT := hid hV
 have Zh := hid hs
 have HM := hid hM
 have hlen2 : l.length ≤ 900001 := by rw [hll]; have := kD 47 (s.data.toList.drop 1); rw [List.length_drop, hl] at this; omega
 clear hb hz hll hE hv hs hl hV hp hpos hM
 go_enter Tryz.func42, Tryz.ntmps42
 go_wp2_with fail
 refine (HVA.out _ s.size _ _ (fV s _ _ 5) (by have := Zh.out; omega) (HCAP.out _)).mono ?_
 rintro e w3 ⟨rfl, hb3⟩
 have HB := hid (((Below.refl w.heap.size w).alloc (Nat.le_refl _) _).drew.trans (hb3.mono (by simp)))
 clear hb3 hcv
 cases v with
 | false =>
  have HF : Hid (b = false) := by show _ = _; rw [OT.out]; simp
  go_wp2
  go_ret
  exact ⟨by rw [HF.out]; first | done | rfl, HB.out⟩
 | true =>
  go_wp2_with fail
  refine (HPX.out _).mono ?_
  rintro e w4 ⟨rfl, hw4⟩
  subst hw4
  cases p with
  | false =>
   have HF : Hid (b = false) := by show _ = _; rw [OT.out]; simp
   go_wp2
   go_ret
   exact ⟨by rw [HF.out]; first | done | rfl, HB.out⟩
  | true =>
   have h0i : (1 : Int) ≤ (s.size : Int) := by have := HPO.out rfl; omega
   go_wp2_with fail
   refine (HCT.out _).mono ?_
   rintro e w5 ⟨rfl, hw5⟩
   subst hw5
   cases z with
   | true =>
    have HF : Hid (b = false) := by show _ = _; rw [OT.out]; simp
    go_wp2
    go_ret
    exact ⟨by rw [HF.out]; first | done | rfl, HB.out⟩
   | false =>
    have HF : Hid (b = E) := by show _ = _; rw [OT.out]; simp
    go_wp2_with fail
    refine (wC.out _ (HM.out.below HB.out)).mono ?_
    rintro e w6 ⟨A, n, cp, rfl, hn, hnc, hcm, hR, hb6⟩
    have HN : Hid (l.length = n) := hn.symm
    have HR := hid hR
    have nN := hid (bel HB.out hb6)
    have hm : n ≤ 900001 := by omega
    have Uw : Hid (E = jO (l.drop 0)) := HEE.out
    clear hn hR hb6 hcm hlen2
    go_wp2
    go_loopw [4, 5, 24] (fun _ _ vk wr => ∃ k : Nat, k ≤ n ∧ vk = .int .i64 (k : Int) ∧ wr = w6 ∧ Hid (E = jO (l.drop k))) (fun _ _ vk _ => n - (intOf vk).toNat)
    case atStart => exact ⟨0, Nat.zero_le _, rfl, rfl, Uw⟩
    case round =>
     clear Uw
     obtain ⟨k, hk, rfl, rfl, HE⟩ := hrel
     by_cases hlt : k < n
     ·obtain ⟨g, off, rfl, hg, hc⟩ := zQ HR.out k hlt HN.out
      obtain ⟨x, hx⟩ : ∃ x, x = l[k]'(by rw [HN.out]; exact hlt) := ⟨_, rfl⟩
      rw [← hx] at hc
      have hok := QS l k (by rw [HN.out]; exact hlt)
      rw [show l[k]'(by rw [HN.out]; exact hlt) = x from hx.symm, HN.out] at hok
      by_cases h1 : x = [46]
      ·have f1 : ((strOf x).toList == [46]) = true := by rw [tl, h1]; rfl
       have HE2 : Hid (E = false) := by show _ = _; rw [HE.out, hok]; simp [tH, h1]
       clear hok hx h1
       go_wp2
       go_ret
       exact ⟨by rw [HF.out, HE2.out]; first | done | rfl, nN.out⟩
      ·have f1 : ((strOf x).toList == [46]) = false := by rw [tl, beq_eq_false_iff_ne]; exact h1
       by_cases h2 : x = [46, 46]
       ·have f2 : ((strOf x).toList == [46, 46]) = true := by rw [tl, h2]; rfl
        have HE2 : Hid (E = false) := by show _ = _; rw [HE.out, hok]; simp [tH, h2]
        clear hok hx h1 h2
        go_wp2
        go_ret
        exact ⟨by rw [HF.out, HE2.out]; first | done | rfl, nN.out⟩
       ·have f2 : ((strOf x).toList == [46, 46]) = false := by rw [tl, beq_eq_false_iff_ne]; exact h2
        by_cases h3 : x = []
        ·have f3 : (strOf x).toList = [] := by rw [tl]; exact h3
         by_cases hla : k + 1 = n
         ·have hli : ¬ (k : Int) < (n : Int) - 1 := by omega
          have HE2 : Hid (E = jO (l.drop (k + 1))) := by show _ = _; rw [HE.out, hok]; simp [tH, h1, h2, h3, hla]
          clear hok hx h1 h2 h3 hla
          go_wp2
          go_roundw
          case rel => exact ⟨k + 1, by omega, by go_num, by first | rfl | trivial, HE2⟩
          case measure => simp [intOf]; omega
         ·have hli : (k : Int) < (n : Int) - 1 := by omega
          have HE2 : Hid (E = false) := by show _ = _; rw [HE.out, hok]; simp [tH, h1, h2, h3, hla]
          clear hok hx h1 h2 h3 hla
          go_wp2
          go_ret
          exact ⟨by rw [HF.out, HE2.out]; first | done | rfl, nN.out⟩
        ·have f3 : ((strOf x).toList == []) = false := by rw [tl, beq_eq_false_iff_ne]; exact h3
         have f3' : (strOf x).toList.isEmpty = false := by rw [tl]; simpa [strOf] using h3
         have HE2 : Hid (E = jO (l.drop (k + 1))) := by show _ = _; rw [HE.out, hok]; simp [tH, h1, h2, h3]
         clear hok hx h1 h2 h3
         go_wp2
         go_roundw
         case rel => exact ⟨k + 1, by omega, by go_num, by first | rfl | trivial, HE2⟩
         case measure => simp [intOf]; omega
     ·obtain rfl : k = n := by omega
      have HE2 : Hid (E = true) := by show _ = _; rw [HE.out, List.drop_eq_nil_of_le (by rw [HN.out]; exact Nat.le_refl _)]; rfl
      go_wp2
      go_ret
      exact ⟨by rw [HF.out, HE2.out]; first | done | rfl, nN.out⟩
end Go.Proofs.YtmpeaoacaecgpaaGreatDoor.aj7
namespace Go.Proofs.YtmpeaoacaecgpaaGreatDoor.pR
open Go.RowKit Base dI cO zD
theorem dn {p : UInt8 → Prop} [∀ c, Decidable (p c)] (h : ∀ n : Fin 256, p (UInt8.ofNat n.val)) (c : UInt8) : p c := by
 have := h ⟨c.toNat, c.toNat_lt⟩
 simpa using this
theorem Ir (n : Nat) (h : n < 16) : hex (EscE.jR n).toNat = n := by
 have H : ∀ k : Fin 16, hex ((EscE.jR k.val).toNat : Int) = (k.val : Int) := by decide
 exact H ⟨n, h⟩
theorem N9 (c : UInt8) (rest : List UInt8) : fU.esc (37 :: EscE.jR (c.toNat / 16) :: EscE.jR (c.toNat % 16) :: rest) = some c := by
 have hc := c.toNat_lt
 have h1 := Ir (c.toNat / 16) (by omega)
 have h2 := Ir (c.toNat % 16) (by omega)
 rw [fU.esc, if_pos ⟨rfl, by rw [h1]; omega, by rw [h2]; omega⟩, h1, h2]
 congr 1
 apply UInt8.toNat_inj.1
 simp
 omega
theorem zZ (x : UInt8) (t : List UInt8) (h : x ≠ 37) : fU.esc (x :: t) = none := by
 match t with
 | [] => rfl
 | [_] => rfl
 | _ :: _ :: _ => rw [fU.esc, if_neg (fun e => h e.1)]
def odd (c : UInt8) : Bool := ji 4 c.toNat || (decide (c = 37) || (decide (c = 92) || decide (c = 124)))
def one (c : UInt8) : List UInt8 := if odd c = true then [37, EscE.jR (c.toNat / 16), EscE.jR (c.toNat % 16)] else [c]
def seg (L : List UInt8) : List UInt8 := L.flatMap one
theorem Rw (c : UInt8) (L : List UInt8) : seg (c :: L) = one c ++ seg L := by simp [seg]
theorem Yt (a b : List UInt8) : seg (a ++ b) = seg a ++ seg b := by simp [seg]
theorem EY (L : List UInt8) : (seg L).length ≤ 3 * L.length := by
 induction L with
 | nil => simp [seg]
 | cons c L ih =>
  have h : (one c).length ≤ 3 := by unfold one; split <;> simp
  rw [Rw, List.length_append, List.length_cons]
  omega
theorem tX (L : List UInt8) : fU.dec (seg L) = L := by
 induction L with
 | nil => rfl
 | cons c L ih =>
  rw [Rw]
  unfold one
  split
  ·rw [List.cons_append, List.cons_append, List.cons_append, List.nil_append, fU.oQ _ _ _ (N9 c _)]
   simp only [List.drop_succ_cons, List.drop_zero, ih]
  ·rename_i hn
   have hne : c ≠ 37 := by
    rintro rfl
    exact hn (by decide +kernel)
   rw [List.cons_append, List.nil_append, fU.kJ _ _ (zZ c _ hne), ih]
theorem Aj (c : UInt8) (h : c ≠ 47) : ∀ d ∈ one c, ji 4 d.toNat = false ∧ d ≠ 47 ∧ d ≠ 92 ∧ d ≠ 124 :=
 dn (p := fun c => c ≠ 47 → ∀ d ∈ one c, ji 4 d.toNat = false ∧ d ≠ 47 ∧ d ≠ 92 ∧ d ≠ 124) (by decide +kernel) c h
theorem agk {L : List UInt8} (h : ∀ c ∈ L, c ≠ 47) : ∀ d ∈ seg L, ji 4 d.toNat = false ∧ d ≠ 47 ∧ d ≠ 92 ∧ d ≠ 124 := by
 intro d hd
 obtain ⟨c, hc, hm⟩ := List.mem_flatMap.1 hd
 exact Aj c (h c hc) d hm
end Go.Proofs.YtmpeaoacaecgpaaGreatDoor.pR
namespace Go.Proofs.YtmpeaoacaecgpaaGreatDoor.agI
open Go.RowKit Base Base2 Wx
theorem qL (B b : Nat) (l : List UInt8) (w : World) (h : lq B b l w) (hBw : B ≤ w.heap.size) :
  Calls Tryz.prog 155 #[.pointer (some ⟨b, 0, none⟩)] w fun e w' => e = .returned (.string (strOf l)) ∧ Below B w w' := Tryz.Builder_String B b l w h hBw
theorem gZ {B b : Nat} {l : List UInt8} {w w' : World} (h : lq B b l w) (hb : Below w.heap.size w w') : lq B b l w' := by
 rcases h with ⟨h1, v, h2, h3, h4⟩ | ⟨h1, v, h2, h3, h4⟩
 ·exact Or.inl ⟨h1, v, (hb.block _ (Array.getElem?_eq_some_iff.1 h2).1).trans h2, aP h3 hb, h4⟩
 ·exact Or.inr ⟨h1, v, (hb.block _ (Array.getElem?_eq_some_iff.1 h2).1).trans h2, aP h3 hb, h4⟩
end Go.Proofs.YtmpeaoacaecgpaaGreatDoor.agI
namespace Go.Proofs.YtmpeaoacaecgpaaGreatDoor.PosC
open Go.RowKit Base Base2 Base3 Wx agI sW Sls NI
open Go.Proofs.YtmpeaoacaecgpaaGreatDoor.pR (dn seg Yt EY)
def alike (c : UInt8) : Bool := [37, 92, 124].contains c
theorem seg1 (c : UInt8) : (alike c = true → EscE.enc 6 [c] = pR.one c) ∧ (alike c = false → EscE.enc 4 [c] = pR.one c) :=
 dn (p := fun c => (alike c = true → EscE.enc 6 [c] = pR.one c) ∧ (alike c = false → EscE.enc 4 [c] = pR.one c)) (by decide +kernel) c
theorem one_row (c : UInt8) (w : World) : aY (w.alloc (.cells #[.int .u8 (c.toNat : Int)] 5)) (some ⟨w.heap.size, 0, none⟩) 1 (ah [c]) := qF w [c] 5 (0, 0)
theorem anx (L : List UInt8) (c : UInt8) : seg (L ++ [c]) = seg L ++ pR.one c := by rw [Yt]; congr 1; simp [seg]
theorem Oj (c : UInt8) : (pR.one c).length ≤ 3 := by unfold pR.one; split <;> simp
theorem Ec (s : ByteArray) (w : World) (hs : s.size ≤ 10000000) :
  Calls Tryz.prog 199 #[.string s] w fun e w' => e = .returned (.string (strOf (seg s.data.toList))) ∧ Below w.heap.size w w' := by
 have hl : s.data.toList.length = s.size := Array.length_toList
 have HL := hid hl
 clear hl
 have HB0 : Hid (lq w.heap.size w.heap.size [] (w.alloc (.cells #[.pointer none, .slice none 0 0] 147))) := Lib.fresh_isBuilder 147 5 w
 go_enter Tryz.func199, Tryz.ntmps199
 go_wp2
 go_loopw [4, 5] (fun vk _ wr => ∃ k : Nat, k ≤ s.size ∧ vk = .int .i64 (k : Int) ∧ Hid (lq w.heap.size w.heap.size (seg (s.data.toList.take k)) wr) ∧ Hid (Below w.heap.size w wr)) (fun vk _ _ => s.size - (intOf vk).toNat)
 case atStart => exact ⟨0, Nat.zero_le _, rfl, HB0.out, (Below.refl _ _).alloc (Nat.le_refl _) _⟩
 case round =>
  clear HB0
  obtain ⟨k, hk, rfl, HB, HBL⟩ := hrel
  have hsz : w.heap.size ≤ wr.heap.size := HBL.out.size
  by_cases hlt : k < s.size
  ·obtain ⟨c, hc⟩ : ∃ c, s[k] = c := ⟨_, rfl⟩
   have hkl : k < s.data.toList.length := by rw [HL.out]; exact hlt
   have hcl : s.data.toList[k] = c := hc
   have HS : Hid (seg (s.data.toList.take (k + 1)) = seg (s.data.toList.take k) ++ pR.one c) := by
    show _ = _
    rw [take_snoc _ k hkl, hcl, anx]
   have hlen : (seg (s.data.toList.take k)).length ≤ 3 * k := by
    have := EY (s.data.toList.take k)
    rw [List.length_take, HL.out] at this
    omega
   obtain ⟨X, hX⟩ : ∃ X, X = seg (s.data.toList.take k) := ⟨_, rfl⟩
   rw [← hX] at HS HB hlen
   obtain ⟨a, ha⟩ : ∃ a, a = alike c := ⟨_, rfl⟩
   have YN : Hid (∀ w : World, Calls Tryz.prog 217 #[.string ⟨#[37, 92, 124]⟩, .int .u8 (c.toNat : Int)] w fun e w' => ∃ z : Int, e = .returned (.int .i64 z) ∧ decide (0 ≤ z) = a ∧ w' = w) := fun w => by
    refine (Tryz.strings_IndexByte ⟨#[37, 92, 124]⟩ _ w).mono ?_
    rintro e w' ⟨rfl, rfl⟩
    refine ⟨_, rfl, ?_, rfl⟩
    rw [show ((c.toNat : Int).toNat.toUInt8) = c by simp, alO, ha]
    rfl
   have hone := Oj c
   cases a with
   | true =>
    have F6 : Hid (∀ (A : Option Addr) (n cap : Nat) (w : World), aY w A n (ah [c]) → n ≤ 1073741824 → Calls Tryz.prog 121 #[.int .i64 6, .slice A n cap] w fun e w' => e = .returned (.string (strOf (pR.one c))) ∧ Below w.heap.size w w') := fun A n cap w h1 h2 => by rw [← (seg1 c).1 ha.symm]; exact EscE.eF 6 A n cap [c] w h1 h2
    clear ha hX hkl hcl
    go_wp2_with fail
    refine (YN.out _).mono ?_
    rintro e w2 ⟨z, rfl, hz, hw2⟩
    subst hw2
    have hz1 : 0 ≤ z := by simpa using hz
    go_wp2_with fail
    refine (F6.out _ 1 1 _ (one_row c _) (by omega)).mono ?_
    rintro e w3 ⟨rfl, hb3⟩
    have hbw := ((Below.refl w2.heap.size w2).alloc (Nat.le_refl _) (.cells #[.int .u8 (c.toNat : Int)] 5)).trans (hb3.mono (by simp))
    have HB3 := hid (gZ HB.out hbw)
    have mP : Hid (Below w.heap.size w w3) := HBL.out.trans (hbw.mono hsz)
    have hsz3 : w.heap.size ≤ w3.heap.size := mP.out.size
    clear hbw hb3 hz
    go_wp2_with fail
    refine (write_any _ _ _ _ _ HB3.out (by rw [size_strOf]; omega) hsz3).mono ?_
    rintro e w4 ⟨rfl, hb4, hb5⟩
    have HB4 : Hid (lq w.heap.size w.heap.size (seg (s.data.toList.take (k + 1))) w4) := by show lq _ _ _ _; rw [HS.out]; exact hb4
    have F5 := hid (mP.out.trans hb5)
    clear hb4 hb5 hlen hone
    go_wp2
    go_roundw
    case rel => exact ⟨k + 1, by omega, by go_num, HB4, F5⟩
    case measure => simp [intOf]; omega
   | false =>
    have F6 : Hid (∀ (A : Option Addr) (n cap : Nat) (w : World), aY w A n (ah [c]) → n ≤ 1073741824 → Calls Tryz.prog 121 #[.int .i64 4, .slice A n cap] w fun e w' => e = .returned (.string (strOf (pR.one c))) ∧ Below w.heap.size w w') := fun A n cap w h1 h2 => by rw [← (seg1 c).2 ha.symm]; exact EscE.eF 4 A n cap [c] w h1 h2
    clear ha hX hkl hcl
    go_wp2_with fail
    refine (YN.out _).mono ?_
    rintro e w2 ⟨z, rfl, hz, hw2⟩
    subst hw2
    have hz1 : ¬ 0 ≤ z := by simpa using hz
    go_wp2_with fail
    refine (F6.out _ 1 1 _ (one_row c _) (by omega)).mono ?_
    rintro e w3 ⟨rfl, hb3⟩
    have hbw := ((Below.refl w2.heap.size w2).alloc (Nat.le_refl _) (.cells #[.int .u8 (c.toNat : Int)] 5)).trans (hb3.mono (by simp))
    have HB3 := hid (gZ HB.out hbw)
    have mP : Hid (Below w.heap.size w w3) := HBL.out.trans (hbw.mono hsz)
    have hsz3 : w.heap.size ≤ w3.heap.size := mP.out.size
    clear hbw hb3 hz
    go_wp2_with fail
    refine (write_any _ _ _ _ _ HB3.out (by rw [size_strOf]; omega) hsz3).mono ?_
    rintro e w4 ⟨rfl, hb4, hb5⟩
    have HB4 : Hid (lq w.heap.size w.heap.size (seg (s.data.toList.take (k + 1))) w4) := by show lq _ _ _ _; rw [HS.out]; exact hb4
    have F5 := hid (mP.out.trans hb5)
    clear hb4 hb5 hlen hone
    go_wp2
    go_roundw
    case rel => exact ⟨k + 1, by omega, by go_num, HB4, F5⟩
    case measure => simp [intOf]; omega
  ·obtain rfl : k = s.size := by omega
   have HT : Hid (seg (s.data.toList.take s.size) = seg s.data.toList) := by show _ = _; rw [List.take_of_length_le (by rw [HL.out]; exact Nat.le_refl _)]
   go_wp2_with fail
   refine (qL _ _ _ _ HB.out hsz).mono ?_
   rintro e w3 ⟨rfl, hb3⟩
   have HB3 := hid (HBL.out.trans hb3)
   clear hb3
   go_wp2
   go_ret
   exact ⟨by rw [← HT.out]; first | done | rfl, HB3.out⟩
end Go.Proofs.YtmpeaoacaecgpaaGreatDoor.PosC
namespace Go.Proofs.YtmpeaoacaecgpaaGreatDoor.O1
open Go.RowKit Base Regs Base2 Base3 sW yu Sls NI aj7 PosC
open Go.Proofs.YtmpeaoacaecgpaaGreatDoor.pR (seg)
open Go.Proofs.YtmpeaoacaecgpaaGreatDoor.pO (Max)
def gy (h : List UInt8) (p : Value) : Array Value := #[.string ⟨#[102, 105, 108, 101]⟩, .string ⟨#[]⟩, .string ⟨#[]⟩, .string (strOf h), .bool true, .int .i64 (-1), .bool false, .string ⟨#[]⟩, p, .bool false, .bool false, .string ⟨#[]⟩, .string ⟨#[]⟩]
def gG : Array Value := #[.string ⟨#[]⟩, .string ⟨#[]⟩, .string ⟨#[]⟩, .string ⟨#[]⟩, .bool false, .int .i64 0, .bool false, .string ⟨#[]⟩, .slice none 0 0, .bool false, .bool false, .string ⟨#[]⟩, .string ⟨#[]⟩]
def Bx (w : World) (g : Nat) (cs : Array Value) : Prop := w.heap[g]? = some (.cells cs 25 (0, 0))
variable {w w' : World} {g : Nat} {cs ds : Array Value}
theorem Bx.lt (h : Bx w g cs) : g < w.heap.size := (Array.getElem?_eq_some_iff.1 h).1
theorem Bx.below (h : Bx w g cs) (hb : Below w.heap.size w w') : Bx w' g cs := (hb.block g h.lt).trans h
theorem Bx.under {B : Nat} (h : Bx w g cs) (hb : Below B w w') (hg : g < B) : Bx w' g cs := (hb.block g hg).trans h
theorem Bx.load (h : Bx w g cs) (hs : cs.size = 13) : (loadVar 25 ⟨g, 0, none⟩).run Tryz.prog w = .ok (.agg cs) w :=
 run_loadVar_row w g _ _ cs (0, 0) _ h Tryz.underlying25 rfl (by rw [hs]; kernel_rfl)
theorem Bx.path {h : List UInt8} {p : Value} (hB : Bx w g (gy h p)) (q : Value) : Bx (w.setCell ⟨g, 8, none⟩ q) g (gy h q) := heap_setCell_same w g 8 _ _ _ hB
theorem Bx.set {k i : Nat} (h : Bx w g cs) (x : Value) (hk : g ≠ k) : Bx (w.setCell ⟨k, i, none⟩ x) g cs := (heap_setCell_other w ⟨k, i, none⟩ g x hk).trans h
theorem Bx.MI {h : List UInt8} {p : Value} (hB : Bx w g (gy h p)) : w.cell? ⟨g, 8, none⟩ = some p ∧ w.frozen? ⟨g, 8, none⟩ = false := ⟨cell_of_row w g 8 _ _ _ hB, frozen_of_row w g 8 _ _ hB⟩
theorem Bx.facts {h : List UInt8} {p : Value} (hB : Bx w g (gy h p)) : w.cell? ⟨g, 0, none⟩ = some (.string ⟨#[102, 105, 108, 101]⟩) ∧ w.cell? ⟨g, 1, none⟩ = some (.string ⟨#[]⟩) ∧ w.cell? ⟨g, 2, none⟩ = some (.string ⟨#[]⟩) ∧ w.cell? ⟨g, 3, none⟩ = some (.string (strOf h)) ∧ w.cell? ⟨g, 4, none⟩ = some (.bool true) ∧ w.cell? ⟨g, 5, none⟩ = some (.int .i64 (-1)) ∧ w.cell? ⟨g, 6, none⟩ = some (.bool false) ∧ w.cell? ⟨g, 7, none⟩ = some (.string ⟨#[]⟩) ∧ w.cell? ⟨g, 8, none⟩ = some (p) ∧ w.cell? ⟨g, 9, none⟩ = some (.bool false) ∧ w.cell? ⟨g, 10, none⟩ = some (.bool false) ∧ w.cell? ⟨g, 11, none⟩ = some (.string ⟨#[]⟩) ∧ w.cell? ⟨g, 12, none⟩ = some (.string ⟨#[]⟩) :=
 ⟨cell_of_row w g 0 _ _ _ hB, cell_of_row w g 1 _ _ _ hB, cell_of_row w g 2 _ _ _ hB, cell_of_row w g 3 _ _ _ hB, cell_of_row w g 4 _ _ _ hB, cell_of_row w g 5 _ _ _ hB, cell_of_row w g 6 _ _ _ hB, cell_of_row w g 7 _ _ _ hB, cell_of_row w g 8 _ _ _ hB, cell_of_row w g 9 _ _ _ hB, cell_of_row w g 10 _ _ _ hB, cell_of_row w g 11 _ _ _ hB, cell_of_row w g 12 _ _ _ hB⟩
theorem Bx.row (h : Bx w g cs) (ds : Array Value) : Bx (w.setRow g ds) g ds := setRow_heap w g cs ds _ (0, 0) h
theorem laid (w : World) (a : Array Value) (T : TypeId) : (w.alloc (.cells a T)).heap[w.heap.size]? = some (.cells a T (0, 0)) ∧ Below w.heap.size w (w.alloc (.cells a T)) :=
 ⟨heap_alloc_new w _, (Below.refl _ _).alloc (Nat.le_refl _) _⟩
theorem pJ {ops : Array Oper} {rest : List Oper} {o : Oper} {a : Act} {Q : Exit → Act → World → Prop} (hU : Bx w g cs) (ds : Array Value) (hs : cs.size = 13) (hs2 : ds.size = 13) (h1 : ds.all (·.oneCell') = true) (x y : Operand) (ho : o.op = .store 25 x y) (hgd : o.guard = none)
  (hx : a.eval x = .pointer (some ⟨g, 0, none⟩)) (hy : a.eval y = .agg ds)
  (h : wpList Tryz.prog ops Q rest (a.put o.dst undef) (w.setRow g ds)) : wpList Tryz.prog ops Q (o :: rest) a w :=
 wpList_store_row hgd 25 x y ho g ds hx hy 25 cs hU (by rw [hs2]; kernel_rfl) (by rw [hs, hs2]) h1 h
theorem aaU (h : List UInt8) (A : Option Addr) (n c : Nat) : (gy h (.slice A n c)).all (·.oneCell') = true := by simp [gy, Value.oneCell']
theorem VG : gG.all (·.oneCell') = true := by simp [gG, Value.oneCell']
theorem res {fn : Func} {a b : Tmp} (h : fn.results = #[.cell a 25, .tmp b]) (hU : Bx w g cs) (hs : cs.size = 13) (v : Value) (tmps : Array Value) (h2 : tmps.getD a undef = .pointer (some ⟨g, 0, none⟩)) (h3 : tmps.getD b undef = v) :
  (results fn tmps).run Tryz.prog w = .ok (.tuple #[.agg cs, v]) w := by
 have hp' : tmps[a]?.getD undef = .pointer (some ⟨g, 0, none⟩) := by simpa using h2
 have hq' : tmps[b]?.getD undef = v := by simpa using h3
 simp [results, h, hp', hq', asAddr, hU.load hs]
theorem below_setRow {B : Nat} {w0 : World} (h : Below B w0 w) (hg : B ≤ g) (ds : Array Value) : Below B w0 (w.setRow g ds) := by
 refine ⟨h.os, h.tape, h.output, ?_, fun k hk => (setRow_other w g k ds (by omega)).trans (h.block k hk)⟩
 simpa [World.setRow] using h.size
theorem qp {B : Nat} {w0 : World} (h : Below B w0 w) (hg : B ≤ g) (ds : Array Value) : Below B w0 (w.setRow g ds) := below_setRow h hg ds
def agG (yes no : Value) (hst : List UInt8) (w : World) (o : Option (List (List UInt8))) (e : Ending) (w' : World) : Prop := Below w.heap.size w w' ∧ match o with
 | none => e = .returned (.tuple #[.agg gG, no])
 | some l => ∃ A n c, e = .returned (.tuple #[.agg (gy hst (.slice A n c)), yes]) ∧ w'.ownsRow w.heap.size 9 1 (.slice A n c) n ((l.map strOf).map Value.string)
theorem UL {yes no : Value} {hst : List UInt8} {o : Option (List (List UInt8))} (ho : o = none) (hb : Below w.heap.size w w') : agG yes no hst w o (.returned (.tuple #[.agg gG, no])) w' := by
 subst ho
 exact ⟨hb, rfl⟩
theorem Ku {yes no : Value} {hst : List UInt8} {o : Option (List (List UInt8))} {l : List (List UInt8)} (ho : o = some l) (hb : Below w.heap.size w w') {A : Option Addr} {n c : Nat} (hown : w'.ownsRow w.heap.size 9 1 (.slice A n c) n ((l.map strOf).map Value.string)) : agG yes no hst w o (.returned (.tuple #[.agg (gy hst (.slice A n c)), yes])) w' := by
 subst ho
 exact ⟨hb, A, n, c, rfl, hown⟩
theorem Jg {B n : Nat} {e : TypeId} {v x : Value} {xs : List Value} {i : Nat} (h : w.ownsRow B e 1 v n xs) (hg : g < B) : (w.setCell ⟨g, i, none⟩ x).ownsRow B e 1 v n xs := by
 refine ⟨h.1, ?_⟩
 rcases h.2 with hn | ⟨k, cap, cur, rfl, hb, hh, rest⟩
 ·exact .inl hn
 ·exact .inr ⟨k, cap, cur, rfl, hb, (heap_setCell_other _ _ _ _ (show k ≠ g by omega)).trans hh, rest⟩
theorem DT {B n : Nat} {e : TypeId} {v : Value} {xs : List Value} (h : w.ownsRow B e 1 v n xs) (hg : g < B) (ds : Array Value) : (w.setRow g ds).ownsRow B e 1 v n xs := by
 refine ⟨h.1, ?_⟩
 rcases h.2 with hn | ⟨k, cap, cur, rfl, hb, hh, rest⟩
 ·exact .inl hn
 ·exact .inr ⟨k, cap, cur, rfl, hb, (setRow_other _ _ _ _ (show k ≠ g by omega)).trans hh, rest⟩
def yB (w : World) (b : Nat) (l : List (List UInt8)) : Prop := w.heap[b]? = some (.cells ((l.map strOf).map Value.string).toArray 9 (0, 0))
theorem yB.lt {b : Nat} {l : List (List UInt8)} (h : yB w b l) : b < w.heap.size := (Array.getElem?_eq_some_iff.1 h).1
theorem yB.cell {b : Nat} {l : List (List UInt8)} (h : yB w b l) (k : Nat) (hk : k < l.length) : w.cell? ⟨b, k, none⟩ = some (.string (strOf l[k])) := (cell_of_row w b k _ _ _ h).trans (by simp [hk])
theorem aiK (b : UInt8) (s : ByteArray) (w : World) (hs : s.size ≤ 1073741824) (hM : Max w) : Calls Tryz.prog 105 #[.string s, .string ⟨#[b]⟩] w fun e w' => e = .returned (.slice (some ⟨w.heap.size, 0, none⟩) (spl b s.data.toList).length (spl b s.data.toList).length) ∧ yB w' w.heap.size (spl b s.data.toList) ∧ Below w.heap.size w w' := by
 obtain ⟨m, hm⟩ := hM
 refine (Tryz.strings_Split s ⟨#[b]⟩ m w (by omega) hm (Nat.le_refl _)).mono ?_
 rintro e w' ⟨rfl, rfl⟩
 have hd := Lib.splitB_data ⟨#[b]⟩ 0 (Lib.countB s ⟨#[b]⟩) s
 rw [show (⟨#[b]⟩ : ByteArray).data.toList = [b] from rfl, pO.qJ b (spl b) rfl (RI b) (JB b) _ _ (by rw [← Lib.count_one]; exact Nat.le_refl _)] at hd
 have hl := Lib.splitB_all ⟨#[b]⟩ (Nat.le_refl _) 0 _ s rfl
 generalize Lib.splitB ⟨#[b]⟩ 0 (Lib.countB s ⟨#[b]⟩) s = B at hd hl ⊢
 have hB : B = (spl b s.data.toList).map strOf := by
  rw [← hd, List.map_map]
  conv => lhs; rw [← List.map_id B]
  exact List.map_congr_left fun x _ => (aG x).symm
 have hn : Lib.countB s ⟨#[b]⟩ + 1 = (spl b s.data.toList).length := by rw [← hl, hB, List.length_map]
 refine ⟨by rw [hn], ?_, (Below.refl _ _).alloc (Nat.le_refl _) _⟩
 unfold yB
 rw [← hB]
 exact heap_alloc_new w _
theorem one_cell (w : World) (x : Value) (T : TypeId) : aY (w.alloc (.cells #[x] T)) (some ⟨w.heap.size, 0, none⟩) 1 [x] :=
 aY.jF rfl (by simp) (fun j hj => by
  simp at hj
  subst hj
  rw [Nat.zero_add, World.cell?_alloc_mark]
  rfl)
theorem Ol (s : ByteArray) : ∀ u ∈ [Value.string s], u.oneCell' = true := by
 intro u hu
 simp at hu
 subst hu
 rfl
def YI (L : List UInt8) : Option (List (List UInt8)) := if fine L = true then some ((spl 47 (L.drop 1)).map seg) else none
theorem xA (s : ByteArray) (w : World) (hs : s.size ≤ 900000) (hM : Max w) :
  Calls Tryz.prog 93 #[.string s] w (agG (.int .i64 0) (.int .i64 2) [] w (YI s.data.toList)) := by
 have hl : s.data.toList.length = s.size := Array.length_toList
 obtain ⟨b, hb⟩ : ∃ b, b = fine s.data.toList := ⟨_, rfl⟩
 obtain ⟨l, hll⟩ : ∃ l, l = spl 47 (s.data.toList.drop 1) := ⟨_, rfl⟩
 obtain ⟨O, hO⟩ : ∃ O, O = YI s.data.toList := ⟨_, rfl⟩
 rw [← hO]
 have HO : Hid (O = if b = true then some (l.map seg) else none) := by show _ = _; rw [hO, hb, hll]; rfl
 have hlen2 : l.length ≤ s.size + 1 := by rw [hll]; have := kD 47 (s.data.toList.drop 1); rw [List.length_drop, hl] at this; omega
 have hxl : ∀ x ∈ l, x.length ≤ s.size := by
  intro x hx
  rw [hll] at hx
  have := AO 47 _ x hx
  rw [List.length_drop, hl] at this
  omega
 have hpos : b = true → 1 ≤ s.size := by
  intro h
  rw [hb, aal] at h
  rw [← hl]
  cases e : s.data.toList with
  | nil => rw [e] at h; exact absurd h.2.1 (by decide)
  | cons a t => simp
 have WC : Hid (∀ w : World, Max w → Calls Tryz.prog 42 #[.string s] w fun e w' => e = .returned (.bool b) ∧ Below w.heap.size w w') := fun w h => by rw [hb]; exact oW s w (by omega) h
 have wC : Hid (∀ w : World, Max w → Calls Tryz.prog 105 #[.string (s.extract 1 s.size), .string ⟨#[47]⟩] w fun e w' => e = .returned (.slice (some ⟨w.heap.size, 0, none⟩) l.length l.length) ∧ yB w' w.heap.size l ∧ Below w.heap.size w w') := fun w h => by rw [hll, ← ext1]; exact aiK 47 _ w (by have := ext1_size s; omega) h
 have HPO := hid hpos
 have HM := hid hM
 have HXL := hid hxl
 obtain ⟨i0, hi, hz0, hz1, hz2⟩ := info_parts pq
 obtain ⟨n, hn⟩ : ∃ n, n = l.length := ⟨_, rfl⟩
 have HN := hid hn
 rw [← hn] at wC hlen2
 have hn9 : n ≤ 900001 := by omega
 clear hb hll hO hl hxl hpos hlen2 hM hn
 go_enter Tryz.func93, Tryz.ntmps93
 go_upto_region 1 with (fail)
 generalize hw : World.alloc w _ = w1
 have h1 : Bx w1 w.heap.size (gG) ∧ Below w.heap.size w w1 := by
  subst hw
  exact laid w _ _
 clear hw
 have kP := hid h1.1
 have HB1 := hid h1.2
 clear h1
 go_wp2_with fail
 refine (WC.out _ (HM.out.below HB1.out)).mono ?_
 rintro e w2 ⟨rfl, hb2⟩
 have gY := hid (kP.out.below hb2)
 have HB2 := hid (bel HB1.out hb2)
 clear kP HB1 hb2
 cases b with
 | false =>
  have HF : Hid (O = none) := by show _ = _; rw [HO.out]; rfl
  go_wp2_with (refine pJ gY.out gG rfl rfl VG (.tmp 2) (.tmp 10) rfl rfl rfl rfl ?_)
  try simp only [Exit.inBlock, Exit.then]
  exact bodyPost_ret (w := World.setRow w2 w.heap.size gG) (res rfl (gY.out.row gG) rfl (.int .i64 2) _ rfl rfl) rfl (UL HF.out (qp HB2.out (Nat.le_refl _) gG))
 | true =>
  have HF : Hid (O = some (l.map seg)) := by show _ = _; rw [HO.out]; rfl
  have h0i : (1 : Int) ≤ (s.size : Int) := by have := HPO.out rfl; omega
  go_upto_region 4 with (fail)
  generalize hw : World.alloc w2 _ = w3
  have h1 : Bx w3 w2.heap.size (gy [] (.slice none 0 0)) ∧ Below w2.heap.size w2 w3 := by
   subst hw
   exact laid w2 _ _
  clear hw
  have jI := hid (gY.out.below h1.2)
  have HU3 := hid h1.1
  have HB3 := hid (bel HB2.out h1.2)
  have HG : Hid (w.heap.size < w2.heap.size) := gY.out.lt
  have HG3 : Hid (w2.heap.size < w3.heap.size) := HU3.out.lt
  clear h1
  go_wp2_with fail
  refine (wC.out _ (HM.out.below HB3.out)).mono ?_
  rintro e w4 ⟨rfl, hrow, hb4⟩
  have JQ := hid (jI.out.below hb4)
  have HU4 := hid (HU3.out.below hb4)
  have HB4 := hid (bel HB3.out hb4)
  have HR4 := hid hrow
  have HG4 : Hid (w3.heap.size < w4.heap.size) := hrow.lt
  obtain ⟨gu, hgu⟩ : ∃ gu, gu = w2.heap.size := ⟨_, rfl⟩
  obtain ⟨gr, hgr⟩ : ∃ gr, gr = w3.heap.size := ⟨_, rfl⟩
  rw [← hgr] at HG3 HG4 HR4 ⊢
  rw [← hgu] at HG HG3 HU4 ⊢
  clear hrow hb4 jI HU3 HB3 gY HB2 hgu hgr
  go_wp2
  go_loopw [6, 16] (fun _ vk wr => ∃ (k : Nat) (A : Option Addr) (c : Nat), k ≤ n ∧ vk = .int .i64 (k : Int) ∧ Hid (wr.ownsRow w4.heap.size 9 1 (.slice A k c) k ((((l.take k).map seg).map strOf).map Value.string)) ∧ Hid (Bx wr gu (gy [] (.slice A k c))) ∧ Hid (Bx wr w.heap.size gG) ∧ Hid (yB wr gr l) ∧ Hid (Below w.heap.size w wr) ∧ w4.heap.size ≤ wr.heap.size) (fun _ vk _ => n - (intOf vk).toNat)
  case atStart => exact ⟨0, none, 0, Nat.zero_le _, rfl, World.ownsRow_nil _ _ _ _, HU4.out, JQ.out, HR4.out, HB4.out, Nat.le_refl _⟩
  case round =>
   clear HU4 JQ HR4 HB4
   obtain ⟨k, A, c, hk, rfl, HOW, HU, HX, HR, HB, hsz⟩ := hrel
   have MC := hid hsz
   by_cases hlt : k < n
   ·obtain ⟨x, hxd⟩ : ∃ x, x = l[k]'(by rw [← HN.out]; exact hlt) := ⟨_, rfl⟩
    have hc := HR.out.cell k (by rw [← HN.out]; exact hlt)
    rw [← hxd] at hc
    have hxs : x.length ≤ 900000 := by rw [hxd]; have := HXL.out _ (List.getElem_mem (l := l) (n := k) (by rw [← HN.out]; exact hlt)); omega
    obtain ⟨sx, hsx⟩ : ∃ sx, sx = strOf (seg x) := ⟨_, rfl⟩
    have HSG : Hid (∀ w : World, Calls Tryz.prog 199 #[.string (strOf x)] w fun e w' => e = .returned (.string sx) ∧ Below w.heap.size w w') := fun w => by rw [hsx]; exact Ec (strOf x) w (by rw [size_strOf]; omega)
    obtain ⟨R, BR⟩ : ∃ R, R = (((l.take k).map seg).map strOf).map Value.string := ⟨_, rfl⟩
    rw [← BR] at HOW
    have HR2 : Hid ((((l.take (k + 1)).map seg).map strOf).map Value.string = R ++ [Value.string sx]) := by
     show _ = _
     rw [take_snoc l k (by rw [← HN.out]; exact hlt), ← hxd, List.map_append, List.map_append, List.map_append, ← BR, hsx]
     rfl
    clear hxd hxs hsx BR
    go_upto_region 7 with (fail)
    refine bC (by kernel_rfl) 5 [is (.pointer (some ⟨gu, 8, none⟩)), is (.slice A k c), is (.string (strOf x)), is (.string sx), row 1 [.string sx]] [[], [0], [], [2], [2, 3], [0, 1, 2, 3, 4]] (by kernel_rfl) ?_ ?_
    ·refine ⟨?_, ?_, ?_, ?_, ?_, trivial⟩
     all_goals (intro t wq hbq hh K hK; simp only [filled, aj, upd, Have, is, any, row, pick, Act.put, List.setIfInBounds_toArray, List.set_cons_zero, List.set_cons_succ, Nat.reduceAdd, Nat.reduceEqDiff, reduceIte, List.tail_cons, List.headD_cons] at hh hK ⊢; (try simp only [hh] at hK ⊢); try clear hh)
     ·go_simp; exact hK _ _ (Below.refl _ _) rfl
     ·have hc8 := (HU.out.below hbq).MI.1; go_simp; exact hK _ _ (Below.refl _ _) rfl
     ·go_simp; exact hK _ _ (Below.refl _ _) rfl
     ·go_simp; refine (HSG.out _).mono ?_; rintro e w9 ⟨rfl, mG⟩; exact hK _ _ mG rfl
     ·go_simp; exact hK _ _ ((Below.refl _ _).alloc (Nat.le_refl _) _) ⟨_, _, rfl, Nat.le_refl _, by decide, one_cell _ _ _⟩
    ·intro t wq hbq hh
     have f1 := aB hh 1 (by decide)
     simp only [pick] at f1
     replace f1 : t 1 = (.slice A k c) := f1
     have f4 := aB hh 4 (by decide)
     simp only [pick] at f4
     clear hh
     simp only [filled, aj, upd, Have, is, any, row, pick, Act.put, List.setIfInBounds_toArray, List.set_cons_zero, List.set_cons_succ, Nat.reduceAdd, Nat.reduceEqDiff, reduceIte]
     obtain ⟨A4, c4, f4, hc4, hm4, hr4⟩ := f4
     simp only [f1, f4]
     have MR := aP HOW.out hbq
     have HUq := hid (HU.out.below hbq)
     have HXq := hid (HX.out.below hbq)
     have HRq := hid ((hbq.block gr HR.out.lt).trans HR.out : yB wq gr l)
     have Et := hid (bel HB.out hbq)
     have Qx : w4.heap.size ≤ wq.heap.size := Nat.le_trans hsz hbq.size
     have hrefl : Below w4.heap.size wq wq := Below.refl _ _
     refine dH rfl _ _ 23 rfl w4.heap.size 9 i0 (.string ByteArray.empty) 16 Tryz.underlying23 hi hz0 hz1 hz2 rfl _ k R rfl MR hrefl Qx A4 1 c4 [.string sx] rfl hr4 (Ol _) (by unfold maxLen; omega) (by omega) ?_
     intro v7 w7 dU dA
     obtain ⟨A7, c7, rfl, hc7, hm7, hr7⟩ := aJ dU
     have hG1 := HG.out
     have hG2 := HG3.out
     have hG3 := HG4.out
     have hU7 := HUq.out.under dA (by omega)
     have hX7 := HXq.out.under dA (by omega)
     have hR7 : yB w7 gr l := (dA.block gr (by omega)).trans HRq.out
     have hB7 : Below w.heap.size w w7 := Et.out.trans (dA.mono (by omega))
     have hs7 : w4.heap.size ≤ w7.heap.size := Nat.le_trans Qx dA.size
     obtain ⟨KL, Vm⟩ := hU7.MI
     have ajI : Hid ((w7.setCell ⟨gu, 8, none⟩ (.slice A7 (k + 1) c7)).ownsRow w4.heap.size 9 1 (.slice A7 (k + 1) c7) (k + 1) ((((l.take (k + 1)).map seg).map strOf).map Value.string)) := by show World.ownsRow _ _ _ _ _ _ _; rw [HR2.out]; exact Jg dU (by omega)
     have HU8 := hid (hU7.path (.slice A7 (k + 1) c7))
     have HX8 := hid (hX7.set (k := gu) (i := 8) (.slice A7 (k + 1) c7) (by omega))
     have HR8 := hid ((heap_setCell_other w7 ⟨gu, 8, none⟩ gr (.slice A7 (k + 1) c7) (show gr ≠ gu by omega)).trans hR7 : yB _ gr l)
     have H7 := hid (hB7.setCell (p := ⟨gu, 8, none⟩) (by show _ ≤ gu; omega) (.slice A7 (k + 1) c7))
     have hs8 : w4.heap.size ≤ (w7.setCell ⟨gu, 8, none⟩ (.slice A7 (k + 1) c7)).heap.size := by simpa using hs7
     clear dU dA hr7 hU7 hX7 hR7 hB7 MR hrefl Qx hG1 hG2 hG3 hm7 hc7 hs7
     go_wp2
     go_roundw
     case rel => exact ⟨k + 1, A7, c7, by omega, by go_num, ajI, HU8, HX8, HR8, H7, hs8⟩
     case measure => simp [intOf]; omega
   ·obtain rfl : k = n := by omega
    have HE : Hid ((l.take k).map seg = l.map seg) := by show _ = _; rw [List.take_of_length_le (by rw [HN.out]; exact Nat.le_refl _)]
    obtain ⟨d0, d1, d2, d3, d4, d5, d6, d7, d8, d9, d10, d11, d12⟩ := HU.out.facts
    go_wp2_with (refine pJ HX.out (gy [] (.slice A k c)) rfl rfl (aaU _ _ _ _) (.tmp 2) (.tmp 28) rfl rfl rfl rfl ?_)
    try simp only [Exit.inBlock, Exit.then]
    have how := HOW.out
    rw [HE.out] at how
    have hG : w.heap.size < w4.heap.size := by have h1 := HG.out; have h2 := HG3.out; have h3 := HG4.out; omega
    exact bodyPost_ret (w := World.setRow wr w.heap.size (gy [] (.slice A k c))) (res rfl (HX.out.row _) rfl (.int .i64 0) _ rfl rfl) rfl (Ku HF.out (qp HB.out (Nat.le_refl _) _) (ay (DT how hG _) (by omega)))
end Go.Proofs.YtmpeaoacaecgpaaGreatDoor.O1
namespace Go.Proofs.YtmpeaoacaecgpaaGreatDoor.BldF
open Go.RowKit Base Base2 Wx agI
abbrev IsF (B b : Nat) (l : List UInt8) (w : World) : Prop := Lib.IsBuilderF 147 5 B b (Lib.byteCells l) w
theorem QB {B b : Nat} {l : List UInt8} {w : World} (h : lq B b l w) : IsF B b l w := Lib.IsBuilderF.of h
theorem MZ {w w' : World} {base n size : Nat} {e : TypeId} {v : Value} {xs : List Value} (h : w.ownsRowF base e size v n xs) (hb : Below w.heap.size w w') : w'.ownsRowF base e size v n xs := by
 refine ⟨h.1, ?_⟩
 rcases h.2 with hn | ⟨g, cap, cur, fz, rfl, hg, hh, rest⟩
 ·exact .inl hn
 ·exact .inr ⟨g, cap, cur, fz, rfl, hg, (hb.block g (Array.getElem?_eq_some_iff.1 hh).1).trans hh, rest⟩
theorem yL {B b : Nat} {l : List UInt8} {w w' : World} (h : IsF B b l w) (hb : Below w.heap.size w w') : IsF B b l w' := by
 rcases h with ⟨h1, v, h2, h3, h4⟩ | ⟨h1, v, h2, h3, h4⟩
 ·exact Or.inl ⟨h1, v, (hb.block _ (Array.getElem?_eq_some_iff.1 h2).1).trans h2, MZ h3 hb, h4⟩
 ·exact Or.inr ⟨h1, v, (hb.block _ (Array.getElem?_eq_some_iff.1 h2).1).trans h2, MZ h3 hb, h4⟩
theorem iZ (B b : Nat) (l : List UInt8) (w : World) (h : IsF B b l w) (hBw : B ≤ w.heap.size) :
  Calls Tryz.prog 155 #[.pointer (some ⟨b, 0, none⟩)] w fun e w' => e = .returned (.string (strOf l)) ∧ IsF B b l w' ∧ Below B w w' := Any.Builder_String_any_f Tryz.l169 Tryz.Builder_Extra_169 B b l w h hBw
end Go.Proofs.YtmpeaoacaecgpaaGreatDoor.BldF
namespace Go.Proofs.YtmpeaoacaecgpaaGreatDoor.Zw
open Go.RowKit Base Base2 sW yu Sls Wx agI BldF
open Go.Proofs.YtmpeaoacaecgpaaGreatDoor.pO (Max)
open Go.Proofs.YtmpeaoacaecgpaaGreatDoor.aZ (aO fM AV pK)
def DN (l : List ByteArray) : List UInt8 := l.flatMap fun s => 47 :: fU.dec s.data.toList
def xJ (l : List ByteArray) : Bool := l.all fun s => !(fU.dec s.data.toList).contains 47
def ET (l : List ByteArray) : Option (List UInt8) := if xJ l = true ∧ fine (DN l) = true then some (DN l) else none
def FIL : List UInt8 := [102, 105, 108, 101]
def wZ (au hst : List UInt8) (b6 : Bool) (l : List ByteArray) : List UInt8 × Int :=
 if au ≠ FIL ∨ b6 = true then ([], 2) else if hst ≠ [] then ([], 8) else match ET l with
 | none => ([], 2)
 | some o => (o, 0)
theorem tl (s : ByteArray) : s.toList = s.data.toList := Lib.toList_data s
theorem ah0 (l : List ByteArray) (s : ByteArray) : DN (l ++ [s]) = DN l ++ (47 :: fU.dec s.data.toList) := by simp [DN]
theorem aaV (l : List ByteArray) : (DN l).length ≤ (aO l).length := by
 induction l with
 | nil => exact Nat.le_refl _
 | cons a l ih =>
  have h := fU.ku a.data.toList
  have e1 : DN (a :: l) = (47 :: fU.dec a.data.toList) ++ DN l := rfl
  have e2 : aO (a :: l) = (47 :: a.data.toList) ++ aO l := rfl
  rw [e1, e2, List.length_append, List.length_append, List.length_cons, List.length_cons]
  omega
theorem take_snoc (l : List ByteArray) (k : Nat) (h : k < l.length) : l.take (k + 1) = l.take k ++ [l[k]] := List.take_succ_eq_append_getElem h
theorem ahD (l : List ByteArray) (k : Nat) (h : k < l.length) : xJ (l.take (k + 1)) = (xJ (l.take k) && !(fU.dec l[k].data.toList).contains 47) := by
 unfold xJ
 rw [take_snoc l k h, List.all_append]
 simp
theorem free_no {l : List ByteArray} (k : Nat) (h : k < l.length) (hc : (fU.dec l[k].data.toList).contains 47 = true) : xJ l = false := by
 cases e : xJ l with
 | false => rfl
 | true =>
  have h1 := List.all_eq_true.1 e _ (List.getElem_mem h)
  rw [hc] at h1
  cases h1
theorem DU (s0 s1 s2 s3 : ByteArray) (b4 : Bool) (z5 : Int) (b6 : Bool) (s7 : ByteArray) (A : Option Addr) (n cap : Nat) (l : List ByteArray) (b9 b10 : Bool) (s11 s12 : ByteArray) (w : World) (hR : aY w A n (l.map Value.string)) (hnc : n ≤ cap) (hcm : cap ≤ maxLen) (hl : (aO l).length ≤ 899999) (hM : Max w) :
  Calls Tryz.prog 96 #[.agg #[.string s0, .string s1, .string s2, .string s3, .bool b4, .int .i64 z5, .bool b6, .string s7, .slice A n cap, .bool b9, .bool b10, .string s11, .string s12]] w fun e w' => e = .returned (.tuple #[.string (strOf (wZ s0.data.toList s3.data.toList b6 l).1), .int .i64 (wZ s0.data.toList s3.data.toList b6 l).2]) ∧ Below w.heap.size w w' := by
 have hn : l.length = n := by rw [← hR.1, List.length_map]
 have hpl := fM l
 unfold maxLen at hcm
 obtain ⟨V, hV⟩ : ∃ V, V = wZ s0.data.toList s3.data.toList b6 l := ⟨_, rfl⟩
 rw [← hV]
 by_cases e0 : s0.data.toList = FIL
 ·have q0 : (s0.toList == [102, 105, 108, 101]) = true := by rw [tl, e0]; rfl
  cases b6 with
  | true =>
   have HV : Hid (V = ([], 2)) := by show _ = _; rw [hV]; unfold wZ; rw [if_pos (.inr rfl)]
   clear hn hpl hR hl hV e0
   go_enter Tryz.func96, Tryz.ntmps96
   go_wp2
   go_ret2
   exact ⟨by rw [HV.out]; first | done | rfl, (Below.refl _ _).alloc (Nat.le_refl _) _⟩
  | false =>
   by_cases e3 : s3.data.toList = []
   ·have q3 : s3.toList = [] := by rw [tl]; exact e3
    have HV0 : Hid (V = match ET l with
     | none => ([], 2)
     | some o => (o, 0)) := by show _ = _; rw [hV]; unfold wZ; rw [if_neg (by rintro (h | h); exact h e0; cases h), if_neg (fun h => h e3)]
    have HR := hid hR
    have HN := hid hn
    have vW := hid hpl
    have Ci := hid hl
    have HM := hid hM
    clear hR hn hpl hl hV hM e0 e3
    go_enter Tryz.func96, Tryz.ntmps96
    go_wp2
    generalize hw1 : w.alloc _ = w1
    have hb1 : Below w.heap.size w w1 := by rw [← hw1]; exact (Below.refl _ _).alloc (Nat.le_refl _) _
    have hs1 : w1.heap.size = w.heap.size + 1 := by rw [← hw1]; simp
    clear hw1
    have HB0 : Hid (lq (w.heap.size + 1) (w.heap.size + 1) [] (w1.alloc (.cells #[.pointer none, .slice none 0 0] 147))) := by
     have h := Lib.fresh_isBuilder 147 5 w1
     rw [hs1] at h
     exact h
    go_loopw [6, 7, 21] (fun _ _ vk wr => ∃ k : Nat, k ≤ n ∧ vk = .int .i64 (k : Int) ∧ Hid (lq (w.heap.size + 1) (w.heap.size + 1) (DN (l.take k)) wr) ∧ Hid (Below (w.heap.size + 1) w1 wr) ∧ Hid (xJ (l.take k) = true)) (fun _ _ vk _ => n - (intOf vk).toNat)
    case atStart => exact ⟨0, Nat.zero_le _, rfl, HB0.out, (Below.refl _ _).alloc (by rw [hs1]; exact Nat.le_refl _) _, rfl⟩
    case round =>
     clear HB0
     obtain ⟨k, hk, rfl, HB, HBL, HF⟩ := hrel
     have hsz : w.heap.size + 1 ≤ wr.heap.size := by have := HBL.out.size; rw [hs1] at this; exact this
     by_cases hlt : k < n
     ·have hkl : k < l.length := by rw [HN.out]; exact hlt
      have hRr := HR.out.below (hb1.trans (HBL.out.mono (by omega)))
      obtain ⟨g, off, rfl, hg, hcell⟩ := hRr.spot (by omega)
      have hc := hcell k (by rw [List.length_map]; exact hkl)
      rw [List.getElem_map] at hc
      obtain ⟨s, hs⟩ : ∃ s, s = l[k] := ⟨_, rfl⟩
      rw [← hs] at hc
      obtain ⟨D, hD⟩ : ∃ D, D = fU.dec s.data.toList := ⟨_, rfl⟩
      have hDl : D.length ≤ s.size := by rw [hD]; have := fU.ku s.data.toList; rwa [show s.data.toList.length = s.size from Array.length_toList] at this
      have HS : Hid (DN (l.take (k + 1)) = DN (l.take k) ++ (47 :: D)) := by show _ = _; rw [take_snoc l k hkl, ah0, ← hs, hD]
      have hsum := AV l k hkl
      have IY := pK l (k + 1)
      have hpk := aaV (l.take k)
      rw [fM, List.length_take, Nat.min_eq_left (by omega)] at hpk
      have hpl := vW.out
      have hll := Ci.out
      rw [← hs] at hsum
      have hss : s.size ≤ 899999 := by omega
      have Y6 : Hid (∀ w : World, Calls Tryz.prog 72 #[.string s] w fun e w' => ∃ v, e = .returned v ∧ w'.ownsRow w.heap.size 5 1 v D.length (ah D) ∧ Below w.heap.size w w') := fun w => by rw [hD]; exact fU.decode_any s w (by omega)
      obtain ⟨q, hq⟩ : ∃ q, q = D.contains 47 := ⟨_, rfl⟩
      have HCT : Hid (∀ w : World, Calls Tryz.prog 104 #[.string (strOf D), .string ⟨#[47]⟩] w fun e w' => e = .returned (.bool q) ∧ w = w') := fun w => by rw [hq]; exact FN 47 (strOf D) w
      have a1 : ∀ w : World, (Op.stringOp .add ⟨#[47]⟩ (strOf D)).run Tryz.prog w = .ok (.string (strOf (47 :: D))) w := fun w => dL ⟨#[47]⟩ (strOf D) w (by rw [size_strOf]; show 1 + D.length ≤ _; omega)
      have HLEN : Hid ((DN (l.take k)).length + (1 + D.length) ≤ 140737488355328) := by show _ ≤ _; omega
      have hqf : q = true → ET l = none := fun h => by
       have := free_no k hkl (by rw [← hs, ← hD, ← hq]; exact h)
       unfold ET
       rw [this, if_neg (fun h => by cases h.1)]
      have hqn : q = false → xJ (l.take (k + 1)) = true := fun h => by rw [ahD l k hkl, HF.out, ← hs, ← hD, ← hq, h]; rfl
      have HQF := hid hqf
      have HQN := hid hqn
      clear hs hD hq hsum IY hpk hpl hll hRr hcell hkl hqf hqn hDl
      go_wp2_with fail
      refine (Y6.out _).mono ?_
      rintro e w3 ⟨v3, rfl, hown, hb3⟩
      obtain ⟨A3, c3, rfl, hc3, hm3, hr3⟩ := aJ hown
      have hst := aF 45 9 5 Tryz.underlying45 Tryz.underlying5 Tryz.underlying9 _ c3 hr3
      have adM := fun k => aF 45 9 5 Tryz.underlying45 Tryz.underlying5 Tryz.underlying9 _ c3 (Eu hr3 k)
      have HB3 := hid (gZ HB.out hb3)
      have mP : Hid (Below (w.heap.size + 1) w1 w3) := HBL.out.trans (hb3.mono hsz)
      clear hown hb3 hr3 hm3 hc3
      go_wp2_with fail
      refine (HCT.out _).mono ?_
      rintro e w4 ⟨rfl, hw4⟩
      subst hw4
      clear hst adM
      cases q with
      | true =>
       have J4 : Hid (V = ([], 2)) := by show _ = _; rw [HV0.out, HQF.out rfl]
       go_wp2
       go_ret2
       exact ⟨by rw [J4.out]; first | done | rfl, hb1.trans (mP.out.mono (by omega))⟩
      | false =>
       have HFN := hid (HQN.out rfl)
       have hsz3 : w.heap.size + 1 ≤ w3.heap.size := by have := mP.out.size; rw [hs1] at this; exact this
       go_wp2_with fail
       refine (write_any _ _ _ _ _ HB3.out (by rw [size_strOf]; have := HLEN.out; simp at this ⊢; omega) hsz3).mono ?_
       rintro e w5 ⟨rfl, hB5, hb5⟩
       have iG : Hid (lq (w.heap.size + 1) (w.heap.size + 1) (DN (l.take (k + 1))) w5) := by show lq _ _ _ _; rw [HS.out]; exact hB5
       have xZ := hid (mP.out.trans hb5)
       clear hB5 hb5
       go_wp2
       go_roundw
       case rel => exact ⟨k + 1, by omega, by go_num, iG, xZ, HFN⟩
       case measure => simp [intOf]; omega
     ·obtain rfl : k = n := by omega
      have hT : l.take k = l := List.take_of_length_le (by rw [HN.out]; exact Nat.le_refl _)
      rw [hT] at HB HF
      have hol : (DN l).length ≤ 899999 := by have h1 := aaV l; have h2 := Ci.out; omega
      obtain ⟨O, hO⟩ : ∃ O, O = DN l := ⟨_, rfl⟩
      rw [← hO] at HB hol
      obtain ⟨f, hf⟩ : ∃ f, f = fine O := ⟨_, rfl⟩
      have WC : Hid (∀ w : World, Max w → Calls Tryz.prog 42 #[.string (strOf O)] w fun e w' => e = .returned (.bool f) ∧ Below w.heap.size w w') := fun w h => by rw [hf]; exact aj7.oW (strOf O) w (by rw [size_strOf]; omega) h
      have HVE : Hid (V = if f = true then (O, 0) else ([], 2)) := by
       show _ = _
       rw [HV0.out]
       unfold ET
       rw [← hO, ← hf]
       cases f with
       | true => rw [if_pos ⟨HF.out, rfl⟩, if_pos rfl]
       | false => rw [if_neg (fun h => by cases h.2), if_neg (by decide)]
      clear hT hO hf hol
      go_wp2_with fail
      refine (iZ _ _ _ _ (QB HB.out) hsz).mono ?_
      rintro e w3 ⟨rfl, hBS, hb3⟩
      have HBS := hid hBS
      clear hBS
      have mP := hid (HBL.out.trans hb3)
      have NU : Hid (Below w.heap.size w w3) := hb1.trans (mP.out.mono (by omega))
      go_wp2_with fail
      refine (WC.out _ (HM.out.below NU.out)).mono ?_
      rintro e w4 ⟨rfl, hb4⟩
      have H9 := hid (bel NU.out hb4)
      cases f with
      | false =>
       have J4 : Hid (V = ([], 2)) := by show _ = _; rw [HVE.out]; rfl
       clear hb3 hb4 HBS
       go_wp2
       go_ret2
       exact ⟨by rw [J4.out]; first | done | rfl, H9.out⟩
      | true =>
       have J4 : Hid (V = (O, 0)) := by show _ = _; rw [HVE.out]; rfl
       have HB4 : Hid (IsF (w.heap.size + 1) (w.heap.size + 1) O w4) := yL HBS.out hb4
       have Ae : w.heap.size + 1 ≤ w4.heap.size := by have h1 := mP.out.size; have h2 := hb4.size; rw [hs1] at h1; omega
       clear hb4
       go_wp2_with fail
       refine (iZ _ _ _ _ HB4.out Ae).mono ?_
       rintro e w5 ⟨rfl, _, hb5⟩
       have WB : Hid (Below w.heap.size w w5) := H9.out.trans (hb5.mono (by omega))
       clear hb5
       go_wp2
       go_ret2
       exact ⟨by rw [J4.out]; first | done | rfl, WB.out⟩
   ·have q3 : (s3.toList == []) = false := by rw [tl, beq_eq_false_iff_ne]; exact e3
    have q3' : s3.toList.isEmpty = false := by rw [tl]; simpa using e3
    have HV : Hid (V = ([], 8)) := by show _ = _; rw [hV]; unfold wZ; rw [if_neg (by rintro (h | h); exact h e0; cases h), if_pos e3]
    clear hn hpl hR hl hV e0 e3
    go_enter Tryz.func96, Tryz.ntmps96
    go_wp2
    go_ret2
    exact ⟨by rw [HV.out]; first | done | rfl, (Below.refl _ _).alloc (Nat.le_refl _) _⟩
 ·have q0 : (s0.toList == [102, 105, 108, 101]) = false := by rw [tl, beq_eq_false_iff_ne]; exact e0
  have HV : Hid (V = ([], 2)) := by show _ = _; rw [hV]; unfold wZ; rw [if_pos (.inl e0)]
  clear hn hpl hR hl hV e0
  go_enter Tryz.func96, Tryz.ntmps96
  go_wp2
  go_ret2
  exact ⟨by rw [HV.out]; first | done | rfl, (Below.refl _ _).alloc (Nat.le_refl _) _⟩
end Go.Proofs.YtmpeaoacaecgpaaGreatDoor.Zw
namespace Go.Proofs.YtmpeaoacaecgpaaGreatDoor.UrlE
open Go.RowKit Base Base2 aZ UrlA
theorem below_drewN' (w : World) (k : Nat) : Below w.heap.size w (w.drewN k) := Base.below_drewN (Below.refl _ _) k
theorem str_ext {s t : ByteArray} : s.data.toList = t.data.toList ↔ s = t := ⟨fun h => ext_str h, fun h => by rw [h]⟩
theorem ait (A A2 : Option Addr) (n n2 cap cap2 : Nat) (l m : List ByteArray) (w : World) (hR : aY w A n (l.map Value.string)) (hR2 : aY w A2 n2 (m.map Value.string)) (hc : n ≤ cap) (hm : cap ≤ maxLen) (hc2 : n2 ≤ cap2) (hm2 : cap2 ≤ maxLen) :
  Calls Tryz.prog 62 #[.slice A n cap, .slice A2 n2 cap2] w fun e w' => e = .returned (.bool (decide (l = m))) ∧ Below w.heap.size w w' := by
 unfold maxLen at hm hm2
 have hn : l.length = n := by rw [← hR.1, List.length_map]
 have hn2 : m.length = n2 := by rw [← hR2.1, List.length_map]
 have HN := hid hn
 have xE := hid hn2
 have HR := hid hR
 have HR2 := hid hR2
 clear hR hR2 hn hn2
 by_cases he : n = n2
 ·obtain rfl := he
  have q1 : ((n : Int) == (n : Int)) = true := by simp
  have q2 : ((n : Int) != (n : Int)) = false := by simp
  go_enter Tryz.func62, Tryz.ntmps62
  go_wp2
  go_loopw [5, 13] (fun _ vk wr => ∃ k : Nat, k ≤ n ∧ vk = .int .i64 (k : Int) ∧ Hid (l.take k = m.take k) ∧ Hid (Below w.heap.size w wr)) (fun _ vk _ => n - (intOf vk).toNat)
  case atStart => exact ⟨0, Nat.zero_le _, rfl, rfl, Below.refl _ _⟩
  case round =>
   obtain ⟨k, hk, rfl, HT, HBL⟩ := hrel
   by_cases hlt : k < n
   ·have hkl : k < l.length := by rw [HN.out]; exact hlt
    have hkm : k < m.length := by rw [xE.out]; exact hlt
    obtain ⟨g, off, rfl, hg, hcell⟩ := (HR.out.below HBL.out).spot (by omega)
    obtain ⟨g2, off2, rfl, hg2, hcell2⟩ := (HR2.out.below HBL.out).spot (by omega)
    have hc1 := hcell k (by rw [List.length_map]; exact hkl)
    have hc3 := hcell2 k (by rw [List.length_map]; exact hkm)
    rw [List.getElem_map] at hc1 hc3
    obtain ⟨s, hs⟩ : ∃ s, s = l[k] := ⟨_, rfl⟩
    obtain ⟨t, ht⟩ : ∃ t, t = m[k] := ⟨_, rfl⟩
    have HS : Hid (l.take (k + 1) = l.take k ++ [s]) := by rw [hs]; exact take_snoc l k hkl
    have HS2 : Hid (m.take (k + 1) = m.take k ++ [t]) := by rw [ht]; exact take_snoc m k hkm
    have HX : Hid (s ≠ t → l ≠ m) := by
     intro h1 h2
     subst h2
     exact h1 (hs.trans ht.symm)
    rw [← hs] at hc1
    rw [← ht] at hc3
    clear hs ht hcell hcell2 hkl hkm
    have hb := wK s t
    by_cases hst : s.data.toList = t.data.toList
    ·rw [decide_eq_true hst] at hb
     have HST := hid (str_ext.1 hst)
     clear hst
     go_wp2_with fail
     go_quiet (fail)
     have hbq := HBL.out.trans ((below_drewN' wr nq).mono HBL.out.size)
     generalize wr.drewN nq = wq at hbq ⊢
     go_wp2
     go_roundw
     case rel => exact ⟨k + 1, by omega, by go_num, by show _ = _; rw [HS.out, HS2.out, HT.out, HST.out], hbq⟩
     case measure => simp [intOf]; omega
    ·rw [decide_eq_false hst] at hb
     have HE : Hid (decide (l = m) = false) := decide_eq_false (HX.out (fun h => hst (by rw [h])))
     clear hst
     go_wp2_with fail
     go_quiet (fail)
     have hbq := HBL.out.trans ((below_drewN' wr nq).mono HBL.out.size)
     generalize wr.drewN nq = wq at hbq ⊢
     go_wp2
     go_ret
     exact ⟨ak HE.out.symm, hbq⟩
   ·obtain rfl : k = n := by omega
    have HE : Hid (decide (l = m) = true) := decide_eq_true (by
     have h := HT.out
     rw [List.take_of_length_le (by rw [HN.out]; exact Nat.le_refl _), List.take_of_length_le (by rw [xE.out]; exact Nat.le_refl _)] at h
     exact h)
    go_wp2
    go_ret
    exact ⟨ak HE.out.symm, HBL.out⟩
 ·have q1 : ((n : Int) == (n2 : Int)) = false := by simp; omega
  have q2 : ((n : Int) != (n2 : Int)) = true := by simp; omega
  have HE : Hid (decide (l = m) = false) := decide_eq_false (fun h => he (by rw [← HN.out, ← xE.out, h]))
  clear he
  go_enter Tryz.func62, Tryz.ntmps62
  go_wp2
  go_ret
  exact ⟨ak HE.out.symm, Below.refl _ _⟩
def spB (b6 c6 : Bool) (s7 t7 : ByteArray) (l m : List ByteArray) : Bool := if b6 || c6 then (b6 == c6) && decide (s7.data.toList = t7.data.toList) else decide (l = m)
end Go.Proofs.YtmpeaoacaecgpaaGreatDoor.UrlE
namespace Go.Proofs.YtmpeaoacaecgpaaGreatDoor.ag0
open Go.RowKit Base Base2 aZ UrlA UrlE Regs
theorem same_iff (as0 : ByteArray) (Xf : ByteArray) (Xg : ByteArray) (YQ : ByteArray) (rE : Bool) (Xk : Int) (Px : Bool) (LK : ByteArray) (aA : Option Addr) (an Py : Nat) (al : List ByteArray) (rF : Bool) (iJ : Bool) (BJ : ByteArray) (BK : ByteArray) (Xq : ByteArray) (Xr : ByteArray) (Xt : ByteArray) (YR : ByteArray) (Xl : Bool) (Xy : Int) (UO : Bool) (LU : ByteArray) (bA : Option Addr) (bn qo : Nat) (bl : List ByteArray) (Xm : Bool) (zM : Bool) (BO : ByteArray) (BP : ByteArray) : zn as0 Xf Xg YQ rE Xk Px LK al rF iJ BJ BK = zn Xq Xr Xt YR Xl Xy UO LU bl Xm zM BO BP ↔ (as0.data.toList = Xq.data.toList ∧ Xf.data.toList = Xr.data.toList ∧ Xg.data.toList = Xt.data.toList ∧ Xk = Xy ∧ txt rE YQ = txt Xl YR ∧ spB Px UO LK LU al bl = true ∧ txt rF BJ = txt Xm BO ∧ txt iJ BK = txt zM BP) := by
 unfold zn
 simp only [Prod.mk.injEq, List.cons.injEq, Option.some.injEq, and_true]
 cases Px <;> cases UO <;> simp [spB, txt] <;> constructor <;> (intro h; simp [h])
def Bx (w : World) (b : Nat) (c : Array Value) : Prop := w.heap[b]? = some (.cells c 25 (0, 0))
theorem Bx.cell {w : World} {b : Nat} {c : Array Value} (h : Bx w b c) (i : Nat) : w.cell? ⟨b, i, none⟩ = c[i]? := cell_of_row w b i _ _ _ h
theorem kV {w : World} {b : Nat} {v0 v1 v2 v3 v4 v5 v6 v7 v8 v9 v10 v11 v12 : Value} (h : Bx w b #[v0, v1, v2, v3, v4, v5, v6, v7, v8, v9, v10, v11, v12]) :
  w.cell? ⟨b, 0, none⟩ = some v0 ∧ w.cell? ⟨b, 1, none⟩ = some v1 ∧ w.cell? ⟨b, 2, none⟩ = some v2 ∧ w.cell? ⟨b, 3, none⟩ = some v3 ∧ w.cell? ⟨b, 4, none⟩ = some v4 ∧ w.cell? ⟨b, 5, none⟩ = some v5 ∧ w.cell? ⟨b, 6, none⟩ = some v6 ∧ w.cell? ⟨b, 7, none⟩ = some v7 ∧ w.cell? ⟨b, 8, none⟩ = some v8 ∧ w.cell? ⟨b, 9, none⟩ = some v9 ∧ w.cell? ⟨b, 10, none⟩ = some v10 ∧ w.cell? ⟨b, 11, none⟩ = some v11 ∧ w.cell? ⟨b, 12, none⟩ = some v12 :=
 ⟨(h.cell 0).trans rfl, (h.cell 1).trans rfl, (h.cell 2).trans rfl, (h.cell 3).trans rfl, (h.cell 4).trans rfl, (h.cell 5).trans rfl, (h.cell 6).trans rfl, (h.cell 7).trans rfl, (h.cell 8).trans rfl, (h.cell 9).trans rfl, (h.cell 10).trans rfl, (h.cell 11).trans rfl, (h.cell 12).trans rfl⟩
end Go.Proofs.YtmpeaoacaecgpaaGreatDoor.ag0
