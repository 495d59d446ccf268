/- IPv6 addresses: the document's Parse. -/
import Derived.Test.YtnmkkejodkjjiaaDoorSixC
import Derived.Test.YtnmkkejodkjjiaaDoorSixE
namespace Go.Proofs.YtnmkkejodkjjiaaDoor.SixF
open Go.RowKit Go.Proofs.YtnmkkejodkjjiaaDoor.Base Go.Proofs.YtnmkkejodkjjiaaDoor.Base2 Go.Proofs.YtnmkkejodkjjiaaDoor.Base3 Go.Proofs.YtnmkkejodkjjiaaDoor.UtfA Go.Proofs.YtnmkkejodkjjiaaDoor.QudP Go.Proofs.YtnmkkejodkjjiaaDoor.SixP Go.Proofs.YtnmkkejodkjjiaaDoor.SixQ Go.Proofs.YtnmkkejodkjjiaaDoor.SixA Go.Proofs.YtnmkkejodkjjiaaDoor.SixB Go.Proofs.YtnmkkejodkjjiaaDoor.SixC Go.Proofs.YtnmkkejodkjjiaaDoor.SixD Go.Proofs.YtnmkkejodkjjiaaDoor.SixE

theorem res_endR {w : World} {g : Nat} {L : List Nat} (h : Box w g 24 L) (hl : L.length = 8) (ok : Bool) (tmps : Array Value) (h2 : tmps.getD 2 undef = .pointer (some ⟨g, 0, none⟩)) (h3 : tmps.getD 3 undef = .bool ok) :
    (results Tryd.f13 tmps).run Tryd.prog w = .ok (.tuple #[.agg (ncells L).toArray, .bool ok]) w := by
  have hp' : tmps[2]?.getD undef = .pointer (some ⟨g, 0, none⟩) := by simpa using h2
  have hq' : tmps[3]?.getD undef = .bool ok := by simpa using h3
  simp [results, Tryd.results13, hp', hq', asAddr, load8 h hl]
/-- The gap's place, -1 where there is none. -/
def gapV : Option Nat → Int
  | none => -1
  | some g => (g : Int)
/-- Where the k-th piece goes. -/
def place (g : Option Nat) (n k : Nat) : Nat := match g with
  | none => k
  | some x => if x ≤ k then 8 - n + k else k
def outK (L : List Nat) (g : Option Nat) : Nat → List Nat
  | 0 => zer
  | k + 1 => (outK L g k).set (place g L.length k) (L.getD k 0)
theorem length_outK (L : List Nat) (g : Option Nat) (k : Nat) : (outK L g k).length = 8 := by
  induction k with
  | zero => rfl
  | succ k ih => rw [outK, List.length_set, ih]
theorem out_none {L : List Nat} (h : L.length = 8) : outK L none L.length = L := by
  match L, h with
  | [a, b, c, d, e, f, g, i], _ => rfl
theorem out_some {L : List Nat} {g : Nat} (hg : g ≤ L.length) (h7 : L.length ≤ 7) : outK L (some g) L.length = fill (L.take g) (L.drop g) := by
  match L, h7, hg with
  | [], _, hg => obtain rfl : g = 0 := by simpa using hg
                 rfl
  | [a], _, hg => rcases (show g = 0 ∨ g = 1 by simp at hg; omega) with rfl | rfl <;> rfl
  | [a, b], _, hg => rcases (show g = 0 ∨ g = 1 ∨ g = 2 by simp at hg; omega) with rfl | rfl | rfl <;> rfl
  | [a, b, c], _, hg => rcases (show g = 0 ∨ g = 1 ∨ g = 2 ∨ g = 3 by simp at hg; omega) with rfl | rfl | rfl | rfl <;> rfl
  | [a, b, c, d], _, hg => rcases (show g = 0 ∨ g = 1 ∨ g = 2 ∨ g = 3 ∨ g = 4 by simp at hg; omega) with rfl | rfl | rfl | rfl | rfl <;> rfl
  | [a, b, c, d, e], _, hg => rcases (show g = 0 ∨ g = 1 ∨ g = 2 ∨ g = 3 ∨ g = 4 ∨ g = 5 by simp at hg; omega) with rfl | rfl | rfl | rfl | rfl | rfl <;> rfl
  | [a, b, c, d, e, f], _, hg => rcases (show g = 0 ∨ g = 1 ∨ g = 2 ∨ g = 3 ∨ g = 4 ∨ g = 5 ∨ g = 6 by simp at hg; omega) with rfl | rfl | rfl | rfl | rfl | rfl | rfl <;> rfl
  | [a, b, c, d, e, f, i], _, hg => rcases (show g = 0 ∨ g = 1 ∨ g = 2 ∨ g = 3 ∨ g = 4 ∨ g = 5 ∨ g = 6 ∨ g = 7 by simp at hg; omega) with rfl | rfl | rfl | rfl | rfl | rfl | rfl | rfl <;> rfl
theorem quad_small {t : List UInt8} {a b : Nat} (h : quad t = some [a, b]) : a < 65536 ∧ b < 65536 := by
  have hall : ∀ (ps : List (List UInt8)) (l : List Nat), smalls ps = some l → ∀ x ∈ l, x ≤ 255 := by
    intro ps
    induction ps with
    | nil => intro l h; injection h with h; subst h; intro x hx; simp at hx
    | cons p r ih =>
      intro l h
      rw [smalls] at h
      split at h
      · rename_i n y h1 h2
        injection h with h
        subst h
        intro x hx
        rcases List.mem_cons.1 hx with rfl | hx
        · exact small_le h1
        · exact ih y h2 x hx
      · cases h
  unfold quad at h
  cases e : smalls (splt t) with
  | none => rw [e] at h; cases h
  | some l =>
    rw [e] at h
    replace h : two l = some [a, b] := h
    unfold two at h
    split at h
    · rename_i x1 x2 x3 x4
      injection h with h
      injection h with h1 h
      injection h with h2 _
      have y1 := hall _ _ e x1 (by simp)
      have y2 := hall _ _ e x2 (by simp)
      have y3 := hall _ _ e x3 (by simp)
      have y4 := hall _ _ e x4 (by simp)
      omega
    · cases h
theorem drop_cons_at (l : List UInt8) (a : Nat) (c : UInt8) (h : l[a]? = some c) : l.drop a = c :: l.drop (a + 1) := by
  obtain ⟨h1, h2⟩ := List.getElem?_eq_some_iff.1 h
  rw [← h2]
  exact List.drop_eq_getElem_cons h1
set_option linter.unusedSimpArgs false in
set_option maxRecDepth 100000 in
set_option maxHeartbeats 16000000 in
theorem parse_any (s : ByteArray) (w : World) (hs : s.size ≤ 1048576) : Calls Tryd.prog 13 #[.string s] w fun e w' => e = .returned (SixV (six s.data.toList)) ∧ Below w.heap.size w w' := by
  rw [← doc_six]
  obtain ⟨i0, hi, hz0, hz1, hz2⟩ := info_parts info_int
  have hl : s.data.toList.length = s.size := Array.length_toList
  have HL := hid hl
  obtain ⟨D, hD⟩ : ∃ D, D = doc s.data.toList := ⟨_, rfl⟩
  rw [← hD]
  have HD := hid hD
  clear hD hl
  go_enter Tryd.func13, Tryd.ntmps13
  go_upto_region 3 with (fail)
  generalize hw1 : (w.alloc _).alloc _ = w1
  have HB1 : Hid (Below w.heap.size w w1) := by
    show Below _ _ _
    rw [← hw1]
    exact ((Below.refl _ _).alloc (Nat.le_refl _) _).alloc (by simp) _
  have HA : Hid (Box w1 w.heap.size 24 zer) := by
    show Box _ _ _ _
    rw [← hw1]
    unfold Box
    rw [heap_alloc_old _ _ (by simp)]
    exact heap_alloc_new _ _
  have HN : Hid (Box w1 (w.heap.size + 1) 24 zer) := by
    show Box _ _ _ _
    rw [← hw1]
    unfold Box
    have := heap_alloc_new (w.alloc (.cells (ncells zer).toArray 24)) (.cells (ncells zer).toArray 24)
    rw [show (w.alloc (.cells (ncells zer).toArray 24)).heap.size = w.heap.size + 1 by simp] at this
    exact this
  have HSZ : Hid (w1.heap.size = w.heap.size + 1 + 1) := by show _ = _; rw [← hw1]; simp
  clear hw1
  go_cut [6, 7] (fun va vg wx => va = .int .i64 0 ∧ vg = .int .i64 (-1) ∧ wx = w1)
  case first =>
    go_wp2
    go_meet
    exact ⟨rfl, rfl, rfl⟩
  case rest =>
    obtain ⟨rfl, rfl, rfl⟩ := hcut
    apply_assumption
    refine wp_seq_k fun K3 hK3 => ?_
    go_cut [6, 7] from 16 to 31 (fun va vg wx => ∃ (a : Nat) (g : Option Nat), va = .int .i64 (a : Int) ∧ vg = .int .i64 (gapV g) ∧ wx = wc ∧ a ≤ s.size ∧ (g = none ∨ g = some 0) ∧ Hid (D = R (splc (s.data.toList.drop a)) [] g))
    case first =>
      by_cases h0 : s.size = 0
      · have HDR : Hid (D = R (splc (s.data.toList.drop 0)) [] none) := by
          show _ = _
          rw [HD.out, List.drop_zero, show s.data.toList = [] from List.eq_nil_of_length_eq_zero (by rw [HL.out, h0])]
          rfl
        have h0i : ¬ (0 : Int) < (s.size : Int) := by omega
        clear h0
        go_wp2
        go_meet
        exact ⟨0, none, rfl, rfl, rfl, by omega, .inl rfl, HDR.out⟩
      have h0i : (0 : Int) < (s.size : Int) := by omega
      have h0n : 0 < s.size := by omega
      obtain ⟨c, hc⟩ : ∃ c, s[0] = c := ⟨_, rfl⟩
      have HG : Hid (s.data.toList[0]? = some c) := by
        have hcl : s.data.toList[0]'(by rw [HL.out]; exact h0n) = c := hc
        show _ = _
        rw [List.getElem?_eq_getElem (by rw [HL.out]; exact h0n), hcl]
      clear h0
      by_cases h58 : c = 58
      · have h58b : ((c.toNat : Int) == 58) = true := by rw [h58]; rfl
        by_cases h2 : s.size < 2
        · have HDN : Hid (D = none) := by
            show _ = _
            rw [HD.out, ← List.drop_zero (l := s.data.toList), drop_cons_at _ 0 c HG.out, h58, List.drop_eq_nil_of_le (by rw [HL.out]; omega)]
            rfl
          have HBLZ : Hid (Below wc.heap.size wc wc) := Below.refl _ _
          have h2i : (s.size : Int) < 2 := by omega
          clear h58
          have HE : Hid (fin D = none) := by
            show _ = _
            rw [HDN.out]
            rfl
          have HE2 := hid (sixv_none HE.out)
          have HA4 := hid (HA.out.below HBLZ.out)
          have HN4 := hid (HN.out.below HBLZ.out)
          obtain ⟨c0, c1, c2, c3, c4, c5, c6, c7⟩ := cells8 HN4.out (fun _ => 0) rfl
          obtain ⟨a0, a1, a2, a3, a4, a5, a6, a7⟩ := cells8 HA4.out (fun _ => 0) rfl
          obtain ⟨f0, f1, f2, f3, f4, f5, f6, f7⟩ := frozen8 HA4.out
          go_wp2
          exact bodyPost_ret (w := put8 _ w.heap.size (fun _ => 0)) (res_endR (L := zer) (box_put HA4.out (fun _ => 0)) rfl false _ rfl rfl) rfl ⟨by rw [HE2.out], below_put8 (HB1.out.trans (HBLZ.out.mono HB1.out.size)) (Nat.le_refl _) _⟩
        · have h2i : ¬ (s.size : Int) < 2 := by omega
          have h1n : 1 < s.size := by omega
          obtain ⟨d, hd⟩ : ∃ d, s[1] = d := ⟨_, rfl⟩
          have HG1 : Hid (s.data.toList[1]? = some d) := by
            have hcl : s.data.toList[1]'(by rw [HL.out]; exact h1n) = d := hd
            show _ = _
            rw [List.getElem?_eq_getElem (by rw [HL.out]; exact h1n), hcl]
          have HDD : Hid (s.data.toList = 58 :: d :: s.data.toList.drop 2) := by
            show _ = _
            conv => lhs; rw [← List.drop_zero (l := s.data.toList), drop_cons_at _ 0 c HG.out, h58, drop_cons_at _ 1 d HG1.out]
          by_cases hd58 : d = 58
          · have hdb : ((d.toNat : Int) == 58) = true := by rw [hd58]; rfl
            have HDR : Hid (D = R (splc (s.data.toList.drop 2)) [] (some 0)) := by
              show _ = _
              rw [HD.out, HDD.out, hd58]
              rfl
            clear h58 hd58
            go_wp2
            go_meet
            exact ⟨2, some 0, rfl, rfl, rfl, by omega, .inr rfl, HDR.out⟩
          · have hdb : ((d.toNat : Int) == 58) = false := by
              rw [beq_eq_false_iff_ne]
              intro e
              exact hd58 (UInt8.toNat_inj.1 (by show _ = 58; omega))
            have HDN : Hid (D = none) := by
              show _ = _
              rw [HD.out, HDD.out]
              unfold doc
              simp only [if_true]
              rw [if_neg hd58]
            have HBLZ : Hid (Below wc.heap.size wc wc) := Below.refl _ _
            clear h58 hd58
            have HE : Hid (fin D = none) := by
              show _ = _
              rw [HDN.out]
              rfl
            have HE2 := hid (sixv_none HE.out)
            have HA4 := hid (HA.out.below HBLZ.out)
            have HN4 := hid (HN.out.below HBLZ.out)
            obtain ⟨c0, c1, c2, c3, c4, c5, c6, c7⟩ := cells8 HN4.out (fun _ => 0) rfl
            obtain ⟨a0, a1, a2, a3, a4, a5, a6, a7⟩ := cells8 HA4.out (fun _ => 0) rfl
            obtain ⟨f0, f1, f2, f3, f4, f5, f6, f7⟩ := frozen8 HA4.out
            go_wp2
            exact bodyPost_ret (w := put8 _ w.heap.size (fun _ => 0)) (res_endR (L := zer) (box_put HA4.out (fun _ => 0)) rfl false _ rfl rfl) rfl ⟨by rw [HE2.out], below_put8 (HB1.out.trans (HBLZ.out.mono HB1.out.size)) (Nat.le_refl _) _⟩
      · have h58b : ((c.toNat : Int) == 58) = false := by
          rw [beq_eq_false_iff_ne]
          intro e
          exact h58 (UInt8.toNat_inj.1 (by show _ = 58; omega))
        have HDR : Hid (D = R (splc (s.data.toList.drop 0)) [] none) := by
          show _ = _
          rw [HD.out, List.drop_zero]
          conv => lhs; rw [← List.drop_zero (l := s.data.toList), drop_cons_at _ 0 c HG.out]
          unfold doc
          simp only []
          rw [if_neg h58, ← drop_cons_at _ 0 c HG.out, List.drop_zero]
        clear h58
        go_wp2
        go_meet
        exact ⟨0, none, rfl, rfl, rfl, by omega, .inl rfl, HDR.out⟩
    case rest =>
      obtain ⟨a0, g0, rfl, rfl, rfl, ha0, hg0, HR0⟩ := hcut
      have HG0 := hid hg0
      clear hg0
      go_upto_block 0 with (fail)
      go_cut [5, 6, 7, 8, 9, 10, 11, 12] from 33 to 125 (fun vl _ vg _ _ _ _ _ wx => ∃ (L : List Nat) (g : Option Nat), vg = .int .i64 (gapV g) ∧ Hid (wx.ownsRow wc.heap.size 3 1 vl L.length (lcells L)) ∧ Hid (Below wc.heap.size wc wx) ∧ Hid (D = some (L, g)) ∧ L.length ≤ 8 ∧ Hid (∀ x ∈ L, x < 65536) ∧ Hid (∀ x, g = some x → x ≤ L.length))
      case first =>
        go_wp2
        go_loopw [5, 6, 7, 8, 9, 10, 11, 12] (fun vl va vg _ _ _ _ _ wr => ∃ (a : Nat) (L : List Nat) (g : Option Nat), va = .int .i64 (a : Int) ∧ vg = .int .i64 (gapV g) ∧ a ≤ s.size ∧ Hid (wr.ownsRow wc.heap.size 3 1 vl L.length (lcells L)) ∧ Hid (Below wc.heap.size wc wr) ∧ Hid (D = R (splc (s.data.toList.drop a)) L g) ∧ L.length ≤ 8 ∧ Hid (∀ x ∈ L, x < 65536) ∧ Hid (∀ x, g = some x → x ≤ L.length)) (fun _ va _ _ _ _ _ _ _ => s.size - (intOf va).toNat)
        case atStart => exact ⟨a0, [], g0, rfl, rfl, ha0, World.ownsRow_nil _ _ _ _, Below.refl _ _, HR0, by simp, by intro x hx; simp at hx, by intro x hx; rcases HG0.out with h | h <;> rw [h] at hx <;> cases hx; simp⟩
        case round =>
          obtain ⟨a, L, g, rfl, rfl, ha, HO, HBL, HW, hL8, HLE, HGL⟩ := hrel
          obtain ⟨m, hm⟩ : ∃ m, m = L.length := ⟨_, rfl⟩
          rw [← hm] at HO hL8
          have HM := hid hm
          clear hm
          obtain ⟨G, hG⟩ : ∃ G, G = gapV g := ⟨_, rfl⟩
          rw [← hG]
          have HGV := hid hG
          clear hG
          obtain ⟨AL, cL, rfl, hlcL, hcmL, hrL⟩ := owns_form HO.out
          clear hrL hcmL
          by_cases hlt : a < s.size
          · have hai : (a : Int) < (s.size : Int) := by omega
            have HTN : Hid (s.data.toList.drop a ≠ []) := by
              intro h
              have h2 := congrArg List.length h
              rw [List.length_drop, HL.out] at h2
              simp at h2
              omega
            by_cases hm8 : m = 8
            · have HDN : Hid (D = none) := by show _ = _; rw [HW.out]; exact R_full HTN.out (by rw [← HM.out, hm8]) g
              have hm8i : ((m : Int) == 8) = true := by simp; omega
              have hm8j : (m : Int) = 8 := by omega
              clear hm8
              have HE : Hid (fin D = none) := by
                show _ = _
                rw [HDN.out]
                rfl
              have HE2 := hid (sixv_none HE.out)
              have HA4 := hid (HA.out.below HBL.out)
              have HN4 := hid (HN.out.below HBL.out)
              obtain ⟨c0, c1, c2, c3, c4, c5, c6, c7⟩ := cells8 HN4.out (fun _ => 0) rfl
              obtain ⟨a0, a1, a2, a3, a4, a5, a6, a7⟩ := cells8 HA4.out (fun _ => 0) rfl
              obtain ⟨f0, f1, f2, f3, f4, f5, f6, f7⟩ := frozen8 HA4.out
              go_wp2
              exact bodyPost_ret (w := put8 _ w.heap.size (fun _ => 0)) (res_endR (L := zer) (box_put HA4.out (fun _ => 0)) rfl false _ rfl rfl) rfl ⟨by rw [HE2.out], below_put8 (HB1.out.trans (HBL.out.mono HB1.out.size)) (Nat.le_refl _) _⟩
            · have hm8i : ((m : Int) == 8) = false := by simp; omega
              have hm8j : ¬ (m : Int) = 8 := by omega
              have HL8 : Hid (L.length ≠ 8) := by show _ ≠ _; rw [← HM.out]; exact hm8
              have hm7 : m ≤ 7 := by omega
              obtain ⟨c, hc⟩ : ∃ c, s[a] = c := ⟨_, rfl⟩
              have HG : Hid (s.data.toList[a]? = some c) := by
                have hcl : s.data.toList[a]'(by rw [HL.out]; exact hlt) = c := hc
                show _ = _
                rw [List.getElem?_eq_getElem (by rw [HL.out]; exact hlt), hcl]
              have HDC : Hid (s.data.toList.drop a = c :: s.data.toList.drop (a + 1)) := drop_cons_at _ a c HG.out
              clear hm8 hL8
              by_cases h58 : c = 58
              · have h58b : ((c.toNat : Int) == 58) = true := by rw [h58]; rfl
                have h58c : (c.toNat : Int) = 58 := by rw [h58]; rfl
                cases g with
                | some gx =>
                  have HDN : Hid (D = none) := by show _ = _; rw [HW.out, HDC.out, h58]; exact R_colons _ HL8.out gx
                  have hG : 0 ≤ G := by rw [HGV.out]; exact Int.natCast_nonneg gx
                  clear h58
                  have HE : Hid (fin D = none) := by
                    show _ = _
                    rw [HDN.out]
                    rfl
                  have HE2 := hid (sixv_none HE.out)
                  have HA4 := hid (HA.out.below HBL.out)
                  have HN4 := hid (HN.out.below HBL.out)
                  obtain ⟨c0, c1, c2, c3, c4, c5, c6, c7⟩ := cells8 HN4.out (fun _ => 0) rfl
                  obtain ⟨a0, a1, a2, a3, a4, a5, a6, a7⟩ := cells8 HA4.out (fun _ => 0) rfl
                  obtain ⟨f0, f1, f2, f3, f4, f5, f6, f7⟩ := frozen8 HA4.out
                  go_wp2
                  exact bodyPost_ret (w := put8 _ w.heap.size (fun _ => 0)) (res_endR (L := zer) (box_put HA4.out (fun _ => 0)) rfl false _ rfl rfl) rfl ⟨by rw [HE2.out], below_put8 (HB1.out.trans (HBL.out.mono HB1.out.size)) (Nat.le_refl _) _⟩
                | none =>
                  have HW2 : Hid (D = R (splc (s.data.toList.drop (a + 1))) L (some m)) := by show _ = _; rw [HW.out, HDC.out, h58, HM.out]; exact R_colon _ HL8.out
                  have hG : ¬ 0 ≤ G := by rw [HGV.out]; show ¬ (0 : Int) ≤ -1; omega
                  have HGL2 : Hid (∀ x, some m = some x → x ≤ L.length) := by intro x hx; injection hx with hx; rw [← hx, HM.out]; exact Nat.le_refl _
                  clear h58
                  go_wp2
                  go_roundw
                  case rel => exact ⟨a + 1, L, some m, by go_num, rfl, by omega, by show World.ownsRow _ _ _ _ _ _ _; rw [← HM.out]; exact HO.out, HBL.out, HW2.out, by rw [← HM.out]; omega, HLE.out, HGL2.out⟩
                  case measure => simp [intOf]; omega
              · have h58b : ((c.toNat : Int) == 58) = false := by
                  rw [beq_eq_false_iff_ne]
                  intro e
                  exact h58 (UInt8.toNat_inj.1 (by show _ = 58; omega))
                have h58c : ¬ (c.toNat : Int) = 58 := by simpa using h58b
                have H0 : Hid ((s.data.toList.drop a)[0]? ≠ some 58) := by
                  intro h
                  rw [HDC.out] at h
                  injection h with h
                  exact h58 h
                clear h58
                go_wp2_with fail
                refine (SixD.hex_any s a _ ha (by omega)).mono ?_
                rintro e w2 ⟨⟨mm, HP0, rfl⟩, hw2⟩
                subst hw2
                have HP := hid HP0
                obtain ⟨n, hn⟩ : ∃ n, n = val 16 ((s.data.toList.drop a).take mm) := ⟨_, rfl⟩
                have hn65 : n < 65536 := by rw [hn]; exact val_lt4 HP0
                have hmm4 := HP0.four
                have hml : a + mm ≤ s.size := by have := HP0.len; rw [List.length_drop, HL.out] at this; omega
                rw [← hn]
                have HNV := hid hn
                clear HP0 hn
                have hown := HO.out
                have hbel := HBL.out
                by_cases hin : a + mm < s.size
                · have hini : (a : Int) + (mm : Int) < (s.size : Int) := by omega
                  obtain ⟨d, hd⟩ : ∃ d, s[a + mm] = d := ⟨_, rfl⟩
                  have HGD : Hid ((s.data.toList.drop a)[mm]? = some d) := by
                    have hcl : s.data.toList[a + mm]'(by rw [HL.out]; exact hin) = d := hd
                    show _ = _
                    rw [drop_get, List.getElem?_eq_getElem (by rw [HL.out]; exact hin), hcl]
                  by_cases h46 : d = 46
                  · have h46b : ((d.toNat : Int) == 46) = true := by rw [h46]; rfl
                    have h46c : (d.toNat : Int) = 46 := by rw [h46]; rfl
                    have HRQ : Hid (D = match quad (s.data.toList.drop a) with
                        | some x => if L.length ≤ 6 then some (L ++ x, g) else none
                        | none => none) := by
                      show _ = _
                      rw [HW.out]
                      exact R_quad HP.out (by rw [HGD.out, h46]) HL8.out g
                    have HQ0 : Hid (mm = 0 → quad (s.data.toList.drop a) = none) := by
                      intro h
                      refine quad_dot ?_
                      have := HGD.out
                      rw [h, h46] at this
                      exact this
                    obtain ⟨T1, hT1⟩ : ∃ T1, s.extract a s.size = T1 := ⟨_, rfl⟩
                    have HT1 : Hid (T1.data.toList = s.data.toList.drop a) := by show _ = _; rw [← hT1, cut_str]
                    have hsz1 : T1.size ≤ 1073741824 := by rw [size_of HT1.out, List.length_drop, HL.out]; omega
                    obtain ⟨q, hq⟩ : ∃ q, q = quad (s.data.toList.drop a) := ⟨_, rfl⟩
                    have HQ : Hid (q = quad T1.data.toList) := by show _ = _; rw [HT1.out]; exact hq
                    rw [← hq] at HRQ HQ0
                    clear h46 hq
                    go_wp2_with fail
                    refine (four_any T1 _ hsz1).mono ?_
                    rw [← HQ.out]
                    rintro e w5 ⟨rfl, hb5⟩
                    have hown5 := owns_below hown hb5
                    have hbel5 : Below wc.heap.size wc w5 := hbel.trans (hb5.mono hbel.size)
                    have HBL5 := hid hbel5
                    clear hb5 hown hbel
                    cases q with
                    | none =>
                      have HDN : Hid (D = none) := HRQ.out
                      have HF : Hid (FV none = .tuple #[.int .i64 0, .int .i64 0, .bool false]) := rfl
                      rw [HF.out]
                      clear hown5 hbel5
                      by_cases hmz : mm = 0
                      · have hmzb : ((mm : Int) == 0) = true := by simp; omega
                        clear hmz
                        have HE : Hid (fin D = none) := by
                          show _ = _
                          rw [HDN.out]
                          rfl
                        have HE2 := hid (sixv_none HE.out)
                        have HA4 := hid (HA.out.below HBL5.out)
                        have HN4 := hid (HN.out.below HBL5.out)
                        obtain ⟨c0, c1, c2, c3, c4, c5, c6, c7⟩ := cells8 HN4.out (fun _ => 0) rfl
                        obtain ⟨a0, a1, a2, a3, a4, a5, a6, a7⟩ := cells8 HA4.out (fun _ => 0) rfl
                        obtain ⟨f0, f1, f2, f3, f4, f5, f6, f7⟩ := frozen8 HA4.out
                        go_wp2
                        exact bodyPost_ret (w := put8 _ w.heap.size (fun _ => 0)) (res_endR (L := zer) (box_put HA4.out (fun _ => 0)) rfl false _ rfl rfl) rfl ⟨by rw [HE2.out], below_put8 (HB1.out.trans (HBL5.out.mono HB1.out.size)) (Nat.le_refl _) _⟩
                      · have hmzb : ((mm : Int) == 0) = false := by simp; omega
                        clear hmz
                        have HE : Hid (fin D = none) := by
                          show _ = _
                          rw [HDN.out]
                          rfl
                        have HE2 := hid (sixv_none HE.out)
                        have HA4 := hid (HA.out.below HBL5.out)
                        have HN4 := hid (HN.out.below HBL5.out)
                        obtain ⟨c0, c1, c2, c3, c4, c5, c6, c7⟩ := cells8 HN4.out (fun _ => 0) rfl
                        obtain ⟨a0, a1, a2, a3, a4, a5, a6, a7⟩ := cells8 HA4.out (fun _ => 0) rfl
                        obtain ⟨f0, f1, f2, f3, f4, f5, f6, f7⟩ := frozen8 HA4.out
                        go_wp2
                        exact bodyPost_ret (w := put8 _ w.heap.size (fun _ => 0)) (res_endR (L := zer) (box_put HA4.out (fun _ => 0)) rfl false _ rfl rfl) rfl ⟨by rw [HE2.out], below_put8 (HB1.out.trans (HBL5.out.mono HB1.out.size)) (Nat.le_refl _) _⟩
                    | some qx =>
                      obtain ⟨x, y, rfl⟩ := quad_ex (HQ.out.symm)
                      have HF : Hid (FV (some [x, y]) = .tuple #[.int .i64 (x : Int), .int .i64 (y : Int), .bool true]) := rfl
                      rw [HF.out]
                      have hmz : mm ≠ 0 := fun h => by have := HQ0.out h; cases this
                      have hmzb : ((mm : Int) == 0) = false := by simp; omega
                      obtain ⟨hx65, hy65⟩ := quad_small (HQ.out.symm)
                      clear hmz
                      by_cases hm6 : m ≤ 6
                      · have hm6i : ¬ (6 : Int) < (m : Int) := by omega
                        have HDS : Hid (D = some (L ++ [x, y], g)) := by show _ = _; rw [HRQ.out]; simp only []; rw [if_pos (by rw [← HM.out]; exact hm6)]
                        have HLE2 : Hid (∀ z ∈ L ++ [x, y], z < 65536) := by
                          intro z hz
                          rcases List.mem_append.1 hz with h | h
                          · exact HLE.out z h
                          · simp at h; omega
                        have HGL2 : Hid (∀ z, g = some z → z ≤ (L ++ [x, y]).length) := by
                          intro z hz
                          have := HGL.out z hz
                          rw [List.length_append]
                          omega
                        go_wp2_with (at_builtin; refine wpList_app rfl _ _ 48 rfl wc.heap.size 3 i0 (.int .i64 0) 8 Tryd.underlying48 hi hz0 hz1 hz2 rfl _ m _ rfl hown5 hbel5 hbel5.size [.int .i64 (x : Int), .int .i64 (y : Int)] 2 rfl rfl (by intro u hu; simp at hu; rcases hu with rfl | rfl <;> rfl) (by unfold maxLen; omega) (by omega) ?_)
                        intro v7 w7 hown7 hbel7
                        have HO7 : Hid (w7.ownsRow wc.heap.size 3 1 v7 (L ++ [x, y]).length (lcells (L ++ [x, y]))) := by
                          show World.ownsRow _ _ _ _ _ _ _
                          rw [List.length_append, ← HM.out, lcells_app]
                          exact hown7
                        have HB7 := hid hbel7
                        clear hown5 hbel5 hown7 hbel7
                        go_wp2
                        go_meet
                        exact ⟨L ++ [x, y], g, by rw [HGV.out], HO7.out, HB7.out, HDS.out, by rw [List.length_append, ← HM.out]; show m + 2 ≤ 8; omega, HLE2.out, HGL2.out⟩
                      · have hm6i : (6 : Int) < (m : Int) := by omega
                        have HDN : Hid (D = none) := by show _ = _; rw [HRQ.out]; simp only []; rw [if_neg (by rw [← HM.out]; exact hm6)]
                        clear hown5 hbel5
                        have HE : Hid (fin D = none) := by
                          show _ = _
                          rw [HDN.out]
                          rfl
                        have HE2 := hid (sixv_none HE.out)
                        have HA4 := hid (HA.out.below HBL5.out)
                        have HN4 := hid (HN.out.below HBL5.out)
                        obtain ⟨c0, c1, c2, c3, c4, c5, c6, c7⟩ := cells8 HN4.out (fun _ => 0) rfl
                        obtain ⟨a0, a1, a2, a3, a4, a5, a6, a7⟩ := cells8 HA4.out (fun _ => 0) rfl
                        obtain ⟨f0, f1, f2, f3, f4, f5, f6, f7⟩ := frozen8 HA4.out
                        go_wp2
                        exact bodyPost_ret (w := put8 _ w.heap.size (fun _ => 0)) (res_endR (L := zer) (box_put HA4.out (fun _ => 0)) rfl false _ rfl rfl) rfl ⟨by rw [HE2.out], below_put8 (HB1.out.trans (HBL5.out.mono HB1.out.size)) (Nat.le_refl _) _⟩
                  · have h46b : ((d.toNat : Int) == 46) = false := by
                      rw [beq_eq_false_iff_ne]
                      intro e
                      exact h46 (UInt8.toNat_inj.1 (by show _ = 46; omega))
                    have h46c : ¬ (d.toNat : Int) = 46 := by simpa using h46b
                    by_cases hd58 : d = 58
                    · have hdb : ((d.toNat : Int) == 58) = true := by rw [hd58]; rfl
                      have hdc : (d.toNat : Int) = 58 := by rw [hd58]; rfl
                      have HRP : Hid (D = if (s.data.toList.drop a).drop (mm + 1) = [] then none else R (splc ((s.data.toList.drop a).drop (mm + 1))) (L ++ [n]) g) := by
                        show _ = _
                        rw [HW.out, HNV.out]
                        exact R_piece HP.out H0.out (by rw [HGD.out, hd58]) HL8.out g
                      clear h46 hd58
                      by_cases hlast : a + mm + 1 = s.size
                      · have HDN : Hid (D = none) := by
                          show _ = _
                          rw [HRP.out, if_pos]
                          rw [List.drop_drop]
                          exact List.drop_eq_nil_of_le (by rw [HL.out]; omega)
                        have hlb : ((a : Int) + (mm : Int) + 1 == (s.size : Int)) = true := by simp; omega
                        have hlc : (a : Int) + (mm : Int) + 1 = (s.size : Int) := by omega
                        clear hown hbel hlast
                        have HE : Hid (fin D = none) := by
                          show _ = _
                          rw [HDN.out]
                          rfl
                        have HE2 := hid (sixv_none HE.out)
                        have HA4 := hid (HA.out.below HBL.out)
                        have HN4 := hid (HN.out.below HBL.out)
                        obtain ⟨c0, c1, c2, c3, c4, c5, c6, c7⟩ := cells8 HN4.out (fun _ => 0) rfl
                        obtain ⟨a0, a1, a2, a3, a4, a5, a6, a7⟩ := cells8 HA4.out (fun _ => 0) rfl
                        obtain ⟨f0, f1, f2, f3, f4, f5, f6, f7⟩ := frozen8 HA4.out
                        go_wp2
                        exact bodyPost_ret (w := put8 _ w.heap.size (fun _ => 0)) (res_endR (L := zer) (box_put HA4.out (fun _ => 0)) rfl false _ rfl rfl) rfl ⟨by rw [HE2.out], below_put8 (HB1.out.trans (HBL.out.mono HB1.out.size)) (Nat.le_refl _) _⟩
                      · have hlb : ((a : Int) + (mm : Int) + 1 == (s.size : Int)) = false := by simp; omega
                        have hlc : ¬ (a : Int) + (mm : Int) + 1 = (s.size : Int) := by omega
                        have HW2 : Hid (D = R (splc (s.data.toList.drop (a + mm + 1))) (L ++ [n]) g) := by
                          show _ = _
                          rw [HRP.out, if_neg, List.drop_drop, show a + (mm + 1) = a + mm + 1 by omega]
                          rw [List.drop_drop]
                          intro h
                          have h2 := congrArg List.length h
                          rw [List.length_drop, HL.out] at h2
                          simp at h2
                          omega
                        have HLE2 : Hid (∀ x ∈ L ++ [n], x < 65536) := by
                          intro x hx
                          rcases List.mem_append.1 hx with h | h
                          · exact HLE.out x h
                          · simp at h; omega
                        have HGL2 : Hid (∀ x, g = some x → x ≤ (L ++ [n]).length) := by
                          intro x hx
                          have := HGL.out x hx
                          rw [List.length_append]
                          omega
                        go_wp2_with (at_builtin; refine wpList_app rfl _ _ 48 rfl wc.heap.size 3 i0 (.int .i64 0) 8 Tryd.underlying48 hi hz0 hz1 hz2 rfl _ m _ rfl hown hbel hbel.size [.int .i64 (n : Int)] 1 rfl rfl (by intro u hu; simp at hu; subst hu; rfl) (by unfold maxLen; omega) (by omega) ?_)
                        intro v7 w7 hown7 hbel7
                        have HO7 : Hid (w7.ownsRow wc.heap.size 3 1 v7 (L ++ [n]).length (lcells (L ++ [n]))) := by
                          show World.ownsRow _ _ _ _ _ _ _
                          rw [List.length_append, ← HM.out, lcells_app]
                          exact hown7
                        have HB7 := hid hbel7
                        clear hown hbel hown7 hbel7
                        go_wp2
                        go_roundw
                        case rel => exact ⟨a + mm + 1, L ++ [n], g, by go_num, by rw [HGV.out], by omega, HO7.out, HB7.out, HW2.out, by rw [List.length_append, ← HM.out]; show m + 1 ≤ 8; omega, HLE2.out, HGL2.out⟩
                        case measure => simp [intOf]; omega
                    · have hdb : ((d.toNat : Int) == 58) = false := by
                        rw [beq_eq_false_iff_ne]
                        intro e
                        exact hd58 (UInt8.toNat_inj.1 (by show _ = 58; omega))
                      have hdc : ¬ (d.toNat : Int) = 58 := by simpa using hdb
                      have HDN : Hid (D = none) := by show _ = _; rw [HW.out]; exact R_odd HP.out HGD.out hd58 h46 HL8.out g
                      clear h46 hd58 hown hbel
                      have HE : Hid (fin D = none) := by
                        show _ = _
                        rw [HDN.out]
                        rfl
                      have HE2 := hid (sixv_none HE.out)
                      have HA4 := hid (HA.out.below HBL.out)
                      have HN4 := hid (HN.out.below HBL.out)
                      obtain ⟨c0, c1, c2, c3, c4, c5, c6, c7⟩ := cells8 HN4.out (fun _ => 0) rfl
                      obtain ⟨a0, a1, a2, a3, a4, a5, a6, a7⟩ := cells8 HA4.out (fun _ => 0) rfl
                      obtain ⟨f0, f1, f2, f3, f4, f5, f6, f7⟩ := frozen8 HA4.out
                      go_wp2
                      exact bodyPost_ret (w := put8 _ w.heap.size (fun _ => 0)) (res_endR (L := zer) (box_put HA4.out (fun _ => 0)) rfl false _ rfl rfl) rfl ⟨by rw [HE2.out], below_put8 (HB1.out.trans (HBL.out.mono HB1.out.size)) (Nat.le_refl _) _⟩
                · have hini : ¬ (a : Int) + (mm : Int) < (s.size : Int) := by omega
                  have HDS : Hid (D = R (splc (s.data.toList.drop s.size)) (L ++ [n]) g) := by
                    show _ = _
                    rw [HW.out, R_last HP.out HTN.out (by rw [drop_get]; exact List.getElem?_eq_none (by rw [HL.out]; omega)) HL8.out g, ← HNV.out, List.drop_eq_nil_of_le (by rw [HL.out]; exact Nat.le_refl _), R_end]
                  have hame : a + mm = s.size := by omega
                  have HAME : Hid ((a : Int) + (mm : Int) = (s.size : Int)) := by show _ = _; omega
                  clear hame
                  have HLE2 : Hid (∀ x ∈ L ++ [n], x < 65536) := by
                    intro x hx
                    rcases List.mem_append.1 hx with h | h
                    · exact HLE.out x h
                    · simp at h; omega
                  have HGL2 : Hid (∀ x, g = some x → x ≤ (L ++ [n]).length) := by
                    intro x hx
                    have := HGL.out x hx
                    rw [List.length_append]
                    omega
                  go_wp2_with (at_builtin; refine wpList_app rfl _ _ 48 rfl wc.heap.size 3 i0 (.int .i64 0) 8 Tryd.underlying48 hi hz0 hz1 hz2 rfl _ m _ rfl hown hbel hbel.size [.int .i64 (n : Int)] 1 rfl rfl (by intro u hu; simp at hu; subst hu; rfl) (by unfold maxLen; omega) (by omega) ?_)
                  intro v7 w7 hown7 hbel7
                  have HO7 : Hid (w7.ownsRow wc.heap.size 3 1 v7 (L ++ [n]).length (lcells (L ++ [n]))) := by
                    show World.ownsRow _ _ _ _ _ _ _
                    rw [List.length_append, ← HM.out, lcells_app]
                    exact hown7
                  have HB7 := hid hbel7
                  clear hown hbel hown7 hbel7
                  go_wp2
                  go_roundw
                  case rel => exact ⟨s.size, L ++ [n], g, by first | exact int_eq HAME.out | go_num, by rw [HGV.out], Nat.le_refl _, HO7.out, HB7.out, HDS.out, by rw [List.length_append, ← HM.out]; show m + 1 ≤ 8; omega, HLE2.out, HGL2.out⟩
                  case measure => (have := HAME.out; simp [intOf]; omega)
          · obtain rfl : a = s.size := by omega
            have HDS : Hid (D = some (L, g)) := by
              show _ = _
              rw [HW.out, List.drop_eq_nil_of_le (by rw [HL.out]; exact Nat.le_refl _), R_end]
            go_wp2
            go_meet
            exact ⟨L, g, by rw [HGV.out], by show World.ownsRow _ _ _ _ _ _ _; rw [← HM.out]; exact HO.out, HBL.out, HDS.out, by rw [← HM.out]; exact hL8, HLE.out, HGL.out⟩
      case rest =>
        obtain ⟨L, g, rfl, HO, HBL, HD2, hL8, HLE, HGL⟩ := hcut
        obtain ⟨n, hn⟩ : ∃ n, n = L.length := ⟨_, rfl⟩
        rw [← hn] at HO hL8
        have HM := hid hn
        clear hn
        obtain ⟨AL, cL, rfl, hlcL, hcmL, hrL⟩ := owns_form HO.out
        have HR := hid hrL
        clear hrL hcmL HO
        cases g with
        | none =>
          have hgv : gapV none = -1 := rfl
          by_cases h8 : n = 8
          · subst h8
            go_upto_region 33 with (fail)
            generalize hw3 : wc.alloc _ = w3
            have HX3 : Hid (Box w3 wc.heap.size 24 (outK L none 0)) := by
              show Box _ _ _ _
              rw [← hw3]
              exact heap_alloc_new _ _
            have HB3 : Hid (Below wc.heap.size wc w3) := by
              show Below _ _ _
              rw [← hw3]
              exact (Below.refl _ _).alloc (Nat.le_refl _) _
            have HS3 : Hid (wc.heap.size ≤ w3.heap.size) := HB3.out.size
            clear hw3
            go_wp2
            go_loopw [14, 15, 145] (fun _ _ vk wr => ∃ k : Nat, k ≤ 8 ∧ vk = .int .i64 (k : Int) ∧ Hid (Box wr wc.heap.size 24 (outK L none k)) ∧ Hid (Below wc.heap.size w3 wr)) (fun _ _ vk _ => 8 - (intOf vk).toNat)
            case atStart => exact ⟨0, by omega, rfl, HX3.out, Below.refl _ _⟩
            case round =>
              obtain ⟨k, hk, rfl, HX, HB⟩ := hrel
              have HBC : Hid (Below wc.heap.size wc wr) := HB3.out.trans HB.out
              by_cases hlt : k < 8
              · obtain ⟨b, off, rfl, _, _⟩ := HR.out.spot (by omega)
                obtain ⟨x, hx⟩ : ∃ x, L[k]'(by rw [← HM.out]; exact hlt) = x := ⟨_, rfl⟩
                have hcl : wr.cell? ⟨b, off + k, none⟩ = some (.int .i64 (x : Int)) := by
                  obtain ⟨b', o', e1, _, hc'⟩ := (HR.out.below HBC.out).2 k (by rw [length_lcells, ← HM.out]; exact hlt)
                  cases e1
                  rw [hc', lcells_get L k (by rw [← HM.out]; exact hlt), hx]
                have hx65 : x < 65536 := by rw [← hx]; exact HLE.out _ (List.getElem_mem _)
                have HXD : Hid (L.getD k 0 = x) := by
                  show _ = _
                  rw [List.getD_eq_getElem?_getD, List.getElem?_eq_getElem (by rw [← HM.out]; exact hlt), hx]
                  rfl
                have hwx : IntKind.u16.wrap (x : Int) = (x : Int) := by simp [IntKind.wrap, IntKind.signed, IntKind.bits]; omega
                clear hx65
                clear hx
                have HPL : Hid (place none L.length k = k) := rfl
                have hc0 := HX.out.cell k (by rw [length_outK]; omega)
                have hf0 := HX.out.frozen k
                have HX2 : Hid (Box (wr.setCell ⟨wc.heap.size, k, none⟩ (.int .u16 (x : Int))) wc.heap.size 24 (outK L none (k + 1))) := by
                  show Box _ _ _ _
                  rw [outK, HPL.out, HXD.out]
                  exact HX.out.set k x
                have HB2 : Hid (Below wc.heap.size w3 (wr.setCell ⟨wc.heap.size, k, none⟩ (.int .u16 (x : Int)))) := HB.out.setCell (Nat.le_refl _) _
                go_wp2
                go_roundw
                case rel => exact ⟨k + 1, by omega, by go_num, HX2.out, HB2.out⟩
                case measure => simp [intOf]; omega
              · obtain rfl : k = 8 := by omega
                obtain ⟨V, hV⟩ : ∃ V, V = outK L none 8 := ⟨_, rfl⟩
                have HVL : Hid (V.length = 8) := by show _ = _; rw [hV, length_outK]
                have HE : Hid (fin D = some V) := by have h9 := out_none (L := L) HM.out.symm; rw [← HM.out] at h9; show _ = _; rw [HD2.out, fin_none, if_pos HM.out.symm, hV, h9]
                rw [← hV] at HX
                clear hV
                have HE2 := hid (sixv_some HE.out)
                have HBW : Hid (Below w.heap.size w wr) := (HB1.out.trans (HBL.out.mono HB1.out.size)).trans (HBC.out.mono (by have h1 := HB1.out.size; have h2 := HBL.out.size; omega))
                have HA4 := hid ((HA.out.below HBL.out).below HBC.out)
                obtain ⟨c0, c1, c2, c3, c4, c5, c6, c7⟩ := cells8 HX.out (fun i => V.getD i 0) (list8 HVL.out)
                obtain ⟨a0, a1, a2, a3, a4, a5, a6, a7⟩ := cells8 HA4.out (fun _ => 0) rfl
                obtain ⟨f0, f1, f2, f3, f4, f5, f6, f7⟩ := frozen8 HA4.out
                go_wp2
                exact bodyPost_ret (w := put8 _ w.heap.size (fun i => V.getD i 0)) (res_endR (box_put HA4.out (fun i => V.getD i 0)) rfl true _ rfl rfl) rfl ⟨(congrArg (fun z => Ending.returned (.tuple #[.agg (ncells z).toArray, .bool true])) (list8 HVL.out).symm).trans (by rw [HE2.out]), below_put8 HBW.out (Nat.le_refl _) _⟩
          · have h8b : ((n : Int) == 8) = false := by simp; omega
            have h8c : ¬ (n : Int) = 8 := by omega
            have HN8 := hid h8
            clear h8
            have HE : Hid (fin D = none) := by
              show _ = _
              rw [HD2.out, fin_none, if_neg (by rw [← HM.out]; exact HN8.out)]
            have HE2 := hid (sixv_none HE.out)
            have HA4 := hid (HA.out.below HBL.out)
            have HN4 := hid (HN.out.below HBL.out)
            obtain ⟨c0, c1, c2, c3, c4, c5, c6, c7⟩ := cells8 HN4.out (fun _ => 0) rfl
            obtain ⟨a0, a1, a2, a3, a4, a5, a6, a7⟩ := cells8 HA4.out (fun _ => 0) rfl
            obtain ⟨f0, f1, f2, f3, f4, f5, f6, f7⟩ := frozen8 HA4.out
            go_wp2
            exact bodyPost_ret (w := put8 _ w.heap.size (fun _ => 0)) (res_endR (L := zer) (box_put HA4.out (fun _ => 0)) rfl false _ rfl rfl) rfl ⟨by rw [HE2.out], below_put8 (HB1.out.trans (HBL.out.mono HB1.out.size)) (Nat.le_refl _) _⟩
        | some gx =>
          have hgv : gapV (some gx) = (gx : Int) := rfl
          have hg0 : ¬ (gx : Int) < 0 := by omega
          have hgx : gx ≤ n := by rw [HM.out]; exact HGL.out gx rfl
          by_cases h7 : n ≤ 7
          · have h7i : ¬ (7 : Int) < (n : Int) := by omega
            go_upto_region 33 with (fail)
            generalize hw3 : wc.alloc _ = w3
            have HX3 : Hid (Box w3 wc.heap.size 24 (outK L (some gx) 0)) := by
              show Box _ _ _ _
              rw [← hw3]
              exact heap_alloc_new _ _
            have HB3 : Hid (Below wc.heap.size wc w3) := by
              show Below _ _ _
              rw [← hw3]
              exact (Below.refl _ _).alloc (Nat.le_refl _) _
            have HS3 : Hid (wc.heap.size ≤ w3.heap.size) := HB3.out.size
            clear hw3
            go_wp2
            go_loopw [14, 15, 145] (fun _ _ vk wr => ∃ k : Nat, k ≤ n ∧ vk = .int .i64 (k : Int) ∧ Hid (Box wr wc.heap.size 24 (outK L (some gx) k)) ∧ Hid (Below wc.heap.size w3 wr)) (fun _ _ vk _ => n - (intOf vk).toNat)
            case atStart => exact ⟨0, by omega, rfl, HX3.out, Below.refl _ _⟩
            case round =>
              obtain ⟨k, hk, rfl, HX, HB⟩ := hrel
              have HBC : Hid (Below wc.heap.size wc wr) := HB3.out.trans HB.out
              by_cases hlt : k < n
              · obtain ⟨b, off, rfl, _, _⟩ := HR.out.spot (by omega)
                obtain ⟨x, hx⟩ : ∃ x, L[k]'(by rw [← HM.out]; exact hlt) = x := ⟨_, rfl⟩
                have hcl : wr.cell? ⟨b, off + k, none⟩ = some (.int .i64 (x : Int)) := by
                  obtain ⟨b', o', e1, _, hc'⟩ := (HR.out.below HBC.out).2 k (by rw [length_lcells, ← HM.out]; exact hlt)
                  cases e1
                  rw [hc', lcells_get L k (by rw [← HM.out]; exact hlt), hx]
                have hx65 : x < 65536 := by rw [← hx]; exact HLE.out _ (List.getElem_mem _)
                have HXD : Hid (L.getD k 0 = x) := by
                  show _ = _
                  rw [List.getD_eq_getElem?_getD, List.getElem?_eq_getElem (by rw [← HM.out]; exact hlt), hx]
                  rfl
                have hxi : (x : Int) < 65536 := by omega
                have hk8 : k < 8 := by omega
                clear hx
                by_cases hgk : gx ≤ k
                · have hgi : (gx : Int) ≤ (k : Int) := by omega
                  obtain ⟨p, hp⟩ : ∃ p, p = 8 - n + k := ⟨_, rfl⟩
                  have hp8 : p < 8 := by omega
                  have hpi : (8 : Int) - (n : Int) + (k : Int) = (p : Int) := by omega
                  have hn8 : (n : Int) ≤ 8 := by omega
                  have hpi8 : (p : Int) < 8 := by omega
                  have HP0 := hid hp
                  have HGK := hid hgk
                  clear hp hgk
                  have HPL : Hid (place (some gx) L.length k = p) := by show _ = _; unfold place; simp only []; rw [if_pos HGK.out, ← HM.out]; exact HP0.out.symm
                  have hc0 := HX.out.cell p (by rw [length_outK]; omega)
                  have hf0 := HX.out.frozen p
                  have HX2 : Hid (Box (wr.setCell ⟨wc.heap.size, p, none⟩ (.int .u16 (x : Int))) wc.heap.size 24 (outK L (some gx) (k + 1))) := by
                    show Box _ _ _ _
                    rw [outK, HPL.out, HXD.out]
                    exact HX.out.set p x
                  have HB2 : Hid (Below wc.heap.size w3 (wr.setCell ⟨wc.heap.size, p, none⟩ (.int .u16 (x : Int)))) := HB.out.setCell (Nat.le_refl _) _
                  go_wp2
                  go_roundw
                  case rel => exact ⟨k + 1, by omega, by go_num, HX2.out, HB2.out⟩
                  case measure => simp [intOf]; omega
                · have hgi : ¬ (gx : Int) ≤ (k : Int) := by omega
                  have HGK := hid hgk
                  clear hgk
                  have HPL : Hid (place (some gx) L.length k = k) := by show _ = _; unfold place; simp only []; rw [if_neg HGK.out]
                  have hc0 := HX.out.cell k (by rw [length_outK]; omega)
                  have hf0 := HX.out.frozen k
                  have HX2 : Hid (Box (wr.setCell ⟨wc.heap.size, k, none⟩ (.int .u16 (x : Int))) wc.heap.size 24 (outK L (some gx) (k + 1))) := by
                    show Box _ _ _ _
                    rw [outK, HPL.out, HXD.out]
                    exact HX.out.set k x
                  have HB2 : Hid (Below wc.heap.size w3 (wr.setCell ⟨wc.heap.size, k, none⟩ (.int .u16 (x : Int)))) := HB.out.setCell (Nat.le_refl _) _
                  go_wp2
                  go_roundw
                  case rel => exact ⟨k + 1, by omega, by go_num, HX2.out, HB2.out⟩
                  case measure => simp [intOf]; omega
              · obtain rfl : k = n := by omega
                obtain ⟨V, hV⟩ : ∃ V, V = outK L (some gx) k := ⟨_, rfl⟩
                have HVL : Hid (V.length = 8) := by show _ = _; rw [hV, length_outK]
                have HE : Hid (fin D = some V) := by show _ = _; rw [HD2.out, fin_some, if_pos (by rw [← HM.out]; exact h7), hV, HM.out, out_some (HGL.out gx rfl) (by rw [← HM.out]; exact h7)]
                rw [← hV] at HX
                clear hV
                have HE2 := hid (sixv_some HE.out)
                have HBW : Hid (Below w.heap.size w wr) := (HB1.out.trans (HBL.out.mono HB1.out.size)).trans (HBC.out.mono (by have h1 := HB1.out.size; have h2 := HBL.out.size; omega))
                have HA4 := hid ((HA.out.below HBL.out).below HBC.out)
                obtain ⟨c0, c1, c2, c3, c4, c5, c6, c7⟩ := cells8 HX.out (fun i => V.getD i 0) (list8 HVL.out)
                obtain ⟨a0, a1, a2, a3, a4, a5, a6, a7⟩ := cells8 HA4.out (fun _ => 0) rfl
                obtain ⟨f0, f1, f2, f3, f4, f5, f6, f7⟩ := frozen8 HA4.out
                go_wp2
                exact bodyPost_ret (w := put8 _ w.heap.size (fun i => V.getD i 0)) (res_endR (box_put HA4.out (fun i => V.getD i 0)) rfl true _ rfl rfl) rfl ⟨(congrArg (fun z => Ending.returned (.tuple #[.agg (ncells z).toArray, .bool true])) (list8 HVL.out).symm).trans (by rw [HE2.out]), below_put8 HBW.out (Nat.le_refl _) _⟩
          · have h7i : (7 : Int) < (n : Int) := by omega
            have HN7 := hid h7
            clear h7
            have HE : Hid (fin D = none) := by
              show _ = _
              rw [HD2.out, fin_some, if_neg (by rw [← HM.out]; exact HN7.out)]
            have HE2 := hid (sixv_none HE.out)
            have HA4 := hid (HA.out.below HBL.out)
            have HN4 := hid (HN.out.below HBL.out)
            obtain ⟨c0, c1, c2, c3, c4, c5, c6, c7⟩ := cells8 HN4.out (fun _ => 0) rfl
            obtain ⟨a0, a1, a2, a3, a4, a5, a6, a7⟩ := cells8 HA4.out (fun _ => 0) rfl
            obtain ⟨f0, f1, f2, f3, f4, f5, f6, f7⟩ := frozen8 HA4.out
            go_wp2
            exact bodyPost_ret (w := put8 _ w.heap.size (fun _ => 0)) (res_endR (L := zer) (box_put HA4.out (fun _ => 0)) rfl false _ rfl rfl) rfl ⟨by rw [HE2.out], below_put8 (HB1.out.trans (HBL.out.mono HB1.out.size)) (Nat.le_refl _) _⟩
end Go.Proofs.YtnmkkejodkjjiaaDoor.SixF
