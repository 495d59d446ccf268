/- Hosts: an address in brackets, a special scheme's host, a host, by the code. -/
import Derived.Test.YtnmkkejodkjjiaaDoorHstA
import Derived.Test.YtnmkkejodkjjiaaDoorSixM
import Derived.Test.YtnmkkejodkjjiaaDoorQudG
namespace Go.Proofs.YtnmkkejodkjjiaaDoor.HstB
open Go.RowKit Go.Proofs.YtnmkkejodkjjiaaDoor.Base Go.Proofs.YtnmkkejodkjjiaaDoor.Base2 Go.Proofs.YtnmkkejodkjjiaaDoor.UtfL Go.Proofs.YtnmkkejodkjjiaaDoor.QudP Go.Proofs.YtnmkkejodkjjiaaDoor.SixP Go.Proofs.YtnmkkejodkjjiaaDoor.SixB Go.Proofs.YtnmkkejodkjjiaaDoor.SixC Go.Proofs.YtnmkkejodkjjiaaDoor.SixG Go.Proofs.YtnmkkejodkjjiaaDoor.SixH Go.Proofs.YtnmkkejodkjjiaaDoor.SixI Go.Proofs.YtnmkkejodkjjiaaDoor.SixL Go.Proofs.YtnmkkejodkjjiaaDoor.SixM Go.Proofs.YtnmkkejodkjjiaaDoor.HstP Go.Proofs.YtnmkkejodkjjiaaDoor.HstA Go.Proofs.YtnmkkejodkjjiaaDoor.Spl

theorem prtL_V8 (f : Nat → Nat) : prtL (V8 f) = SixI.prt f := by
  unfold prtL SixI.prt zs
  rfl
theorem qmax {w : World} (h : Max w) : QudC.Max w := h
theorem adr_lt (M : Nat) : ∀ (ps : List (List UInt8)) (most acc n : Nat), ps ≠ [] → adr most acc ps = some n → acc + most ≤ M → n < M
  | [], _, _, _, h, _, _ => absurd rfl h
  | [p], most, acc, n, _, h, hM => by
    unfold adr at h
    split at h
    · split at h
      · injection h with h; omega
      · cases h
    · cases h
  | p :: q :: r, most, acc, n, _, h, hM => by
    unfold adr at h
    split at h
    · rename_i v _
      split at h
      · refine adr_lt M (q :: r) (most / 256) (acc + v * (most / 256)) n (by simp) h ?_
        have h1 : v * (most / 256) ≤ 255 * (most / 256) := Nat.mul_le_mul_right _ (by omega)
        have h2 : 256 * (most / 256) ≤ most := Nat.mul_div_le most 256
        omega
      · cases h
    · cases h
theorem prs_lt {L : List UInt8} {n : Nat} (h : prs L = some n) : n < 4294967296 := by
  unfold prs at h
  split at h
  · exact adr_lt 4294967296 _ _ _ _ (splt_ne _) h (by omega)
  · cases h
theorem trimSuffix_len (L : List UInt8) : (Lib.trimSuffix L [93]).length ≤ L.length := by
  unfold Lib.trimSuffix
  split
  · rw [List.length_take]; omega
  · exact Nat.le_refl _
theorem prt_len (f : Nat → Nat) : (SixI.prt f).length ≤ 100 := by
  unfold SixI.prt
  have h1 := jx_len (V8 f)
  have h2 := jx_len ((V8 f).take (lng (zs f)).1)
  have h3 := jx_len ((V8 f).drop (lng (zs f)).2)
  have h8 : (V8 f).length = 8 := rfl
  rw [List.length_take] at h2
  rw [List.length_drop] at h3
  split
  · omega
  · simp only [List.length_append, List.length_cons, List.length_nil]
    omega
/-- Each piece that is read is below 65536. -/
theorem pcs_lt (e : Bool) : ∀ {ps : List (List UInt8)} {l : List Nat}, pcs e ps = some l → ∀ x ∈ l, x < 65536
  | [], l, h => by injection h with h; subst h; intro x hx; simp at hx
  | p :: r, l, h => by
    rw [pcs] at h
    split at h
    · obtain ⟨a, b, rfl⟩ := quad_ex h
      have := SixF.quad_small h
      intro x hx
      simp at hx
      rcases hx with rfl | rfl
      · exact this.1
      · exact this.2
    · split at h
      · cases h
      · rename_i n hn
        split at h
        · cases h
        · rename_i x e2
          injection h with h
          subst h
          intro y hy
          rcases List.mem_cons.1 hy with rfl | hy
          · exact piece_le hn
          · exact pcs_lt e e2 y hy
theorem six_lt {s : List UInt8} {V : List Nat} (h : six s = some V) : ∀ x ∈ V, x < 65536 := by
  have hside : ∀ (e : Bool) (ps : List (List UInt8)) (l : List Nat), sideP e ps = some l → ∀ x ∈ l, x < 65536 := by
    intro e ps l h
    unfold sideP at h
    split at h
    · injection h with h; subst h; intro x hx; simp at hx
    · exact pcs_lt e h
  unfold six at h
  split at h
  · unfold SixP.eight at h
    split at h
    · rename_i a ha
      split at h
      · injection h with h
        subst h
        rw [List.nil_append]
        exact pcs_lt true ha
      · cases h
    · cases h
  · unfold both at h
    split at h
    · rename_i a b ha hb
      split at h
      · injection h with h
        subst h
        intro x hx
        unfold fill at hx
        simp only [List.nil_append, List.mem_append, List.mem_replicate] at hx
        rcases hx with (hx | hx) | hx
        · exact hside _ _ _ ha x hx
        · omega
        · exact hside _ _ _ hb x hx
      · cases h
    · cases h
theorem six_fun {s : List UInt8} {V : List Nat} (h : six s = some V) : ∃ f : Nat → Nat, V = V8 f ∧ ∀ i, f i < 65536 := by
  refine ⟨fun i => V.getD i 0, list8 (six_len h), fun i => ?_⟩
  rcases Nat.lt_or_ge i V.length with hi | hi
  · show V.getD i 0 < _
    rw [List.getD_eq_getElem?_getD, List.getElem?_eq_getElem hi]
    exact six_lt h _ (List.getElem_mem hi)
  · show V.getD i 0 < _
    rw [List.getD_eq_getElem?_getD, List.getElem?_eq_none hi]
    simp
set_option linter.unusedSimpArgs false in
set_option maxRecDepth 100000 in
set_option maxHeartbeats 4000000 in
theorem address_any (s : ByteArray) (w : World) (hs : s.size ≤ 1048576) (hL : Lad w) (hM : Max w) : Calls Tryd.prog 31 #[.string s] w fun e w' => e = .returned (HV (hbr s.data.toList)) ∧ Below w.heap.size w w' := by
  have HL := hid hL
  have HM := hid hM
  obtain ⟨I, hI⟩ : ∃ I : ByteArray, I = strOf (Lib.trimSuffix s.data.toList [93]) := ⟨_, rfl⟩
  have hIs : I.size ≤ 1048576 := by
    rw [hI, size_strOf]
    have := trimSuffix_len s.data.toList
    have : s.data.toList.length = s.size := Array.length_toList
    omega
  have hcs := fun w => Tryd.strings_CutSuffix s ⟨#[93]⟩ w (by omega)
  rw [show (⟨#[93]⟩ : ByteArray).data.toList = [93] from rfl, show (⟨(Lib.trimSuffix s.data.toList [93]).toArray⟩ : ByteArray) = I from hI.symm] at hcs
  have hId : I.data.toList = Lib.trimSuffix s.data.toList [93] := by rw [hI]; rfl
  have hb : hbr s.data.toList = if Lib.hasSuffix s.data.toList [93] = true then addr I.data.toList else none := by rw [hId]; rfl
  obtain ⟨H, hH⟩ : ∃ H, H = HV (hbr s.data.toList) := ⟨_, rfl⟩
  rw [← hH]
  rw [hb] at hH
  clear hI hId hb hL hM
  cases hsf : Lib.hasSuffix s.data.toList [93] with
  | false =>
    rw [hsf] at hcs hH
    have HE : Hid (H = .tuple #[.string (strOf []), .bool false]) := by show _ = _; rw [hH]; rfl
    have HC := hid hcs
    clear hcs hH hsf
    go_enter Tryd.func31, Tryd.ntmps31
    go_wp2_with fail
    refine (HC.out _).mono ?_
    rintro e w1 ⟨rfl, hww⟩
    obtain rfl : w = w1 := hww.symm
    go_wp2
    go_ret2
    exact ⟨by rw [HE.out]; rfl, Below.refl _ _⟩
  | true =>
    rw [hsf] at hcs hH
    rw [if_pos rfl] at hH
    have HC := hid hcs
    clear hcs hsf
    have hpa := fun w hM => parse_any I w hIs hM
    cases hv : six I.data.toList with
    | none =>
      have HE : Hid (H = .tuple #[.string (strOf []), .bool false]) := by show _ = _; rw [hH]; unfold addr; rw [hv]; rfl
      rw [hv] at hpa
      obtain ⟨f, hf⟩ : ∃ f : Nat → Nat, V8 f = zer := ⟨fun _ => 0, rfl⟩
      have HV2 : Hid (SixV none = .tuple #[.agg #[.int .u16 (f 0 : Int), .int .u16 (f 1 : Int), .int .u16 (f 2 : Int), .int .u16 (f 3 : Int), .int .u16 (f 4 : Int), .int .u16 (f 5 : Int), .int .u16 (f 6 : Int), .int .u16 (f 7 : Int)], .bool false]) := by
        show SixV none = .tuple #[.agg (ncells (V8 f)).toArray, .bool false]
        rw [hf]
        rfl
      rw [HV2.out] at hpa
      have HP := hid hpa
      clear hpa hv hH hIs hf
      go_enter Tryd.func31, Tryd.ntmps31
      go_wp2_with fail
      refine (HC.out _).mono ?_
      rintro e w1 ⟨rfl, hww⟩
      obtain rfl : w = w1 := hww.symm
      go_wp2_with fail
      refine (HP.out _ HM.out).mono ?_
      rintro e w2 ⟨rfl, hb2⟩
      have HB2 := hid hb2
      clear hb2
      go_wp2
      go_ret2
      exact ⟨by rw [HE.out]; rfl, HB2.out.alloc HB2.out.size _⟩
    | some V =>
      obtain ⟨f, rfl, h6⟩ := six_fun hv
      have hE : H = .tuple #[.string (strOf (91 :: (SixI.prt f ++ [93]))), .bool true] := by rw [hH]; unfold addr; rw [hv, ← prtL_V8]; rfl
      rw [hv] at hpa
      have HV2 : Hid (SixV (some (V8 f)) = .tuple #[.agg #[.int .u16 (f 0 : Int), .int .u16 (f 1 : Int), .int .u16 (f 2 : Int), .int .u16 (f 3 : Int), .int .u16 (f 4 : Int), .int .u16 (f 5 : Int), .int .u16 (f 6 : Int), .int .u16 (f 7 : Int)], .bool true]) := rfl
      rw [HV2.out] at hpa
      have HP := hid hpa
      obtain ⟨P, hP⟩ : ∃ P, P = strOf (SixI.prt f) := ⟨_, rfl⟩
      have HPR : Hid (∀ w, Lad w → Calls Tryd.prog 14 #[A8 f] w fun e w' => e = .returned (.string P) ∧ Below w.heap.size w w') := by
        show ∀ w, _
        rw [hP]
        exact fun w hL => SixI.print_any f h6 w hL
      obtain ⟨Y, hY⟩ : ∃ Y, Y = strOf (91 :: SixI.prt f) := ⟨_, rfl⟩
      obtain ⟨Z, hZ⟩ : ∃ Z, Z = strOf (91 :: (SixI.prt f ++ [93])) := ⟨_, rfl⟩
      rw [← hZ] at hE
      have hpl := prt_len f
      have a1 : ∀ w : World, (Op.stringOp .add ⟨#[91]⟩ P).run Tryd.prog w = .ok (.string Y) w := fun w => by
        rw [hY, hP]
        exact str_add [91] _ w (by simp; omega)
      have a2 : ∀ w : World, (Op.stringOp .add Y ⟨#[93]⟩).run Tryd.prog w = .ok (.string Z) w := fun w => by
        rw [hZ, hY]
        exact str_add (91 :: SixI.prt f) [93] w (by simp; omega)
      have HE := hid hE
      clear hpa hv hH hIs hE hP hY hZ hpl h6 HV2
      go_enter Tryd.func31, Tryd.ntmps31
      go_wp2_with fail
      refine (HC.out _).mono ?_
      rintro e w1 ⟨rfl, hww⟩
      obtain rfl : w = w1 := hww.symm
      go_wp2_with fail
      refine (HP.out _ HM.out).mono ?_
      rintro e w2 ⟨rfl, hb2⟩
      have HB2 := hid hb2
      clear hb2
      go_upto_region 5 with (fail)
      generalize hw3 : w2.alloc _ = w3
      have HB3 : Hid (Below w.heap.size w w3) := by
        show Below _ _ _
        rw [← hw3]
        exact HB2.out.alloc HB2.out.size _
      have HX3 : Hid (Box w3 w2.heap.size 24 (V8 f)) := by
        show Box _ _ _ _
        rw [← hw3]
        exact box_new f
      clear hw3
      obtain ⟨c0, c1, c2, c3, c4, c5, c6, c7⟩ := cells8 HX3.out f rfl
      go_wp2_with fail
      clear c0 c1 c2 c3 c4 c5 c6 c7
      refine (HPR.out _ (HL.out.below HB3.out)).mono ?_
      rintro e w4 ⟨rfl, hb4⟩
      have HB4 := hid (bel HB3.out hb4)
      clear hb4
      go_wp2
      go_ret2
      exact ⟨by rw [HE.out]; rfl, HB4.out⟩
end Go.Proofs.YtnmkkejodkjjiaaDoor.HstB
