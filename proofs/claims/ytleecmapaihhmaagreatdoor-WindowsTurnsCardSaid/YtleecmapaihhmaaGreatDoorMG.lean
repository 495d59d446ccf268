/- Texts that belong together: EscF, EscJ, HstD. -/
import Derived.Test.YtleecmapaihhmaaGreatDoorME
import Derived.IntWalk
import Derived.Test.YtleecmapaihhmaaGreatDoorMF
import Derived.Test.YtleecmapaihhmaaGreatDoorMC
import Derived.Test.YtleecmapaihhmaaGreatDoorMD
set_option linter.unusedSimpArgs false
set_option linter.unusedVariables false
namespace Go.Proofs.YtleecmapaihhmaaGreatDoor.EscF
open Go.RowKit Go.Proofs.YtleecmapaihhmaaGreatDoor.Base Go.Proofs.YtleecmapaihhmaaGreatDoor.UtfA Go.Proofs.YtleecmapaihhmaaGreatDoor.EscD

theorem str_rest (R : List UInt8) (k : Nat) (h : k ≤ R.length) : (strOf R).extract k (strOf R).size = strOf (R.drop k) := by
  have e := extract_drop (strOf R) k (by rw [size_strOf]; exact h)
  have e2 : (strOf R).data.toList = R := rfl
  rw [e2] at e
  rw [← strOf_toList ((strOf R).extract k (strOf R).size), e]
theorem esc_hex (a b c : UInt8) (t : List UInt8) : (a = 37 ∧ 0 ≤ hex b.toNat ∧ 0 ≤ hex c.toNat → esc (a :: b :: c :: t) = some (UInt8.ofNat (16 * hex b.toNat + hex c.toNat).toNat)) ∧ (¬ (a = 37 ∧ 0 ≤ hex b.toNat ∧ 0 ≤ hex c.toNat) → esc (a :: b :: c :: t) = none) := by
  constructor <;> intro h
  · rw [esc, if_pos h]
  · rw [esc, if_neg h]
theorem hexr (c : Int) (w : World) : Calls Tryz.prog 101 #[.int .u8 c] w fun e w' => e = .returned (.int .i64 (hex c)) ∧ w' = w :=
  (RefA.hex_any c w).mono fun _ _ ⟨he, hw⟩ => ⟨he, hw.symm⟩
theorem one_one (a : Int) : ∀ u ∈ [Value.int .u8 a], u.oneCell' = true := by
  intro u hu
  simp at hu
  subst hu
  rfl
attribute [local go_sem ↓] Go.wp_at_zero Go.wp_at_succ
def lenOf : Value → Nat
  | .string q => q.size
  | _ => 0
set_option maxHeartbeats 4000000 in
set_option maxRecDepth 100000 in
theorem decode_ref (s : ByteArray) (w : World) (hs : s.size ≤ 1073741824) : Calls Tryz.prog 74 #[.string s] w fun e w' => e = .returned (.string (strOf (dec s.data.toList))) ∧ Below w.heap.size w w' := by
  obtain ⟨i0, hi, hz0, hz1, hz2⟩ := info_parts info_u8
  obtain ⟨R0, hR0⟩ : ∃ R0, R0 = s.data.toList := ⟨_, rfl⟩
  have hs0 : s = strOf R0 := by rw [hR0]; exact (strOf_toList s).symm
  subst hs0
  rw [size_strOf] at hs
  rw [← hR0]
  clear hR0
  go_enter Tryz.func74, Tryz.ntmps74
  go_wp2
  go_loopw [0, 3] (fun vs v wr => ∃ (R X : List UInt8), R.length + X.length ≤ 1073741824 ∧ vs = .string (strOf R) ∧ wr.ownsRow w.heap.size 5 1 v X.length (bcells X) ∧ Below w.heap.size w wr ∧ Hid (X ++ dec R = dec R0)) (fun vs _ _ => lenOf vs)
  case atStart => exact ⟨R0, [], by simpa using hs, rfl, World.ownsRow_nil _ _ _ _, Below.refl _ _, rfl⟩
  case round =>
    obtain ⟨R, X, hlen, rfl, hown, hbel, HT⟩ := hrel
    cases R with
    | nil =>
      have HE : Hid (X = dec R0) := by
        have e := HT.out
        rw [dec_nil, List.append_nil] at e
        exact e
      have hsz : (strOf []).size = 0 := rfl
      rw [HE.out] at hown
      obtain ⟨A', c', rfl, _, _, hrd⟩ := owns_form hown
      have hst := run_string_of 44 9 5 Tryz.underlying44 Tryz.underlying5 Tryz.underlying9 _ c' hrd
      go_wp2
      go_ret
      exact ⟨rfl, hbel⟩
    | cons a t =>
      have hsz : (strOf (a :: t)).size = t.length + 1 := by rw [size_strOf, List.length_cons]
      have hx0 : ∀ h : 0 < (strOf (a :: t)).size, (strOf (a :: t))[0]'h = a := fun _ => rfl
      have hc1 : (strOf (a :: t)).extract 1 (t.length + 1) = strOf t := by
        have := str_rest (a :: t) 1 (by simp)
        rw [hsz] at this
        exact this
      have hlen' : t.length + 1 + X.length ≤ 1073741824 := by simpa using hlen
      by_cases h37 : a = 37
      · subst h37
        have t37 : (((37 : UInt8).toNat : Int) == 37) = true := by decide
        by_cases h3 : t.length < 2
        · have HN : Hid (dec (37 :: t) = 37 :: dec t) := dec_none _ _ (by
            match t, h3 with
            | [], _ => rfl
            | [_], _ => rfl)
          have h3' : ¬ (2 : Int) < (t.length : Int) + 1 := by omega
          go_wp2_with (at_builtin; refine wpList_app rfl _ _ 44 rfl w.heap.size 5 i0 (.int .u8 0) 1 Tryz.underlying44 hi hz0 hz1 hz2 rfl _ X.length _ rfl hown hbel hbel.size [.int .u8 37] 1 rfl rfl (by intro u hu; simp at hu; subst hu; rfl) (by unfold maxLen; omega) (by omega) ?_)
          intro v' w3 hown3 hbel3
          clear hown hbel
          go_wp2
          go_roundw
          case rel => exact ⟨t, X ++ [37], by simp at hlen' ⊢; omega, rfl, by rw [bcells_append, List.length_append]; exact hown3, hbel3, by
              rw [List.append_assoc]
              have := HT.out
              rw [HN.out] at this
              exact this⟩
          case measure => simp [lenOf, size_strOf]

        · obtain ⟨b, c, t', rfl⟩ : ∃ b c t', t = b :: c :: t' := by
            match t, h3 with
            | b :: c :: t', _ => exact ⟨b, c, t', rfl⟩
            | [], h => simp at h
            | [_], h => simp at h
          clear h3
          have h3' : (2 : Int) < (((b :: c :: t').length : Nat) : Int) + 1 := by simp; omega
          have hx1 : ∀ h : 1 < (strOf (37 :: b :: c :: t')).size, (strOf (37 :: b :: c :: t'))[1]'h = b := fun _ => rfl
          have hx2 : ∀ h : 2 < (strOf (37 :: b :: c :: t')).size, (strOf (37 :: b :: c :: t'))[2]'h = c := fun _ => rfl
          have hc3 : (strOf (37 :: b :: c :: t')).extract 3 ((b :: c :: t').length + 1) = strOf t' := by
            have := str_rest (37 :: b :: c :: t') 3 (by simp)
            rw [hsz] at this
            exact this
          obtain ⟨hb1, hb2⟩ := hex_le b
          obtain ⟨hd1, hd2⟩ := hex_le c
          obtain ⟨HY, HZ⟩ := esc_hex 37 b c t'
          obtain ⟨m, hm⟩ : ∃ m, m = (b :: c :: t').length := ⟨_, rfl⟩
          have hm' : m = t'.length + 2 := by rw [hm]; simp
          rw [← hm] at hsz hc1 hc3 h3' hlen'
          have HM := hid hm'
          clear hm hm'
          by_cases hx : hex b.toNat < 0
          · have HN : Hid (dec (37 :: b :: c :: t') = 37 :: dec (b :: c :: t')) := dec_none _ _ (HZ (by intro h; omega))
            clear HY HZ
            go_wp2_with fail
            refine (hexr _ _).mono ?_
            rintro e w2 ⟨rfl, hw⟩
            subst hw
            go_wp2_with (at_builtin; refine wpList_app rfl _ _ 44 rfl w.heap.size 5 i0 (.int .u8 0) 1 Tryz.underlying44 hi hz0 hz1 hz2 rfl _ X.length _ rfl hown hbel hbel.size [.int .u8 37] 1 rfl rfl (by intro u hu; simp at hu; subst hu; rfl) (by unfold maxLen; omega) (by omega) ?_)
            intro v' w3 hown3 hbel3
            clear hown hbel
            go_wp2
            go_roundw
            case rel => exact ⟨b :: c :: t', X ++ [37], by simp; have := HM.out; omega, rfl, by rw [bcells_append, List.length_append]; exact hown3, hbel3, by
                rw [List.append_assoc]
                have := HT.out
                rw [HN.out] at this
                exact this⟩
            case measure => simp [lenOf, size_strOf]
          · have hx' : 0 ≤ hex b.toNat := by omega
            clear hx hb1
            by_cases hy : hex c.toNat < 0
            · have HN : Hid (dec (37 :: b :: c :: t') = 37 :: dec (b :: c :: t')) := dec_none _ _ (HZ (by intro h; omega))
              clear HY HZ
              go_wp2_with fail
              refine (hexr _ _).mono ?_
              rintro e w2 ⟨rfl, hw⟩
              subst hw
              go_wp2_with fail
              refine (hexr _ _).mono ?_
              rintro e w2 ⟨rfl, hw⟩
              subst hw
              go_wp2_with (at_builtin; refine wpList_app rfl _ _ 44 rfl w.heap.size 5 i0 (.int .u8 0) 1 Tryz.underlying44 hi hz0 hz1 hz2 rfl _ X.length _ rfl hown hbel hbel.size [.int .u8 37] 1 rfl rfl (by intro u hu; simp at hu; subst hu; rfl) (by unfold maxLen; omega) (by omega) ?_)
              intro v' w3 hown3 hbel3
              clear hown hbel
              go_wp2
              go_roundw
              case rel => exact ⟨b :: c :: t', X ++ [37], by simp; have := HM.out; omega, rfl, by rw [bcells_append, List.length_append]; exact hown3, hbel3, by
                  rw [List.append_assoc]
                  have := HT.out
                  rw [HN.out] at this
                  exact this⟩
              case measure => simp [lenOf, size_strOf]
            · have hy' : 0 ≤ hex c.toNat := by omega
              clear hy hd1
              have HN : Hid (dec (37 :: b :: c :: t') = UInt8.ofNat (16 * hex b.toNat + hex c.toNat).toNat :: dec t') := by
                rw [dec_some _ _ _ (HY ⟨rfl, hx', hy'⟩)]
                exact rfl
              clear HY HZ
              have HU : Hid (((UInt8.ofNat (16 * hex b.toNat + hex c.toNat).toNat).toNat : Int) = 16 * hex b.toNat + hex c.toNat) := u8_of _ (by omega) (by omega)
              go_wp2_with fail
              refine (hexr _ _).mono ?_
              rintro e w2 ⟨rfl, hw⟩
              subst hw
              go_wp2_with fail
              refine (hexr _ _).mono ?_
              rintro e w2 ⟨rfl, hw⟩
              subst hw
              have s1 : IntKind.i64.wrap (16 * hex b.toNat) = 16 * hex b.toNat := IntWalk.i64_in _ (by omega)
              have s2 : IntKind.i64.wrap (16 * hex b.toNat + hex c.toNat) = 16 * hex b.toNat + hex c.toNat := IntWalk.i64_in _ (by omega)
              have s3 : (16 * hex b.toNat + hex c.toNat) % 256 = 16 * hex b.toNat + hex c.toNat := by omega
              have s4 : IntKind.u8.wrap (16 * hex b.toNat + hex c.toNat) = 16 * hex b.toNat + hex c.toNat := by rw [IntKind.wrap_u8]; omega
              go_wp2
              have s5 : (1 : Int) < (m : Int) + 1 := by omega
              go_region_held3 (fun _ => True) (trivial) (first | (go_at_call 101; refine (hexr _ _).mono ?_; rintro e w' ⟨rfl, rfl⟩) | (refine step_app (by rfl) _ _ 44 (by rfl) w.heap.size 5 i0 (.int .u8 0) 1 Tryz.underlying44 hi hz0 hz1 hz2 (by rfl) _ X.length _ (by rfl) hown hbel hbel.size [.int .u8 (16 * hex b.toNat + hex c.toNat)] 1 (by rfl) (by decide) (by rfl) (one_one _) (by unfold maxLen; omega) (by omega) ⟨⟨rfl, rfl, rfl, Nat.le_refl _, fun _ _ => rfl⟩, fun _ => rfl, by simp⟩ ?_; intro v' w3 hown3 hbel3))
              go_goals
              all_goals
                clear hown hbel s1 s2 s3 s4 s5
                go_wp2
                go_roundw
                case rel => exact ⟨t', X ++ [UInt8.ofNat (16 * hex b.toNat + hex c.toNat).toNat], by simp; have := HM.out; omega, rfl, by
                    rw [bcells_append, List.length_append]
                    show World.ownsRow _ _ _ _ _ _ (bcells X ++ [Value.int .u8 ((UInt8.ofNat (16 * hex b.toNat + hex c.toNat).toNat).toNat : Int)])
                    rw [HU.out]
                    exact hown3, hbel3, by
                    rw [List.append_assoc]
                    have := HT.out
                    rw [HN.out] at this
                    exact this⟩
                case measure => simp [lenOf, size_strOf]; omega
      · have HN : Hid (dec (a :: t) = a :: dec t) := dec_none _ _ (by
          match t with
          | [] => rfl
          | [_] => rfl
          | _ :: _ :: _ => rw [esc, if_neg (by intro h; exact h37 h.1)])
        have t37 : ((a.toNat : Int) == 37) = false := by
          simp
          intro h
          exact h37 (UInt8.toNat_inj.1 (by simp; omega))
        clear h37
        go_wp2_with (at_builtin; refine wpList_app rfl _ _ 44 rfl w.heap.size 5 i0 (.int .u8 0) 1 Tryz.underlying44 hi hz0 hz1 hz2 rfl _ X.length _ rfl hown hbel hbel.size [.int .u8 (a.toNat : Int)] 1 rfl rfl (by intro u hu; simp at hu; subst hu; rfl) (by unfold maxLen; omega) (by omega) ?_)
        intro v' w3 hown3 hbel3
        clear hown hbel
        go_wp2
        go_roundw
        case rel => exact ⟨t, X ++ [a], by simp at hlen ⊢; omega, rfl, by rw [bcells_append, List.length_append]; exact hown3, hbel3, by
            rw [List.append_assoc]
            have := HT.out
            rw [HN.out] at this
            exact this⟩
        case measure => simp [lenOf, size_strOf]

end Go.Proofs.YtleecmapaihhmaaGreatDoor.EscF
namespace Go.Proofs.YtleecmapaihhmaaGreatDoor.EscI
open Go.RowKit Go.Proofs.YtleecmapaihhmaaGreatDoor.Base

set_option maxHeartbeats 4000000 in
set_option maxRecDepth 100000 in
theorem ref_0 (c : Int) (w : World) (h0 : 32 ≤ c) (h1 : c ≤ 126) : Calls Tryz.prog 53 #[.int .i64 0, .int .u8 c] w fun e w' => e = .returned (.bool (inS 0 c)) ∧ w = w' := by
  go_enter Tryz.func53, Tryz.ntmps53
  go_wp2
  all_goals
    go_ret
    refine ⟨ret_bool ?_, rfl⟩
    rw [inS_0]
    rw [Bool.eq_iff_iff]
    simp only [Bool.or_eq_true, beq_iff_eq, decide_eq_true_eq]
    constructor <;> intro h <;> first | trivial | omega
set_option maxHeartbeats 4000000 in
set_option maxRecDepth 100000 in
theorem ref_1 (c : Int) (w : World) (h0 : 32 ≤ c) (h1 : c ≤ 126) : Calls Tryz.prog 53 #[.int .i64 1, .int .u8 c] w fun e w' => e = .returned (.bool (inS 1 c)) ∧ w = w' := by
  go_enter Tryz.func53, Tryz.ntmps53
  go_wp2
  all_goals
    go_ret
    refine ⟨ret_bool ?_, rfl⟩
    rw [inS_1]
    unfold P1
    rw [Bool.eq_iff_iff]
    simp only [Bool.or_eq_true, beq_iff_eq, decide_eq_true_eq]
    constructor <;> intro h <;> first | trivial | omega
set_option maxHeartbeats 4000000 in
set_option maxRecDepth 100000 in
theorem ref_2 (c : Int) (w : World) (h0 : 32 ≤ c) (h1 : c ≤ 126) : Calls Tryz.prog 53 #[.int .i64 2, .int .u8 c] w fun e w' => e = .returned (.bool (inS 2 c)) ∧ w = w' := by
  go_enter Tryz.func53, Tryz.ntmps53
  go_wp2
  all_goals
    go_ret
    refine ⟨ret_bool ?_, rfl⟩
    rw [inS_2]
    unfold P2
    rw [Bool.eq_iff_iff]
    simp only [Bool.or_eq_true, beq_iff_eq, decide_eq_true_eq]
    constructor <;> intro h <;> first | trivial | omega
end Go.Proofs.YtleecmapaihhmaaGreatDoor.EscI
namespace Go.Proofs.YtleecmapaihhmaaGreatDoor.HstD
open Go.RowKit Go.Proofs.YtleecmapaihhmaaGreatDoor.Base Go.Proofs.YtleecmapaihhmaaGreatDoor.Base2 Go.Proofs.YtleecmapaihhmaaGreatDoor.UtfL Go.Proofs.YtleecmapaihhmaaGreatDoor.QudP Go.Proofs.YtleecmapaihhmaaGreatDoor.SixP Go.Proofs.YtleecmapaihhmaaGreatDoor.SixB Go.Proofs.YtleecmapaihhmaaGreatDoor.SixC Go.Proofs.YtleecmapaihhmaaGreatDoor.SixG Go.Proofs.YtleecmapaihhmaaGreatDoor.SixH Go.Proofs.YtleecmapaihhmaaGreatDoor.SixI Go.Proofs.YtleecmapaihhmaaGreatDoor.SixL Go.Proofs.YtleecmapaihhmaaGreatDoor.SixM Go.Proofs.YtleecmapaihhmaaGreatDoor.HstP Go.Proofs.YtleecmapaihhmaaGreatDoor.HstA Go.Proofs.YtleecmapaihhmaaGreatDoor.HstB Go.Proofs.YtleecmapaihhmaaGreatDoor.HstC

theorem suffix_snoc (N : List UInt8) (d : UInt8) : Lib.hasSuffix (N ++ [d]) [93] = decide (d = 93) := by
  unfold Lib.hasSuffix
  rw [Bool.eq_iff_iff, List.isSuffixOf_iff_suffix, decide_eq_true_iff]
  constructor
  · rintro ⟨t, ht⟩
    have := List.append_inj_right' ht rfl
    simp at this
    exact this.symm
  · rintro rfl
    exact ⟨N, rfl⟩
theorem hbr_no {M : List UInt8} {c : UInt8} (h : (91 :: M).getLast? = some c) (hc : c ≠ 93) : hbr M = none := by
  rcases List.eq_nil_or_concat M with rfl | ⟨N, d, rfl⟩
  · rfl
  · have : d = c := by
      rw [List.concat_eq_append, ← List.cons_append, List.getLast?_append] at h
      simpa using h
    subst this
    unfold hbr
    rw [List.concat_eq_append, suffix_snoc, decide_eq_false hc]
    rfl
theorem hbr_yes {M : List UInt8} (h : (91 :: M).getLast? = some 93) : 1 ≤ M.length ∧ hbr M = addr (M.take (M.length - 1)) := by
  rcases List.eq_nil_or_concat M with rfl | ⟨N, d, rfl⟩
  · simp at h
  · have : d = 93 := by
      rw [List.concat_eq_append, ← List.cons_append, List.getLast?_append] at h
      simpa using h
    subst this
    have hs : Lib.hasSuffix (N ++ [93]) [93] = true := by rw [suffix_snoc]; rfl
    refine ⟨by simp, ?_⟩
    unfold hbr Lib.trimSuffix
    rw [List.concat_eq_append, if_pos hs, if_pos hs]
    rfl
theorem last_byte (s : ByteArray) (h : 0 < s.size) : ∃ (j : Nat) (c : UInt8), (s.size : Int) - 1 = (j : Int) ∧ s.size = j + 1 ∧ ∃ hj : j < s.size, s[j] = c ∧ s.data.toList.getLast? = some c := by
  have hl : s.data.toList.length = s.size := Array.length_toList
  refine ⟨s.size - 1, s[s.size - 1], by omega, by omega, by omega, rfl, ?_⟩
  rw [List.getLast?_eq_getElem?, hl]
  exact List.getElem?_eq_getElem (by rw [hl]; omega)
theorem cut_mid (s : ByteArray) (M : List UInt8) (j : Nat) (h : s.data.toList = 91 :: M) (hj : s.size = j + 1) : (s.extract 1 j).data.toList = M.take (M.length - 1) := by
  have hl : s.data.toList.length = s.size := Array.length_toList
  rw [ByteArray.data_extract]
  simp only [Array.toList_extract, List.extract_eq_take_drop]
  rw [h] at hl ⊢
  simp at hl ⊢
  rw [show M.length - 1 = j - 1 by omega]
  omega
theorem str_nil {s : ByteArray} (h : s.size = 0) : s.toList = [] := by
  rw [Lib.toList_data]
  exact List.eq_nil_of_length_eq_zero (by rw [Array.length_toList]; exact h)
theorem in0 (c : UInt8) (w : World) : Calls Tryz.prog 53 #[.int .i64 0, .int .u8 (c.toNat : Int)] w fun e w' => e = .returned (.bool (EscI.inS 0 c.toNat)) ∧ w = w' := by
  by_cases hf : (c.toNat : Int) < 32 ∨ 126 < (c.toNat : Int)
  · exact EscI.ref_far 0 c.toNat w (by omega) (by omega) hf
  · exact EscI.ref_0 c.toNat w (by omega) (by omega)
theorem enc0_any (s : ByteArray) (w : World) (hs : s.size ≤ 1073741824) : Calls Tryz.prog 76 #[.int .i64 0, .string s] w fun e w' => e = .returned (.string (strOf (EscE.enc 0 s.data.toList))) ∧ Below w.heap.size w w' := EscR.ref_encode 0 s w hs in0
theorem first_byte (s : ByteArray) (h : 0 < s.size) (hh : ¬ s.data.toList.head? = some 91) : (s.toList == []) = false ∧ s.toList.isEmpty = false ∧ ¬ s.toList = [] ∧ ∃ x : UInt8, s[0] = x ∧ ((x.toNat : Int) == 91) = false ∧ ¬ (x.toNat : Int) = 91 := by
  have hl : s.data.toList.length = s.size := Array.length_toList
  obtain ⟨a, r, hM⟩ : ∃ a r, s.data.toList = a :: r := by
    cases e : s.data.toList with
    | nil => rw [e] at hl; simp at hl; omega
    | cons a r => exact ⟨a, r, rfl⟩
  have hs0 : s[0] = a := by
    have : s.data.toList[0]'(by omega) = s[0] := rfl
    rw [← this]
    simp only [hM, List.getElem_cons_zero]
  have ha : a ≠ 91 := by
    intro e
    rw [hM, e] at hh
    exact hh rfl
  have hn : ¬ (a.toNat : Int) = 91 := fun e => ha (UInt8.toNat_inj.1 (by show _ = 91; omega))
  rw [Lib.toList_data, hM]
  exact ⟨rfl, rfl, by simp, a, hs0, by rw [beq_eq_false_iff_ne]; exact hn, hn⟩
set_option linter.unusedSimpArgs false in
set_option maxRecDepth 100000 in
set_option maxHeartbeats 8000000 in
theorem parse_any (s : ByteArray) (sp : Bool) (w : World) (hs : s.size ≤ 900000) : Calls Tryz.prog 49 #[.string s, .bool sp] w fun e w' => e = .returned (HV (hst s.data.toList sp)) ∧ Below w.heap.size w w' := by
  have hl : s.data.toList.length = s.size := Array.length_toList
  have HLE := hid hl
  obtain ⟨H, hH⟩ : ∃ H, H = HV (hst s.data.toList sp) := ⟨_, rfl⟩
  rw [← hH]
  have HS9 := hid hs
  clear hl
  by_cases hh : s.data.toList.head? = some 91
  · have hH2 : H = HV (hbr s.data.toList.tail) := by rw [hH]; unfold hst; rw [if_pos hh]
    obtain ⟨M, hM⟩ : ∃ M, s.data.toList = 91 :: M := by
      cases e : s.data.toList with
      | nil => rw [e] at hh; cases hh
      | cons a r => rw [e] at hh; simp at hh; exact ⟨r, by rw [hh]⟩
    have h1 : 1 ≤ s.size := by rw [← HLE.out, hM]; simp
    rw [hM] at hH2
    replace hH2 : H = HV (hbr M) := hH2
    have hs0 : s[0] = 91 := by
      have : s.data.toList[0]'(by rw [HLE.out]; omega) = s[0] := rfl
      rw [← this]
      simp only [hM, List.getElem_cons_zero]
    have hq : (s.toList == []) = false := by
      rw [Lib.toList_data, hM]
      rfl
    have hq2 : s.toList.isEmpty = false := by rw [Lib.toList_data, hM]; rfl
    have hq3 : ¬ s.toList = [] := by rw [Lib.toList_data, hM]; simp
    obtain ⟨j, c, hj1, hj2, hj3, hj4, hj5⟩ := last_byte s h1
    rw [hM] at hj5
    have hji : (j : Int) < (s.size : Int) := by omega
    have hj0 : (0 : Int) ≤ (j : Int) := by omega
    have hjm : (j : Int) ≤ 900000 := by omega
    have h0i : (0 : Int) < (s.size : Int) := by omega
    by_cases hc : c = 93
    · rw [hc] at hj5
      obtain ⟨hM1, hM2⟩ := hbr_yes hj5
      rw [hM2] at hH2
      have hX := cut_mid s M j hM hj2
      obtain ⟨X, hXe⟩ : ∃ X, X = s.extract 1 j := ⟨_, rfl⟩
      have hXs : X.size ≤ 1048576 := by rw [hXe, ByteArray.size_extract]; omega
      rw [← hXe] at hX
      rw [← hX] at hH2
      have hj2' : 2 ≤ s.size := by
        have := HLE.out
        rw [hM] at this
        simp at this
        omega
      have h2i : ¬ (s.size : Int) < 2 := by omega
      have h1j : (1 : Int) ≤ (j : Int) := by omega
      have hcc : ((c.toNat : Int) != 93) = false := by rw [hc]; rfl
      have hpa := fun w => SixF.parse_any X w hXs
      have HXE := hid hXe
      have HJ2 := hid hj2
      clear hH hM hj5 hM1 hM2 hX hXs hXe hj2' hj2 hc hh hs
      cases hv : six X.data.toList with
      | none =>
        have HE : Hid (H = .tuple #[.string (strOf []), .bool false]) := by show _ = _; rw [hH2]; unfold addr; rw [hv]; rfl
        rw [hv] at hpa
        obtain ⟨f, hf⟩ : ∃ f : Nat → Nat, V8 f = zer := ⟨fun _ => 0, rfl⟩
        have HV2 : Hid (SixV none = .tuple #[.agg #[.int .u16 (f 0 : Int), .int .u16 (f 1 : Int), .int .u16 (f 2 : Int), .int .u16 (f 3 : Int), .int .u16 (f 4 : Int), .int .u16 (f 5 : Int), .int .u16 (f 6 : Int), .int .u16 (f 7 : Int)], .bool false]) := by
          show SixV none = .tuple #[.agg (ncells (V8 f)).toArray, .bool false]
          rw [hf]
          rfl
        rw [HV2.out] at hpa
        have HP := hid hpa
        clear hpa hv hH2 hf
        go_enter Tryz.func49, Tryz.ntmps49
        go_wp2_with fail
        rw [← HXE.out]
        refine (HP.out _).mono ?_
        rintro e w2 ⟨rfl, hb2⟩
        have HB2 := hid hb2
        clear hb2
        go_wp2
        go_ret2
        exact ⟨by rw [HE.out]; rfl, HB2.out.alloc HB2.out.size _⟩
      | some V =>
        obtain ⟨f, rfl, h6⟩ := six_fun hv
        have hE : H = .tuple #[.string (strOf (91 :: (SixI.prt f ++ [93]))), .bool true] := by rw [hH2]; unfold addr; rw [hv, ← prtL_V8]; rfl
        rw [hv] at hpa
        have HV2 : Hid (SixV (some (V8 f)) = .tuple #[.agg #[.int .u16 (f 0 : Int), .int .u16 (f 1 : Int), .int .u16 (f 2 : Int), .int .u16 (f 3 : Int), .int .u16 (f 4 : Int), .int .u16 (f 5 : Int), .int .u16 (f 6 : Int), .int .u16 (f 7 : Int)], .bool true]) := rfl
        rw [HV2.out] at hpa
        have HP := hid hpa
        obtain ⟨P, hP⟩ : ∃ P, P = strOf (SixI.prt f) := ⟨_, rfl⟩
        have HPR : Hid (∀ w, Calls Tryz.prog 72 #[A8 f] w fun e w' => e = .returned (.string P) ∧ Below w.heap.size w w') := by
          show ∀ w, _
          rw [hP]
          exact fun w => SixK.print_any f h6 w
        obtain ⟨Y, hY⟩ : ∃ Y, Y = strOf (91 :: SixI.prt f) := ⟨_, rfl⟩
        obtain ⟨Z, hZ⟩ : ∃ Z, Z = strOf (91 :: (SixI.prt f ++ [93])) := ⟨_, rfl⟩
        rw [← hZ] at hE
        have hpl := prt_len f
        have a1 : ∀ w : World, (Op.stringOp .add ⟨#[91]⟩ P).run Tryz.prog w = .ok (.string Y) w := fun w => by
          rw [hY, hP]
          exact str_add [91] _ w (by simp; omega)
        have a2 : ∀ w : World, (Op.stringOp .add Y ⟨#[93]⟩).run Tryz.prog w = .ok (.string Z) w := fun w => by
          rw [hZ, hY]
          exact str_add (91 :: SixI.prt f) [93] w (by simp; omega)
        have HE := hid hE
        clear hpa hv hH2 hE hP hY hZ hpl h6 HV2
        go_enter Tryz.func49, Tryz.ntmps49
        go_wp2_with fail
        rw [← HXE.out]
        refine (HP.out _).mono ?_
        rintro e w2 ⟨rfl, hb2⟩
        have HB2 := hid hb2
        clear hb2
        go_upto_region 5 with (fail)
        generalize hw3 : w2.alloc _ = w3
        have HB3 : Hid (Below w.heap.size w w3) := by
          show Below _ _ _
          rw [← hw3]
          exact HB2.out.alloc HB2.out.size _
        have HX3 : Hid (Box w3 w2.heap.size 83 (V8 f)) := by
          show Box _ _ _ _
          rw [← hw3]
          exact box_new f
        clear hw3
        obtain ⟨c0, c1, c2, c3, c4, c5, c6, c7⟩ := cells8 HX3.out f rfl
        go_wp2_with fail
        clear c0 c1 c2 c3 c4 c5 c6 c7
        refine (HPR.out _).mono ?_
        rintro e w4 ⟨rfl, hb4⟩
        have HB4 := hid (bel HB3.out hb4)
        clear hb4
        go_wp2
        go_ret2
        exact ⟨by rw [HE.out]; rfl, HB4.out⟩
    · rw [hbr_no hj5 hc] at hH2
      have HE : Hid (H = .tuple #[.string (strOf []), .bool false]) := hH2
      have hcc : ((c.toNat : Int) != 93) = true := by
        rw [bne_iff_ne]
        intro e
        exact hc (UInt8.toNat_inj.1 (by show _ = 93; omega))
      have HJ2 := hid hj2
      clear hH hM hj5 hH2 hj2 hc hh hs
      go_enter Tryz.func49, Tryz.ntmps49
      go_wp2
      go_ret2
      exact ⟨by rw [HE.out]; rfl, Below.refl _ _⟩
  · cases sp with
    | true =>
      have hH2 : H = HV (if oks true (lower (EscD.dec s.data.toList)) = true then dm2 (lower (EscD.dec s.data.toList)) else none) := by
        rw [hH]
        unfold hst
        rw [if_neg hh, if_pos rfl]
        unfold dmn
        rw [oks_lower]
      obtain ⟨D, hD⟩ : ∃ D : ByteArray, D = strOf (EscD.dec s.data.toList) := ⟨_, rfl⟩
      obtain ⟨M, hM⟩ : ∃ M : ByteArray, M = strOf (lower D.data.toList) := ⟨_, rfl⟩
      have hDd : EscD.dec s.data.toList = D.data.toList := by rw [hD]; rfl
      have hMd : lower D.data.toList = M.data.toList := by rw [hM]; rfl
      have hDs : D.size ≤ 900000 := by
        rw [hD, size_strOf]
        have := EscD.dec_len s.data.toList
        rw [HLE.out] at this
        omega
      have hMs : M.size ≤ 900000 := by
        rw [hM, size_strOf, lower_len]
        have : D.data.toList.length = D.size := Array.length_toList
        omega
      have HDC : Hid (∀ w, Calls Tryz.prog 74 #[.string s] w fun e w' => e = .returned (.string D) ∧ Below w.heap.size w w') := by
        show ∀ w, _
        rw [hD]
        exact fun w => EscF.decode_ref s w (by omega)
      have HLW : Hid (∀ w, Calls Tryz.prog 73 #[.string D] w fun e w' => e = .returned (.string M) ∧ Below w.heap.size w w') := by
        show ∀ w, _
        rw [hM]
        exact fun w => RefA.lower_any D w (by omega)
      rw [hDd, hMd] at hH2
      have HH := hid hH2
      have hlm : M.data.toList.length = M.size := Array.length_toList
      have HLM := hid hlm
      have HM9 := hid hMs
      clear hH hH2 hD hM hDd hMd hDs hMs hlm
      rcases Nat.eq_zero_or_pos s.size with h0 | h0
      · have hq : s.toList = [] := str_nil h0
        have hq2 : (s.toList == []) = true := by rw [hq]; rfl
        clear hh h0 hs hq
        go_enter Tryz.func49, Tryz.ntmps49
        go_wp2_with fail
        refine (HDC.out _).mono ?_
        rintro e w1 ⟨rfl, hb1⟩
        have HB1 := hid hb1
        clear hb1
        go_wp2_with fail
        refine (HLW.out _).mono ?_
        rintro e wm ⟨rfl, hb2⟩
        have HB2 := hid (bel HB1.out hb2)
        clear hb2
        go_wp2
        go_loopw [8, 50] (fun _ vk wr => ∃ k : Nat, k ≤ M.size ∧ vk = .int .i64 (k : Int) ∧ wr = wm ∧ Hid (oks true (M.data.toList.take k) = true)) (fun _ vk _ => M.size - (intOf vk).toNat)
        case atStart => exact ⟨0, Nat.zero_le _, rfl, rfl, rfl⟩
        case round =>
          obtain ⟨k, hk, rfl, rfl, HO⟩ := hrel
          have hmz : M.size ≤ 900000 := HM9.out
          by_cases hlt : k < M.size
          · obtain ⟨c, hc⟩ : ∃ c, M[k] = c := ⟨_, rfl⟩
            have hkl : k < M.data.toList.length := by rw [HLM.out]; exact hlt
            have hcl : M.data.toList[k] = c := hc
            cases hf : fbd true c with
            | true =>
              have HE : Hid (H = .tuple #[.string (strOf []), .bool false]) := by
                show _ = _
                rw [HH.out, if_neg (by rw [oks_no true _ k hkl (by rw [hcl, okb_true, hf]; rfl)]; exact Bool.false_ne_true)]
                rfl
              have hfc := fun w => refForbidden_any c true w
              rw [hf] at hfc
              have HF := hid hfc
              clear hkl hcl hf hfc
              go_wp2_with fail
              refine (HF.out _).mono ?_
              rintro e w2 ⟨rfl, rfl⟩
              go_wp2
              go_ret2
              exact ⟨by rw [HE.out]; rfl, HB2.out⟩
            | false =>
              by_cases h126 : (126 : Int) < (c.toNat : Int)
              · have HE : Hid (H = .tuple #[.string (strOf []), .bool false]) := by
                  show _ = _
                  rw [HH.out, if_neg]
                  · rfl
                  · rw [oks_no true _ k hkl (by rw [hcl, okb_true, decide_eq_false (by omega), Bool.and_false])]
                    exact Bool.false_ne_true
                have hfc := fun w => refForbidden_any c true w
                rw [hf] at hfc
                have HF := hid hfc
                clear hkl hcl hf hfc
                go_wp2_with fail
                refine (HF.out _).mono ?_
                rintro e w2 ⟨rfl, rfl⟩
                go_wp2
                go_ret2
                exact ⟨by rw [HE.out]; rfl, HB2.out⟩
              · have hc126 : ¬ (126 : Int) < (c.toNat : Int) := h126
                have HN : Hid (oks true (M.data.toList.take (k + 1)) = true) := by
                  show _ = _
                  rw [oks_take_succ true _ k hkl, HO.out, hcl]
                  unfold okb
                  rw [hf]
                  rw [decide_eq_true (by omega)]; rfl
                have hfc := fun w => refForbidden_any c true w
                rw [hf] at hfc
                have HF := hid hfc
                clear hkl hcl hf hfc
                go_wp2_with fail
                refine (HF.out _).mono ?_
                rintro e w2 ⟨rfl, rfl⟩
                go_wp2
                go_roundw
                case rel => exact ⟨k + 1, by omega, by go_num, by first | rfl | trivial, HN.out⟩
                case measure => simp [intOf]; omega
          · have hO : oks true M.data.toList = true := by
              have := HO.out
              rw [List.take_of_length_le (by rw [HLM.out]; omega)] at this
              exact this
            have hH3 : H = HV (dm2 M.data.toList) := by rw [HH.out, if_pos hO]
            have hend := fun w => QudD.refEnds_any M w HM9.out
            clear hO HO HH
            by_cases hM0 : M.data.toList = []
            · have HE : Hid (H = .tuple #[.string (strOf []), .bool false]) := by show _ = _; rw [hH3, hM0]; rfl
              have hq : M.toList = [] := by rw [Lib.toList_data]; exact hM0
              have hq2 : (M.toList == []) = true := by rw [hq]; rfl
              clear hend hM0 hH3 hq
              go_wp2
              go_ret2
              exact ⟨by rw [HE.out]; rfl, HB2.out⟩
            · have hq : (M.toList == []) = false := by
                rw [Lib.toList_data, beq_eq_false_iff_ne]
                exact hM0
              have hq2 : M.toList.isEmpty = false := by rw [Lib.toList_data]; simpa using hM0
              have hq3 : ¬ M.toList = [] := by rw [Lib.toList_data]; exact hM0
              cases he : ends M.data.toList with
              | false =>
                rw [he] at hend
                have HEN := hid hend
                have HE : Hid (H = .tuple #[.string M, .bool true]) := by
                  show _ = _
                  rw [hH3]
                  unfold dm2
                  rw [if_neg hM0, he, if_neg (by simp)]
                  show Value.tuple #[.string (strOf M.data.toList), .bool true] = _
                  rw [strOf_toList]
                clear hend he hM0 hH3
                go_wp2_with fail
                refine (HEN.out _).mono ?_
                rintro e w3 ⟨rfl, hb3⟩
                have HB3 := hid (bel HB2.out hb3)
                clear hb3
                go_wp2
                go_ret2
                exact ⟨by rw [HE.out]; rfl, HB3.out⟩
              | true =>
                rw [he] at hend
                have HEN := hid hend
                have hH4 : H = HV ((prs M.data.toList).map QudG.pr) := by rw [hH3]; unfold dm2; rw [if_neg hM0, he, if_pos rfl]
                have hpa := fun w => QudF.refParse_any M w HM9.out
                clear hend he hM0 hH3
                cases hp : prs M.data.toList with
                | none =>
                  rw [hp] at hpa hH4
                  have HE : Hid (H = .tuple #[.string (strOf []), .bool false]) := by show _ = _; rw [hH4]; rfl
                  have HV2 : Hid (QudE.PrsV none = .tuple #[.int .u32 0, .bool false]) := QudE.prsV_none _ rfl
                  rw [HV2.out] at hpa
                  have HP := hid hpa
                  clear hpa hH4 hp
                  go_wp2_with fail
                  refine (HEN.out _).mono ?_
                  rintro e w3 ⟨rfl, hb3⟩
                  have HB3 := hid (bel HB2.out hb3)
                  clear hb3
                  go_wp2_with fail
                  refine (HP.out _).mono ?_
                  rintro e w4 ⟨rfl, hb4⟩
                  have HB4 := hid (bel HB3.out hb4)
                  clear hb4
                  go_wp2
                  go_ret2
                  exact ⟨by rw [HE.out]; rfl, HB4.out⟩
                | some n =>
                  have hn := prs_lt hp
                  rw [hp] at hpa hH4
                  obtain ⟨R, hR⟩ : ∃ R : ByteArray, R = strOf (QudG.pr n) := ⟨_, rfl⟩
                  have HE : Hid (H = .tuple #[.string R, .bool true]) := by show _ = _; rw [hH4, hR]; rfl
                  have HV2 : Hid (QudE.PrsV (some n) = .tuple #[.int .u32 (n : Int), .bool true]) := QudE.prsV_some _ n rfl
                  rw [HV2.out] at hpa
                  have HP := hid hpa
                  have HPR : Hid (∀ w, Calls Tryz.prog 79 #[.int .u32 (n : Int)] w fun e w' => e = .returned (.string R) ∧ Below w.heap.size w w') := by
                    show ∀ w, _
                    rw [hR]
                    exact fun w => QudH.refPrint_any n hn w
                  clear hpa hH4 hp hn hR
                  go_wp2_with fail
                  refine (HEN.out _).mono ?_
                  rintro e w3 ⟨rfl, hb3⟩
                  have HB3 := hid (bel HB2.out hb3)
                  clear hb3
                  go_wp2_with fail
                  refine (HP.out _).mono ?_
                  rintro e w4 ⟨rfl, hb4⟩
                  have HB4 := hid (bel HB3.out hb4)
                  clear hb4
                  go_wp2_with fail
                  refine (HPR.out _).mono ?_
                  rintro e w5 ⟨rfl, hb5⟩
                  have HB5 := hid (bel HB4.out hb5)
                  clear hb5
                  go_wp2
                  go_ret2
                  exact ⟨by rw [HE.out]; rfl, HB5.out⟩
      · obtain ⟨hq, hq2, hq3, x, hx0, hx, hxn⟩ := first_byte s h0 hh
        have h0i : (0 : Int) < (s.size : Int) := by omega
        clear hh hs
        go_enter Tryz.func49, Tryz.ntmps49
        go_wp2_with fail
        refine (HDC.out _).mono ?_
        rintro e w1 ⟨rfl, hb1⟩
        have HB1 := hid hb1
        clear hb1
        go_wp2_with fail
        refine (HLW.out _).mono ?_
        rintro e wm ⟨rfl, hb2⟩
        have HB2 := hid (bel HB1.out hb2)
        clear hb2
        go_wp2
        go_loopw [8, 50] (fun _ vk wr => ∃ k : Nat, k ≤ M.size ∧ vk = .int .i64 (k : Int) ∧ wr = wm ∧ Hid (oks true (M.data.toList.take k) = true)) (fun _ vk _ => M.size - (intOf vk).toNat)
        case atStart => exact ⟨0, Nat.zero_le _, rfl, rfl, rfl⟩
        case round =>
          obtain ⟨k, hk, rfl, rfl, HO⟩ := hrel
          have hmz : M.size ≤ 900000 := HM9.out
          by_cases hlt : k < M.size
          · obtain ⟨c, hc⟩ : ∃ c, M[k] = c := ⟨_, rfl⟩
            have hkl : k < M.data.toList.length := by rw [HLM.out]; exact hlt
            have hcl : M.data.toList[k] = c := hc
            cases hf : fbd true c with
            | true =>
              have HE : Hid (H = .tuple #[.string (strOf []), .bool false]) := by
                show _ = _
                rw [HH.out, if_neg (by rw [oks_no true _ k hkl (by rw [hcl, okb_true, hf]; rfl)]; exact Bool.false_ne_true)]
                rfl
              have hfc := fun w => refForbidden_any c true w
              rw [hf] at hfc
              have HF := hid hfc
              clear hkl hcl hf hfc
              go_wp2_with fail
              refine (HF.out _).mono ?_
              rintro e w2 ⟨rfl, rfl⟩
              go_wp2
              go_ret2
              exact ⟨by rw [HE.out]; rfl, HB2.out⟩
            | false =>
              by_cases h126 : (126 : Int) < (c.toNat : Int)
              · have HE : Hid (H = .tuple #[.string (strOf []), .bool false]) := by
                  show _ = _
                  rw [HH.out, if_neg]
                  · rfl
                  · rw [oks_no true _ k hkl (by rw [hcl, okb_true, decide_eq_false (by omega), Bool.and_false])]
                    exact Bool.false_ne_true
                have hfc := fun w => refForbidden_any c true w
                rw [hf] at hfc
                have HF := hid hfc
                clear hkl hcl hf hfc
                go_wp2_with fail
                refine (HF.out _).mono ?_
                rintro e w2 ⟨rfl, rfl⟩
                go_wp2
                go_ret2
                exact ⟨by rw [HE.out]; rfl, HB2.out⟩
              · have hc126 : ¬ (126 : Int) < (c.toNat : Int) := h126
                have HN : Hid (oks true (M.data.toList.take (k + 1)) = true) := by
                  show _ = _
                  rw [oks_take_succ true _ k hkl, HO.out, hcl]
                  unfold okb
                  rw [hf]
                  rw [decide_eq_true (by omega)]; rfl
                have hfc := fun w => refForbidden_any c true w
                rw [hf] at hfc
                have HF := hid hfc
                clear hkl hcl hf hfc
                go_wp2_with fail
                refine (HF.out _).mono ?_
                rintro e w2 ⟨rfl, rfl⟩
                go_wp2
                go_roundw
                case rel => exact ⟨k + 1, by omega, by go_num, by first | rfl | trivial, HN.out⟩
                case measure => simp [intOf]; omega
          · have hO : oks true M.data.toList = true := by
              have := HO.out
              rw [List.take_of_length_le (by rw [HLM.out]; omega)] at this
              exact this
            have hH3 : H = HV (dm2 M.data.toList) := by rw [HH.out, if_pos hO]
            have hend := fun w => QudD.refEnds_any M w HM9.out
            clear hO HO HH
            by_cases hM0 : M.data.toList = []
            · have HE : Hid (H = .tuple #[.string (strOf []), .bool false]) := by show _ = _; rw [hH3, hM0]; rfl
              have hq : M.toList = [] := by rw [Lib.toList_data]; exact hM0
              have hq2 : (M.toList == []) = true := by rw [hq]; rfl
              clear hend hM0 hH3 hq
              go_wp2
              go_ret2
              exact ⟨by rw [HE.out]; rfl, HB2.out⟩
            · have hq : (M.toList == []) = false := by
                rw [Lib.toList_data, beq_eq_false_iff_ne]
                exact hM0
              have hq2 : M.toList.isEmpty = false := by rw [Lib.toList_data]; simpa using hM0
              have hq3 : ¬ M.toList = [] := by rw [Lib.toList_data]; exact hM0
              cases he : ends M.data.toList with
              | false =>
                rw [he] at hend
                have HEN := hid hend
                have HE : Hid (H = .tuple #[.string M, .bool true]) := by
                  show _ = _
                  rw [hH3]
                  unfold dm2
                  rw [if_neg hM0, he, if_neg (by simp)]
                  show Value.tuple #[.string (strOf M.data.toList), .bool true] = _
                  rw [strOf_toList]
                clear hend he hM0 hH3
                go_wp2_with fail
                refine (HEN.out _).mono ?_
                rintro e w3 ⟨rfl, hb3⟩
                have HB3 := hid (bel HB2.out hb3)
                clear hb3
                go_wp2
                go_ret2
                exact ⟨by rw [HE.out]; rfl, HB3.out⟩
              | true =>
                rw [he] at hend
                have HEN := hid hend
                have hH4 : H = HV ((prs M.data.toList).map QudG.pr) := by rw [hH3]; unfold dm2; rw [if_neg hM0, he, if_pos rfl]
                have hpa := fun w => QudF.refParse_any M w HM9.out
                clear hend he hM0 hH3
                cases hp : prs M.data.toList with
                | none =>
                  rw [hp] at hpa hH4
                  have HE : Hid (H = .tuple #[.string (strOf []), .bool false]) := by show _ = _; rw [hH4]; rfl
                  have HV2 : Hid (QudE.PrsV none = .tuple #[.int .u32 0, .bool false]) := QudE.prsV_none _ rfl
                  rw [HV2.out] at hpa
                  have HP := hid hpa
                  clear hpa hH4 hp
                  go_wp2_with fail
                  refine (HEN.out _).mono ?_
                  rintro e w3 ⟨rfl, hb3⟩
                  have HB3 := hid (bel HB2.out hb3)
                  clear hb3
                  go_wp2_with fail
                  refine (HP.out _).mono ?_
                  rintro e w4 ⟨rfl, hb4⟩
                  have HB4 := hid (bel HB3.out hb4)
                  clear hb4
                  go_wp2
                  go_ret2
                  exact ⟨by rw [HE.out]; rfl, HB4.out⟩
                | some n =>
                  have hn := prs_lt hp
                  rw [hp] at hpa hH4
                  obtain ⟨R, hR⟩ : ∃ R : ByteArray, R = strOf (QudG.pr n) := ⟨_, rfl⟩
                  have HE : Hid (H = .tuple #[.string R, .bool true]) := by show _ = _; rw [hH4, hR]; rfl
                  have HV2 : Hid (QudE.PrsV (some n) = .tuple #[.int .u32 (n : Int), .bool true]) := QudE.prsV_some _ n rfl
                  rw [HV2.out] at hpa
                  have HP := hid hpa
                  have HPR : Hid (∀ w, Calls Tryz.prog 79 #[.int .u32 (n : Int)] w fun e w' => e = .returned (.string R) ∧ Below w.heap.size w w') := by
                    show ∀ w, _
                    rw [hR]
                    exact fun w => QudH.refPrint_any n hn w
                  clear hpa hH4 hp hn hR
                  go_wp2_with fail
                  refine (HEN.out _).mono ?_
                  rintro e w3 ⟨rfl, hb3⟩
                  have HB3 := hid (bel HB2.out hb3)
                  clear hb3
                  go_wp2_with fail
                  refine (HP.out _).mono ?_
                  rintro e w4 ⟨rfl, hb4⟩
                  have HB4 := hid (bel HB3.out hb4)
                  clear hb4
                  go_wp2_with fail
                  refine (HPR.out _).mono ?_
                  rintro e w5 ⟨rfl, hb5⟩
                  have HB5 := hid (bel HB4.out hb5)
                  clear hb5
                  go_wp2
                  go_ret2
                  exact ⟨by rw [HE.out]; rfl, HB5.out⟩
    | false =>
      have HH : Hid (H = HV (plc s.data.toList)) := by show _ = _; rw [hH]; unfold hst; rw [if_neg hh, if_neg (by simp)]
      clear hH
      rcases Nat.eq_zero_or_pos s.size with h0 | h0
      · have hq : s.toList = [] := str_nil h0
        have hq2 : (s.toList == []) = true := by rw [hq]; rfl
        clear hh h0 hs hq
        go_enter Tryz.func49, Tryz.ntmps49
        go_wp2
        go_loopw [8, 50] (fun _ vk wr => ∃ k : Nat, k ≤ s.size ∧ vk = .int .i64 (k : Int) ∧ wr = w ∧ Hid (oks false (s.data.toList.take k) = true)) (fun _ vk _ => s.size - (intOf vk).toNat)
        case atStart => exact ⟨0, Nat.zero_le _, rfl, rfl, rfl⟩
        case round =>
          obtain ⟨k, hk, rfl, rfl, HO⟩ := hrel
          have hmz : s.size ≤ 900000 := HS9.out
          by_cases hlt : k < s.size
          · obtain ⟨c, hc⟩ : ∃ c, s[k] = c := ⟨_, rfl⟩
            have hkl : k < s.data.toList.length := by rw [HLE.out]; exact hlt
            have hcl : s.data.toList[k] = c := hc
            cases hf : fbd false c with
            | true =>
              have HE : Hid (H = .tuple #[.string (strOf []), .bool false]) := by
                show _ = _
                rw [HH.out]; unfold plc; rw [oks_no false _ k hkl (by rw [hcl]; unfold okb; rw [hf]; rfl)]; rfl
              have hfc := fun w => refForbidden_any c false w
              rw [hf] at hfc
              have HF := hid hfc
              clear hkl hcl hf hfc
              go_wp2_with fail
              refine (HF.out _).mono ?_
              rintro e w2 ⟨rfl, rfl⟩
              go_wp2
              go_ret2
              exact ⟨by rw [HE.out]; rfl, Below.refl _ _⟩
            | false =>
              have HN : Hid (oks false (s.data.toList.take (k + 1)) = true) := by
                show _ = _
                rw [oks_take_succ false _ k hkl, HO.out, hcl]
                unfold okb
                rw [hf]
                rfl
              have hfc := fun w => refForbidden_any c false w
              rw [hf] at hfc
              have HF := hid hfc
              clear hkl hcl hf hfc
              go_wp2_with fail
              refine (HF.out _).mono ?_
              rintro e w2 ⟨rfl, rfl⟩
              go_wp2
              go_roundw
              case rel => exact ⟨k + 1, by omega, by go_num, by first | rfl | trivial, HN.out⟩
              case measure => simp [intOf]; omega
          · have hO : oks false s.data.toList = true := by
              have := HO.out
              rw [List.take_of_length_le (by rw [HLE.out]; omega)] at this
              exact this
            obtain ⟨R, hR⟩ : ∃ R : ByteArray, R = strOf (EscE.enc 0 s.data.toList) := ⟨_, rfl⟩
            have HE : Hid (H = .tuple #[.string R, .bool true]) := by
              show _ = _
              rw [HH.out]
              unfold plc
              rw [if_pos hO, hR]
              rfl
            have HEC : Hid (∀ w, Calls Tryz.prog 76 #[.int .i64 0, .string s] w fun e w' => e = .returned (.string R) ∧ Below w.heap.size w w') := by
              show ∀ w, _
              rw [hR]
              exact fun w => enc0_any s w (by have := HS9.out; omega)
            clear hO HO HH hR
            go_wp2_with fail
            refine (HEC.out _).mono ?_
            rintro e w3 ⟨rfl, hb3⟩
            go_wp2
            go_ret2
            exact ⟨by rw [HE.out]; rfl, hb3⟩
      · obtain ⟨hq, hq2, hq3, x, hx0, hx, hxn⟩ := first_byte s h0 hh
        have h0i : (0 : Int) < (s.size : Int) := by omega
        clear hh hs
        go_enter Tryz.func49, Tryz.ntmps49
        go_wp2
        go_loopw [8, 50] (fun _ vk wr => ∃ k : Nat, k ≤ s.size ∧ vk = .int .i64 (k : Int) ∧ wr = w ∧ Hid (oks false (s.data.toList.take k) = true)) (fun _ vk _ => s.size - (intOf vk).toNat)
        case atStart => exact ⟨0, Nat.zero_le _, rfl, rfl, rfl⟩
        case round =>
          obtain ⟨k, hk, rfl, rfl, HO⟩ := hrel
          have hmz : s.size ≤ 900000 := HS9.out
          by_cases hlt : k < s.size
          · obtain ⟨c, hc⟩ : ∃ c, s[k] = c := ⟨_, rfl⟩
            have hkl : k < s.data.toList.length := by rw [HLE.out]; exact hlt
            have hcl : s.data.toList[k] = c := hc
            cases hf : fbd false c with
            | true =>
              have HE : Hid (H = .tuple #[.string (strOf []), .bool false]) := by
                show _ = _
                rw [HH.out]; unfold plc; rw [oks_no false _ k hkl (by rw [hcl]; unfold okb; rw [hf]; rfl)]; rfl
              have hfc := fun w => refForbidden_any c false w
              rw [hf] at hfc
              have HF := hid hfc
              clear hkl hcl hf hfc
              go_wp2_with fail
              refine (HF.out _).mono ?_
              rintro e w2 ⟨rfl, rfl⟩
              go_wp2
              go_ret2
              exact ⟨by rw [HE.out]; rfl, Below.refl _ _⟩
            | false =>
              have HN : Hid (oks false (s.data.toList.take (k + 1)) = true) := by
                show _ = _
                rw [oks_take_succ false _ k hkl, HO.out, hcl]
                unfold okb
                rw [hf]
                rfl
              have hfc := fun w => refForbidden_any c false w
              rw [hf] at hfc
              have HF := hid hfc
              clear hkl hcl hf hfc
              go_wp2_with fail
              refine (HF.out _).mono ?_
              rintro e w2 ⟨rfl, rfl⟩
              go_wp2
              go_roundw
              case rel => exact ⟨k + 1, by omega, by go_num, by first | rfl | trivial, HN.out⟩
              case measure => simp [intOf]; omega
          · have hO : oks false s.data.toList = true := by
              have := HO.out
              rw [List.take_of_length_le (by rw [HLE.out]; omega)] at this
              exact this
            obtain ⟨R, hR⟩ : ∃ R : ByteArray, R = strOf (EscE.enc 0 s.data.toList) := ⟨_, rfl⟩
            have HE : Hid (H = .tuple #[.string R, .bool true]) := by
              show _ = _
              rw [HH.out]
              unfold plc
              rw [if_pos hO, hR]
              rfl
            have HEC : Hid (∀ w, Calls Tryz.prog 76 #[.int .i64 0, .string s] w fun e w' => e = .returned (.string R) ∧ Below w.heap.size w w') := by
              show ∀ w, _
              rw [hR]
              exact fun w => enc0_any s w (by have := HS9.out; omega)
            clear hO HO HH hR
            go_wp2_with fail
            refine (HEC.out _).mono ?_
            rintro e w3 ⟨rfl, hb3⟩
            go_wp2
            go_ret2
            exact ⟨by rw [HE.out]; rfl, hb3⟩
end Go.Proofs.YtleecmapaihhmaaGreatDoor.HstD
