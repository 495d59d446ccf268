/- The document's own Decode of layer 2: what escape.Decode means. -/
import Derived.Test.YtnmkkejodkjjiaaDoorEscD
import Derived.IntWalk
namespace Go.Proofs.YtnmkkejodkjjiaaDoor.EscF
open Go.RowKit Go.Proofs.YtnmkkejodkjjiaaDoor.Base Go.Proofs.YtnmkkejodkjjiaaDoor.UtfA Go.Proofs.YtnmkkejodkjjiaaDoor.EscD

theorem str_rest (R : List UInt8) (k : Nat) (h : k ≤ R.length) : (strOf R).extract k (strOf R).size = strOf (R.drop k) := by
  have e := extract_drop (strOf R) k (by rw [size_strOf]; exact h)
  have e2 : (strOf R).data.toList = R := rfl
  rw [e2] at e
  rw [← strOf_toList ((strOf R).extract k (strOf R).size), e]
theorem esc_hex (a b c : UInt8) (t : List UInt8) : (a = 37 ∧ 0 ≤ hex b.toNat ∧ 0 ≤ hex c.toNat → esc (a :: b :: c :: t) = some (UInt8.ofNat (16 * hex b.toNat + hex c.toNat).toNat)) ∧ (¬ (a = 37 ∧ 0 ≤ hex b.toNat ∧ 0 ≤ hex c.toNat) → esc (a :: b :: c :: t) = none) := by
  constructor <;> intro h
  · rw [esc, if_pos h]
  · rw [esc, if_neg h]
theorem hexr (c : Int) (w : World) : Calls Tryd.prog 47 #[.int .u8 c] w fun e w' => e = .returned (.int .i64 (hex c)) ∧ w' = w :=
  (RefA.hex_any c w).mono fun _ _ ⟨he, hw⟩ => ⟨he, hw.symm⟩
theorem one_one (a : Int) : ∀ u ∈ [Value.int .u8 a], u.oneCell' = true := by
  intro u hu
  simp at hu
  subst hu
  rfl
attribute [local go_sem ↓] Go.wp_at_zero Go.wp_at_succ
def lenOf : Value → Nat
  | .string q => q.size
  | _ => 0
set_option maxHeartbeats 4000000 in
set_option maxRecDepth 100000 in
theorem decode_ref (s : ByteArray) (w : World) (hs : s.size ≤ 1073741824) : Calls Tryd.prog 36 #[.string s] w fun e w' => e = .returned (.string (strOf (dec s.data.toList))) ∧ Below w.heap.size w w' := by
  obtain ⟨i0, hi, hz0, hz1, hz2⟩ := info_parts info_u8
  obtain ⟨R0, hR0⟩ : ∃ R0, R0 = s.data.toList := ⟨_, rfl⟩
  have hs0 : s = strOf R0 := by rw [hR0]; exact (strOf_toList s).symm
  subst hs0
  rw [size_strOf] at hs
  rw [← hR0]
  clear hR0
  go_enter Tryd.func36, Tryd.ntmps36
  go_wp2
  go_loopw [0, 3] (fun vs v wr => ∃ (R X : List UInt8), R.length + X.length ≤ 1073741824 ∧ vs = .string (strOf R) ∧ wr.ownsRow w.heap.size 5 1 v X.length (bcells X) ∧ Below w.heap.size w wr ∧ Hid (X ++ dec R = dec R0)) (fun vs _ _ => lenOf vs)
  case atStart => exact ⟨R0, [], by simpa using hs, rfl, World.ownsRow_nil _ _ _ _, Below.refl _ _, rfl⟩
  case round =>
    obtain ⟨R, X, hlen, rfl, hown, hbel, HT⟩ := hrel
    cases R with
    | nil =>
      have HE : Hid (X = dec R0) := by
        have e := HT.out
        rw [dec_nil, List.append_nil] at e
        exact e
      have hsz : (strOf []).size = 0 := rfl
      rw [HE.out] at hown
      obtain ⟨A', c', rfl, _, _, hrd⟩ := owns_form hown
      have hst := run_string_of 40 9 5 Tryd.underlying40 Tryd.underlying5 Tryd.underlying9 _ c' hrd
      go_wp2
      go_ret
      exact ⟨rfl, hbel⟩
    | cons a t =>
      have hsz : (strOf (a :: t)).size = t.length + 1 := by rw [size_strOf, List.length_cons]
      have hx0 : ∀ h : 0 < (strOf (a :: t)).size, (strOf (a :: t))[0]'h = a := fun _ => rfl
      have hc1 : (strOf (a :: t)).extract 1 (t.length + 1) = strOf t := by
        have := str_rest (a :: t) 1 (by simp)
        rw [hsz] at this
        exact this
      have hlen' : t.length + 1 + X.length ≤ 1073741824 := by simpa using hlen
      by_cases h37 : a = 37
      · subst h37
        have t37 : (((37 : UInt8).toNat : Int) == 37) = true := by decide
        by_cases h3 : t.length < 2
        · have HN : Hid (dec (37 :: t) = 37 :: dec t) := dec_none _ _ (by
            match t, h3 with
            | [], _ => rfl
            | [_], _ => rfl)
          have h3' : ¬ (2 : Int) < (t.length : Int) + 1 := by omega
          go_wp2_with (at_builtin; refine wpList_app rfl _ _ 40 rfl w.heap.size 5 i0 (.int .u8 0) 1 Tryd.underlying40 hi hz0 hz1 hz2 rfl _ X.length _ rfl hown hbel hbel.size [.int .u8 37] 1 rfl rfl (by intro u hu; simp at hu; subst hu; rfl) (by unfold maxLen; omega) (by omega) ?_)
          intro v' w3 hown3 hbel3
          clear hown hbel
          go_wp2
          go_roundw
          case rel => exact ⟨t, X ++ [37], by simp at hlen' ⊢; omega, rfl, by rw [bcells_append, List.length_append]; exact hown3, hbel3, by
              rw [List.append_assoc]
              have := HT.out
              rw [HN.out] at this
              exact this⟩
          case measure => simp [lenOf, size_strOf]

        · obtain ⟨b, c, t', rfl⟩ : ∃ b c t', t = b :: c :: t' := by
            match t, h3 with
            | b :: c :: t', _ => exact ⟨b, c, t', rfl⟩
            | [], h => simp at h
            | [_], h => simp at h
          clear h3
          have h3' : (2 : Int) < (((b :: c :: t').length : Nat) : Int) + 1 := by simp; omega
          have hx1 : ∀ h : 1 < (strOf (37 :: b :: c :: t')).size, (strOf (37 :: b :: c :: t'))[1]'h = b := fun _ => rfl
          have hx2 : ∀ h : 2 < (strOf (37 :: b :: c :: t')).size, (strOf (37 :: b :: c :: t'))[2]'h = c := fun _ => rfl
          have hc3 : (strOf (37 :: b :: c :: t')).extract 3 ((b :: c :: t').length + 1) = strOf t' := by
            have := str_rest (37 :: b :: c :: t') 3 (by simp)
            rw [hsz] at this
            exact this
          obtain ⟨hb1, hb2⟩ := hex_le b
          obtain ⟨hd1, hd2⟩ := hex_le c
          obtain ⟨HY, HZ⟩ := esc_hex 37 b c t'
          obtain ⟨m, hm⟩ : ∃ m, m = (b :: c :: t').length := ⟨_, rfl⟩
          have hm' : m = t'.length + 2 := by rw [hm]; simp
          rw [← hm] at hsz hc1 hc3 h3' hlen'
          have HM := hid hm'
          clear hm hm'
          by_cases hx : hex b.toNat < 0
          · have HN : Hid (dec (37 :: b :: c :: t') = 37 :: dec (b :: c :: t')) := dec_none _ _ (HZ (by intro h; omega))
            clear HY HZ
            go_wp2_with fail
            refine (hexr _ _).mono ?_
            rintro e w2 ⟨rfl, hw⟩
            subst hw
            go_wp2_with (at_builtin; refine wpList_app rfl _ _ 40 rfl w.heap.size 5 i0 (.int .u8 0) 1 Tryd.underlying40 hi hz0 hz1 hz2 rfl _ X.length _ rfl hown hbel hbel.size [.int .u8 37] 1 rfl rfl (by intro u hu; simp at hu; subst hu; rfl) (by unfold maxLen; omega) (by omega) ?_)
            intro v' w3 hown3 hbel3
            clear hown hbel
            go_wp2
            go_roundw
            case rel => exact ⟨b :: c :: t', X ++ [37], by simp; have := HM.out; omega, rfl, by rw [bcells_append, List.length_append]; exact hown3, hbel3, by
                rw [List.append_assoc]
                have := HT.out
                rw [HN.out] at this
                exact this⟩
            case measure => simp [lenOf, size_strOf]
          · have hx' : 0 ≤ hex b.toNat := by omega
            clear hx hb1
            by_cases hy : hex c.toNat < 0
            · have HN : Hid (dec (37 :: b :: c :: t') = 37 :: dec (b :: c :: t')) := dec_none _ _ (HZ (by intro h; omega))
              clear HY HZ
              go_wp2_with fail
              refine (hexr _ _).mono ?_
              rintro e w2 ⟨rfl, hw⟩
              subst hw
              go_wp2_with fail
              refine (hexr _ _).mono ?_
              rintro e w2 ⟨rfl, hw⟩
              subst hw
              go_wp2_with (at_builtin; refine wpList_app rfl _ _ 40 rfl w.heap.size 5 i0 (.int .u8 0) 1 Tryd.underlying40 hi hz0 hz1 hz2 rfl _ X.length _ rfl hown hbel hbel.size [.int .u8 37] 1 rfl rfl (by intro u hu; simp at hu; subst hu; rfl) (by unfold maxLen; omega) (by omega) ?_)
              intro v' w3 hown3 hbel3
              clear hown hbel
              go_wp2
              go_roundw
              case rel => exact ⟨b :: c :: t', X ++ [37], by simp; have := HM.out; omega, rfl, by rw [bcells_append, List.length_append]; exact hown3, hbel3, by
                  rw [List.append_assoc]
                  have := HT.out
                  rw [HN.out] at this
                  exact this⟩
              case measure => simp [lenOf, size_strOf]
            · have hy' : 0 ≤ hex c.toNat := by omega
              clear hy hd1
              have HN : Hid (dec (37 :: b :: c :: t') = UInt8.ofNat (16 * hex b.toNat + hex c.toNat).toNat :: dec t') := by
                rw [dec_some _ _ _ (HY ⟨rfl, hx', hy'⟩)]
                exact rfl
              clear HY HZ
              have HU : Hid (((UInt8.ofNat (16 * hex b.toNat + hex c.toNat).toNat).toNat : Int) = 16 * hex b.toNat + hex c.toNat) := u8_of _ (by omega) (by omega)
              go_wp2_with fail
              refine (hexr _ _).mono ?_
              rintro e w2 ⟨rfl, hw⟩
              subst hw
              go_wp2_with fail
              refine (hexr _ _).mono ?_
              rintro e w2 ⟨rfl, hw⟩
              subst hw
              have s1 : IntKind.i64.wrap (16 * hex b.toNat) = 16 * hex b.toNat := IntWalk.i64_in _ (by omega)
              have s2 : IntKind.i64.wrap (16 * hex b.toNat + hex c.toNat) = 16 * hex b.toNat + hex c.toNat := IntWalk.i64_in _ (by omega)
              have s3 : (16 * hex b.toNat + hex c.toNat) % 256 = 16 * hex b.toNat + hex c.toNat := by omega
              have s4 : IntKind.u8.wrap (16 * hex b.toNat + hex c.toNat) = 16 * hex b.toNat + hex c.toNat := by rw [IntKind.wrap_u8]; omega
              go_wp2
              have s5 : (1 : Int) < (m : Int) + 1 := by omega
              go_region_held3 (fun _ => True) (trivial) (first | (go_at_call 47; refine (hexr _ _).mono ?_; rintro e w' ⟨rfl, rfl⟩) | (refine step_app (by rfl) _ _ 40 (by rfl) w.heap.size 5 i0 (.int .u8 0) 1 Tryd.underlying40 hi hz0 hz1 hz2 (by rfl) _ X.length _ (by rfl) hown hbel hbel.size [.int .u8 (16 * hex b.toNat + hex c.toNat)] 1 (by rfl) (by decide) (by rfl) (one_one _) (by unfold maxLen; omega) (by omega) ⟨⟨rfl, rfl, rfl, Nat.le_refl _, fun _ _ => rfl⟩, fun _ => rfl, by simp⟩ ?_; intro v' w3 hown3 hbel3))
              go_goals
              all_goals
                clear hown hbel s1 s2 s3 s4 s5
                go_wp2
                go_roundw
                case rel => exact ⟨t', X ++ [UInt8.ofNat (16 * hex b.toNat + hex c.toNat).toNat], by simp; have := HM.out; omega, rfl, by
                    rw [bcells_append, List.length_append]
                    show World.ownsRow _ _ _ _ _ _ (bcells X ++ [Value.int .u8 ((UInt8.ofNat (16 * hex b.toNat + hex c.toNat).toNat).toNat : Int)])
                    rw [HU.out]
                    exact hown3, hbel3, by
                    rw [List.append_assoc]
                    have := HT.out
                    rw [HN.out] at this
                    exact this⟩
                case measure => simp [lenOf, size_strOf]; omega
      · have HN : Hid (dec (a :: t) = a :: dec t) := dec_none _ _ (by
          match t with
          | [] => rfl
          | [_] => rfl
          | _ :: _ :: _ => rw [esc, if_neg (by intro h; exact h37 h.1)])
        have t37 : ((a.toNat : Int) == 37) = false := by
          simp
          intro h
          exact h37 (UInt8.toNat_inj.1 (by simp; omega))
        clear h37
        go_wp2_with (at_builtin; refine wpList_app rfl _ _ 40 rfl w.heap.size 5 i0 (.int .u8 0) 1 Tryd.underlying40 hi hz0 hz1 hz2 rfl _ X.length _ rfl hown hbel hbel.size [.int .u8 (a.toNat : Int)] 1 rfl rfl (by intro u hu; simp at hu; subst hu; rfl) (by unfold maxLen; omega) (by omega) ?_)
        intro v' w3 hown3 hbel3
        clear hown hbel
        go_wp2
        go_roundw
        case rel => exact ⟨t, X ++ [a], by simp at hlen ⊢; omega, rfl, by rw [bcells_append, List.length_append]; exact hown3, hbel3, by
            rw [List.append_assoc]
            have := HT.out
            rw [HN.out] at this
            exact this⟩
        case measure => simp [lenOf, size_strOf]

end Go.Proofs.YtnmkkejodkjjiaaDoor.EscF
