/- The walk of the law PathPlain: it returns true, whatever it is called with. -/
import Derived.Test.YtpodicomfmkpcaaPthQ
import Derived.Deep.Cut
namespace Go.Proofs.Ytpodicomfmkpcaa.Laws
open Go.RowKit Go.Proofs.Ytpodicomfmkpcaa.Base Go.Proofs.Ytpodicomfmkpcaa.Base2 Go.Proofs.Ytpodicomfmkpcaa.Base3 Go.Proofs.Ytpodicomfmkpcaa.PthP Go.Proofs.Ytpodicomfmkpcaa.PthE Go.Proofs.Ytpodicomfmkpcaa.PthG Go.Proofs.Ytpodicomfmkpcaa.PthH Go.Proofs.Ytpodicomfmkpcaa.PthI Go.Proofs.Ytpodicomfmkpcaa.PthJ Go.Proofs.Ytpodicomfmkpcaa.PthL Go.Proofs.Ytpodicomfmkpcaa.PthM Go.Proofs.Ytpodicomfmkpcaa.PthN Go.Proofs.Ytpodicomfmkpcaa.PthQ

theorem yk_size (k : Nat) : (strOf (yk k)).size = 2 := rfl
set_option linter.unusedSimpArgs false in
set_option maxRecDepth 100000 in
set_option maxHeartbeats 4000000 in
theorem PathPlain_any (file sp : Bool) (A : Option Addr) (n cap : Nat) (l : List ByteArray) (z : Int) (w : World) (hR : Rds w A n (l.map Value.string)) (hnc : n ≤ cap) (hcm : cap ≤ maxLen) (_hk : ∀ s ∈ l, s.size ≤ maxLen) (hz : 0 ≤ z ∧ z ≤ 255) :
    Calls Try.prog 6 #[.bool file, .bool sp, .slice A n cap, .int .u8 z] w fun e w' => e = .returned (.bool true) ∧ Below w.heap.size w w' := by
  obtain ⟨i0, hi, hz0, hz1, hz2⟩ := info_parts info_str
  have hln : l.length = n := by rw [← hR.1, List.length_map]
  have HLN := hid hln
  have HR := hid hR
  obtain ⟨F, hF⟩ : ∃ F, F = PthW.fewB l := ⟨_, rfl⟩
  have HF := hid hF
  clear hR hF hln
  go_enter Try.func6, Try.ntmps6
  go_wp2_with fail
  refine (PthW.awake_any _).mono ?_
  rintro e w2 ⟨rfl, hb2⟩
  go_wp2_with fail
  refine (PthW.few_any _ _ _ _ _ (HR.out.below hb2) hnc hcm).mono ?_
  rintro e w3 ⟨rfl, hw3⟩
  subst hw3
  rw [← HF.out]
  cases F with
  | false =>
    go_wp2_with fail
    refine (PthW.awake_any _).mono ?_
    rintro e w3 ⟨rfl, hb3⟩
    go_wp2
    go_ret
    exact ⟨rfl, bel hb2 hb3⟩
  | true =>
    have hn20 : n ≤ 20 := by
      have h := HF.out.symm
      unfold PthW.fewB at h
      rw [Bool.and_eq_true] at h
      have := of_decide_eq_true h.2
      rw [HLN.out] at this
      exact this
    obtain ⟨m, hm⟩ : ∃ m : Nat, (m : Int) = z % 20 := ⟨(z % 20).toNat, by omega⟩
    have hm20 : m < 20 := by omega
    have hmod : z.tmod 20 = (m : Int) := by rw [hm]; exact Int.tmod_eq_emod_of_nonneg hz.1
    have hm256 : (m : Int) < 256 := by omega
    clear hm
    have HB2 := hid hb2
    have hownA : (w2.alloc (.cells #[] 9)).ownsRow w.heap.size 9 1 (.slice (some ⟨w2.heap.size, 0, none⟩) 0 0) 0 [] := owns_base (World.ownsRow_made w2 #[] 0 (Nat.le_refl _) (by decide) rfl) hb2.size
    have hbelA : Below w.heap.size w (w2.alloc (.cells #[] 9)) := hb2.alloc hb2.size _
    have HRA : Hid (Rds (w2.alloc (.cells #[] 9)) A n (l.map Value.string)) := HR.out.below hbelA
    clear hb2
    go_wp2_with (at_builtin; refine wpList_app_any rfl _ _ 24 rfl w.heap.size 9 i0 (.string ByteArray.empty) 16 Try.underlying24 hi hz0 hz1 hz2 rfl _ 0 [] rfl hownA hbelA hbelA.size A n cap (l.map Value.string) rfl HRA.out (strs_one _) (by unfold maxLen; omega) (by omega) ?_)
    intro v3 w3 hown3 hbel3
    replace hown3 : w3.ownsRow w.heap.size 9 1 v3 n (l.map Value.string) := by simpa using hown3
    clear hownA hbelA HRA
    go_wp2_with (at_builtin; refine wpList_app rfl _ _ 24 rfl w.heap.size 9 i0 (.string ByteArray.empty) 16 Try.underlying24 hi hz0 hz1 hz2 rfl _ n _ rfl hown3 hbel3 hbel3.size [.string ⟨#[120, 48]⟩] 1 rfl rfl (by intro u hu; simp at hu; subst hu; rfl) (by unfold maxLen; omega) (by omega) ?_)
    intro v4 w4 hown4 hbel4
    have HO4 : Hid (w4.ownsRow w.heap.size 9 1 v4 (n + 1) ((l ++ (ys 0).map strOf).map Value.string)) := by
      show World.ownsRow _ _ _ _ _ _ _
      rw [List.map_append]
      exact hown4
    have HB4 := hid hbel4
    clear hown3 hbel3 hown4 hbel4
    go_wp2
    go_loopw [9, 10, 11, 12, 29] (fun vs vo _ _ vk wr => ∃ k : Nat, k ≤ m ∧ vk = .int .i64 (k : Int) ∧ vs = .string (strOf (joinL (ys k))) ∧ Hid (wr.ownsRow w.heap.size 9 1 vo (n + 1 + k) ((l ++ (ys k).map strOf).map Value.string)) ∧ Hid (Below w.heap.size w wr)) (fun _ _ _ _ vk _ => m - (intOf vk).toNat)
    case atStart => exact ⟨0, Nat.zero_le _, rfl, rfl, HO4, HB4⟩
    case round =>
      clear HO4 HB4
      obtain ⟨k, hk, rfl, rfl, HO, HB⟩ := hrel
      obtain ⟨X, hX⟩ : ∃ X, X = joinL (ys k) := ⟨_, rfl⟩
      have hXl : X.length ≤ 63 := by have := len_ys k; rw [hX]; omega
      rw [← hX]
      have HX := hid hX
      clear hX
      by_cases hlt : k < m
      · have hk256 : (k : Int) < 256 := by omega
        have hw1 : IntKind.u8.wrap (k : Int) = (k : Int) := by simp [IntKind.wrap, IntKind.bits, IntKind.signed]; omega
        have hw2 : IntKind.u8.wrap (97 + (k : Int)) = 97 + (k : Int) := by simp [IntKind.wrap, IntKind.bits, IntKind.signed]; omega
        have hst : (convert 32 9 (.slice (some ⟨wr.heap.size, 0, none⟩) 1 1)).run Try.prog (wr.alloc (.cells #[.int .u8 (97 + (k : Int))] 5)) = .ok (.string (strOf [UInt8.ofNat (97 + k)])) (wr.alloc (.cells #[.int .u8 (97 + (k : Int))] 5)) := by
          have h := rds_const wr [UInt8.ofNat (97 + k)] 5 (0, 0)
          have e : bcells [UInt8.ofNat (97 + k)] = [.int .u8 (97 + (k : Int))] := by
            simp [bcells]
            omega
          rw [e] at h
          rw [← e] at h
          have := run_string_of (P := Try.prog) 32 9 5 Try.underlying32 Try.underlying5 Try.underlying9 [UInt8.ofNat (97 + k)] 1 h
          rw [e] at this
          exact this
        have a1 : ∀ w : World, (Op.stringOp .add ⟨#[121]⟩ (strOf [UInt8.ofNat (97 + k)])).run Try.prog w = .ok (.string (strOf (yk k))) w := fun w => str_add [121] [UInt8.ofNat (97 + k)] w (by simp)
        have a2 : ∀ w : World, (Op.stringOp .add (strOf X) ⟨#[47]⟩).run Try.prog w = .ok (.string (strOf (X ++ [47]))) w := fun w => str_add X [47] w (by simp; omega)
        have a3 : ∀ w : World, (Op.stringOp .add (strOf (X ++ [47])) (strOf (yk k))).run Try.prog w = .ok (.string (strOf (X ++ [47] ++ yk k))) w := fun w => str_add (X ++ [47]) (yk k) w (by simp [yk]; omega)
        have HXX : Hid (joinL (ys (k + 1)) = X ++ [47] ++ yk k) := by show _ = _; rw [ys_succ, joinL_snoc _ _ (ys_ne k), HX.out]
        obtain ⟨Y, hY⟩ : ∃ Y, Y = strOf (X ++ [47] ++ yk k) := ⟨_, rfl⟩
        obtain ⟨Y1, hY1⟩ : ∃ Y1, Y1 = strOf (X ++ [47]) := ⟨_, rfl⟩
        obtain ⟨Y2, hY2⟩ : ∃ Y2, Y2 = strOf (yk k) := ⟨_, rfl⟩
        obtain ⟨Y3, hY3⟩ : ∃ Y3, Y3 = strOf [UInt8.ofNat (97 + k)] := ⟨_, rfl⟩
        rw [← hY, ← hY1, ← hY2] at a3
        rw [← hY1] at a2
        rw [← hY2, ← hY3] at a1
        rw [← hY3] at hst
        have HY := hid hY
        have HY2 := hid hY2
        clear hY hY1 hY2 hY3
        have hownB := HO.out.alloc (.cells #[.int .u8 (97 + (k : Int))] 5)
        have hbelB : Below w.heap.size w (wr.alloc (.cells #[.int .u8 (97 + (k : Int))] 5)) := HB.out.alloc HB.out.size _
        go_upto_region 9 with (fail)
        generalize hwB : wr.alloc _ = wB at hownB hbelB ⊢
        clear hwB hst
        go_wp2_with (at_builtin; refine wpList_app rfl _ _ 24 rfl w.heap.size 9 i0 (.string ByteArray.empty) 16 Try.underlying24 hi hz0 hz1 hz2 rfl _ (n + 1 + k) _ rfl hownB hbelB hbelB.size [.string Y2] 1 rfl rfl (by intro u hu; simp at hu; subst hu; rfl) (by unfold maxLen; omega) (by omega) ?_)
        intro v6 w6 hown6 hbel6
        have HO6 : Hid (w6.ownsRow w.heap.size 9 1 v6 (n + 1 + (k + 1)) ((l ++ (ys (k + 1)).map strOf).map Value.string)) := by
          show World.ownsRow _ _ _ _ _ _ _
          have e : l ++ (ys (k + 1)).map strOf = (l ++ (ys k).map strOf) ++ [Y2] := by rw [ys_succ, List.map_append, List.append_assoc, HY2.out]; rfl
          rw [e]
          show World.ownsRow _ _ _ _ _ (n + 1 + k + 1) _
          simpa using hown6
        have HB6 := hid hbel6
        clear hownB hbelB hown6 hbel6
        go_wp2
        go_roundw
        case rel => exact ⟨k + 1, by omega, by go_num, by rw [HXX.out, HY.out], HO6, HB6⟩
        case measure => simp [intOf]; omega
      · obtain rfl : k = m := by omega
        have HP := hid (plain file sp l k (by omega))
        obtain ⟨Z, hZ⟩ : ∃ Z, Z = strOf X := ⟨_, rfl⟩
        have hzs : Z.size ≤ 63 := by rw [hZ, size_strOf]; exact hXl
        have HZ : Hid (Z.data.toList = joinL (ys k)) := by show _ = _; rw [hZ, ← HX.out]; rfl
        rw [← hZ]
        clear hZ
        obtain ⟨vA, vc, rfl, hvnc, hvcm, hvR⟩ := owns_form HO.out
        have HVR := hid hvR
        clear hvR
        go_wp2_with fail
        refine (walk_any file sp A n cap l Z _ (HR.out.below HB.out) hnc hcm (by omega)).mono ?_
        rw [HZ.out, HP.out]
        rintro e w7 ⟨v7, rfl, hown7, hb7⟩
        obtain ⟨un, hun⟩ : ∃ un, un = (l ++ (ys k).map strOf).length := ⟨_, rfl⟩
        rw [← hun] at hown7
        have HUN := hid hun
        clear hun
        obtain ⟨uA, uc, rfl, hunc, hucm, huR⟩ := owns_form hown7
        have HUR := hid huR
        have HB7 : Hid (Below w.heap.size w w7) := bel HB.out hb7
        have HVR7 := hid (HVR.out.below hb7)
        clear huR hown7 hb7
        go_wp2_with fail
        refine (ref10_any _ _ _ _ _ _ _ _ _ HUR.out HVR7.out hunc hucm hvnc hvcm).mono ?_
        rintro e w8 ⟨rfl, hb8⟩
        rw [decide_eq_true rfl]
        go_wp2
        go_ret
        exact ⟨rfl, bel HB7.out hb8⟩
end Go.Proofs.Ytpodicomfmkpcaa.Laws
