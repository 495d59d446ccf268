/- The walk of the law UtfJoins: it returns true, whatever it is called with. -/
import Derived.Test.YtnkdejeapgichaaUtfW
import Derived.Test.YtnkdejeapgichaaRefV
import Derived.Test.YtnkdejeapgichaaBase3
namespace Go.Proofs.Ytnkdejeapgichaa.Laws
open Go.RowKit Go.Proofs.Ytnkdejeapgichaa.Base Go.Proofs.Ytnkdejeapgichaa.Base2 Go.Proofs.Ytnkdejeapgichaa.Base3 Go.Proofs.Ytnkdejeapgichaa.UtfR Go.Proofs.Ytnkdejeapgichaa.UtfP

set_option maxHeartbeats 4000000 in
theorem UtfJoins_any (A : Option Addr) (n cap : Nat) (L : List UInt8) (A' : Option Addr) (n' cap' : Nat) (M : List UInt8) (w : World)
    (hr : Rds w A n (bcells L)) (hc : n ≤ cap) (hm : cap * 1 ≤ 140737488351232) (hr' : Rds w A' n' (bcells M)) (hc' : n' ≤ cap') (hm' : cap' * 1 ≤ 140737488351232) :
    Calls Try.prog 5 #[.slice A n cap, .slice A' n' cap'] w fun e w' => e = .returned (.bool true) ∧ Below w.heap.size w w' := by
  have hl : L.length = n := by rw [← length_bcells]; exact hr.1
  have hl' : M.length = n' := by rw [← length_bcells]; exact hr'.1
  have HL := hid hl
  have HL' := hid hl'
  have HR := hid hr
  have HR' := hid hr'
  clear hl hl' hr hr'
  by_cases h5 : n + n' ≤ 1000
  · have hp : ¬ (1000 : Int) < (n : Int) + (n' : Int) := by omega
    clear hm hm'
    cases hv : val L
    · have HV := hid hv
      clear hv
      go_enter Try.func5, Try.ntmps5
      go_wp2_with fail
      refine (UtfW.awake_any _).mono ?_
      rintro e w1 ⟨rfl, hb1⟩
      have HR1 := hid (HR.out.below hb1)
      go_wp2_with fail
      refine (RefV.valid_any A n cap L _ HR1.out (by omega) hc).mono ?_
      rintro e w2 ⟨rfl, hb2⟩
      rw [HV.out]
      go_wp2_with fail
      refine (UtfW.awake_any _).mono ?_
      rintro e w3 ⟨rfl, hb3⟩
      go_wp2_with fail
      go_ret
      exact ⟨rfl, bel (bel hb1 hb2) hb3⟩
    · have HV := hid hv
      have HJ : Hid (dec (L ++ M) = dec L ++ dec M) := dec_join L M hv
      clear hv
      have HD1 : Hid ((dec L).length ≤ L.length) := RefV.dec_len L
      have HD2 : Hid ((dec M).length ≤ M.length) := RefV.dec_len M
      obtain ⟨i0, hi, hz0, hz1, hz2⟩ := info_parts info_u8
      obtain ⟨i1, hj, hy0, hy1, hy2⟩ := info_parts info21
      go_enter Try.func5, Try.ntmps5
      go_wp2_with fail
      refine (UtfW.awake_any _).mono ?_
      rintro e w1 ⟨rfl, hb1⟩
      have HR1 := hid (HR.out.below hb1)
      have HS1 := hid (HR'.out.below hb1)
      go_wp2_with fail
      refine (RefV.valid_any A n cap L _ HR1.out (by omega) hc).mono ?_
      rintro e w2 ⟨rfl, hb2⟩
      rw [HV.out]
      have HR2 := hid (HR1.out.below hb2)
      have HS2 := hid (HS1.out.below hb2)
      have hownA : (w2.alloc (.cells #[] 5)).ownsRow w2.heap.size 5 1 (.slice (some ⟨w2.heap.size, 0, none⟩) 0 0) 0 [] := World.ownsRow_made w2 #[] 0 (Nat.le_refl _) (by decide) rfl
      have hbelA : Below w2.heap.size w2 (w2.alloc (.cells #[] 5)) := (Below.refl _ _).alloc (Nat.le_refl _) _
      have HRA : Hid (Rds (w2.alloc (.cells #[] 5)) A n (bcells L)) := HR2.out.below hbelA
      go_wp2_with (at_builtin; refine wpList_app_any rfl _ _ 22 rfl w2.heap.size 5 i0 (.int .u8 0) 1 Try.underlying22 hi hz0 hz1 hz2 rfl _ 0 [] rfl hownA hbelA hbelA.size A n cap (bcells L) rfl HRA.out (bcells_one _) (by unfold maxLen; omega) (by omega) ?_)
      intro v3 w3 hown3 hbel3
      have HS3 := hid (HS2.out.below hbel3)
      clear hownA hbelA HRA
      go_wp2_with (at_builtin; refine wpList_app_any rfl _ _ 22 rfl w2.heap.size 5 i0 (.int .u8 0) 1 Try.underlying22 hi hz0 hz1 hz2 rfl _ n (bcells L) rfl hown3 hbel3 hbel3.size A' n' cap' (bcells M) rfl HS3.out (bcells_one _) (by unfold maxLen; omega) (by omega) ?_)
      intro v4 w4 hown4 hbel4
      rw [← bcells_append] at hown4
      have HR4 := hid (HR2.out.below hbel4)
      have HS4 := hid (HS2.out.below hbel4)
      clear hown3 hbel3 HS3
      obtain ⟨A4, c4, rfl, hc4, _, hr4⟩ := owns_form hown4
      have HX4 := hid hr4
      clear hr4 hown4
      go_wp2_with fail
      refine (decode_any A4 _ c4 (L ++ M) _ HX4.out (by omega) hc4).mono ?_
      rintro e w5 ⟨v, rfl, hown5, hb5⟩
      obtain ⟨D, HDE⟩ : ∃ D, D = dec L ++ dec M := ⟨_, rfl⟩
      rw [HJ.out, ← HDE] at hown5
      have HDD := hid HDE
      clear HDE
      obtain ⟨A5, c5, rfl, _, _, hr5⟩ := owns_form hown5
      have HR5 := hid (HR4.out.below hb5)
      have HS5 := hid (HS4.out.below hb5)
      have HX5 := hid hr5
      clear hr5 hown5
      go_wp2_with fail
      refine (decode_any A n cap L _ HR5.out (by omega) hc).mono ?_
      rintro e w6 ⟨v6, rfl, hown6, hb6⟩
      have HS6 := hid (HS5.out.below hb6)
      have HO6 := hid hown6
      clear hown6
      go_wp2_with fail
      refine (decode_any A' n' cap' M _ HS6.out (by omega) hc').mono ?_
      rintro e w7 ⟨v7, rfl, hown7, hb7⟩
      obtain ⟨A7, c7, rfl, _, _, hr7⟩ := owns_form hown7
      have hO7 := owns_below HO6.out hb7
      have hbel7 : Below w5.heap.size w5 w7 := bel hb6 hb7
      have hn1 : (dec L).length ≤ 1000 := by have := HD1.out; have := HL.out; omega
      have hn2 : (dec M).length ≤ 1000 := by have := HD2.out; have := HL'.out; omega
      have HDL : Hid (D.length ≤ 1073741824) := by show _ ≤ _; rw [HDD.out, List.length_append]; omega
      clear hown7
      go_wp2_with (at_builtin; refine wpList_app_any rfl _ _ 25 rfl w5.heap.size 21 i1 (.int .i32 0) 4 Try.underlying25 hj hy0 hy1 hy2 rfl _ (dec L).length (icells .i32 (dec L)) rfl hO7 hbel7 hbel7.size A7 (dec M).length c7 (icells .i32 (dec M)) rfl hr7 (icells_one _ _) (by unfold maxLen; omega) (by omega) ?_)
      intro v8 w8 hown8 hbel8
      rw [← icells_append, ← HDD.out] at hown8
      obtain ⟨A8, c8, rfl, _, _, hr8⟩ := owns_form hown8
      have HX8 := hid (HX5.out.below hbel8)
      have HY8 := hid hr8
      clear hr8 hr7 hO7 hbel7 hown8
      go_wp2_with fail
      refine (RefV.same_any A5 _ c5 D A8 _ c8 D _ HX8.out HY8.out HDL.out).mono ?_
      rintro e w9 ⟨rfl, hb9⟩
      rw [show (decide (D = D)) = true from decide_eq_true rfl]
      go_wp2_with fail
      go_ret
      exact ⟨rfl, bel (bel (bel (bel (bel hb1 hb2) hbel4) hb5) hbel8) hb9⟩
  · have hp : (1000 : Int) < (n : Int) + (n' : Int) := by omega
    have hn1 : n ≤ 281474976710656 := by omega
    have hn2 : n' ≤ 281474976710656 := by omega
    go_enter Try.func5, Try.ntmps5
    go_wp2_with fail
    refine (UtfW.awake_any _).mono ?_
    rintro e w1 ⟨rfl, hb1⟩
    go_wp2_with fail
    refine (UtfW.awake_any _).mono ?_
    rintro e w2 ⟨rfl, hb2⟩
    go_wp2_with fail
    go_ret
    exact ⟨rfl, bel hb1 hb2⟩
end Go.Proofs.Ytnkdejeapgichaa.Laws
