/- The walk of the law UtfBack: it returns true, whatever it is called with. -/
import Derived.Test.YtnkdejeapgichaaUtfW
import Derived.Test.YtnkdejeapgichaaRefV
import Derived.Test.YtnkdejeapgichaaRegs
import Derived.OpenShut
namespace Go.Proofs.Ytnkdejeapgichaa.Laws
open Go.RowKit Go.Proofs.Ytnkdejeapgichaa.Base Go.Proofs.Ytnkdejeapgichaa.Base2 Go.Proofs.Ytnkdejeapgichaa.UtfR Go.Proofs.Ytnkdejeapgichaa.UtfP Go.Proofs.Ytnkdejeapgichaa.Regs

theorem norm_snoc (l : List Int) (r : Int) : norm (l ++ [r]) = norm l ++ [if Chr r then r else 65533] := by simp [norm]
theorem norm_len (l : List Int) : (norm l).length = l.length := by simp [norm]
theorem bounds32 {z : Int} (h : (Lit.int .i32 z).wf = true) : UtfE.Rune z := Go.bounds_i32 h
set_option linter.unusedSimpArgs false in
set_option maxHeartbeats 4000000 in
set_option maxRecDepth 100000 in
theorem UtfBack_any (A : Option Addr) (n cap : Nat) (l : List Int) (A' : Option Addr) (n' cap' : Nat) (L : List UInt8) (w : World)
    (hr : Rds w A n (icells .i32 l)) (hc : n ≤ cap) (hm : cap ≤ maxLen) (hz : ∀ z ∈ l, (Lit.int .i32 z).wf = true) (hr' : Rds w A' n' (bcells L)) (hc' : n' ≤ cap') (hm' : cap' ≤ maxLen) :
    Calls Try.prog 4 #[.slice A n cap, .slice A' n' cap'] w fun e w' => e = .returned (.bool true) ∧ Below w.heap.size w w' := by
  have hl : l.length = n := by rw [← length_icells .i32]; exact hr.1
  have hl' : L.length = n' := by rw [← length_bcells]; exact hr'.1
  have HRU : Hid (∀ r ∈ l, UtfE.Rune r) := fun r hr => bounds32 (hz r hr)
  have HL := hid hl
  have HL' := hid hl'
  have HR := hid hr
  have HR' := hid hr'
  clear hl hl' hr hr' hz hm hm'
  by_cases h1 : n ≤ 300
  · have p1 : ¬ (300 : Int) < (n : Int) := by omega
    by_cases h2 : n' ≤ 1000
    · have p2 : ¬ (1000 : Int) < (n' : Int) := by omega
      obtain ⟨i1, hj, hy0, hy1, hy2⟩ := info_parts info21
      go_enter Try.func4, Try.ntmps4
      go_wp2_with fail
      refine (UtfW.awake_any _).mono ?_
      rintro e w1 ⟨rfl, hb1⟩
      have HR1 := hid (HR.out.below hb1)
      have HR1' := hid (HR'.out.below hb1)
      go_wp2
      go_loopw [5, 6, 24] (fun v _ vk wr => ∃ j : Nat, j ≤ n ∧ vk = .int .i64 j ∧ wr.ownsRow w1.heap.size 21 1 v j (icells .i32 (norm (l.take j))) ∧ Below w1.heap.size w1 wr) (fun _ _ vk _ => n - (intOf vk).toNat)
      case atStart => exact ⟨0, Nat.zero_le _, rfl, World.ownsRow_nil _ _ _ _, Below.refl _ _⟩
      case round =>
        obtain ⟨j, hjn, rfl, hown, hbelr⟩ := hrel
        by_cases hlt : j < n
        · obtain ⟨b, off, rfl, hb, _⟩ := (HR1.out).spot (by omega)
          obtain ⟨r, hx⟩ : ∃ r, r = l[j]'(by rw [HL.out]; exact hlt) := ⟨_, rfl⟩
          have hcell : wr.cell? ⟨b, off + j, none⟩ = some (.int .i32 r) := by
            rw [hx, ← HR1.out.int j (by rw [HL.out]; exact hlt)]
            exact hbelr.cell (p := ⟨b, off + j, none⟩) hb
          have HS : Hid (norm (l.take (j + 1)) = norm (l.take j) ++ [if Chr r then r else 65533]) := by
            rw [hx, ← norm_snoc]
            exact congrArg norm (List.take_succ_eq_append_getElem (by rw [HL.out]; exact hlt))
          clear hx
          go_wp2_with fail
          refine (RefC.char_any _ _).mono ?_
          rintro e w1 ⟨rfl, rfl⟩
          cases hcc : RefC.chrB r
          · have HS2 : Hid (norm (l.take (j + 1)) = norm (l.take j) ++ [65533]) := by
              have := HS.out
              rw [if_neg (of_decide_eq_false hcc)] at this
              exact this
            clear hcc
            go_wp2_with (at_builtin; refine wpList_app rfl _ _ 25 rfl w1.heap.size 21 i1 (.int .i32 0) 4 Try.underlying25 hj hy0 hy1 hy2 rfl _ j _ rfl hown hbelr hbelr.size [.int .i32 65533] 1 rfl rfl (icells_one .i32 [65533]) (by unfold maxLen; omega) (by omega) ?_)
            intro v4 w4 hown4 hbel4
            clear hown hbelr
            go_wp2
            go_roundw
            case rel => exact ⟨j + 1, by omega, by go_num, by rw [HS2.out, icells_append]; exact hown4, hbel4⟩
            case measure => simp [intOf]; omega
          · have HS2 : Hid (norm (l.take (j + 1)) = norm (l.take j) ++ [r]) := by
              have := HS.out
              rw [if_pos (of_decide_eq_true hcc)] at this
              exact this
            clear hcc
            go_wp2_with (at_builtin; refine wpList_app rfl _ _ 25 rfl w1.heap.size 21 i1 (.int .i32 0) 4 Try.underlying25 hj hy0 hy1 hy2 rfl _ j _ rfl hown hbelr hbelr.size [.int .i32 r] 1 rfl rfl (icells_one .i32 [r]) (by unfold maxLen; omega) (by omega) ?_)
            intro v4 w4 hown4 hbel4
            clear hown hbelr
            go_wp2
            go_roundw
            case rel => exact ⟨j + 1, by omega, by go_num, by rw [HS2.out, icells_append]; exact hown4, hbel4⟩
            case measure => simp [intOf]; omega
        · obtain rfl : j = n := by omega
          have HE : Hid (l.take j = l) := by rw [← HL.out]; exact List.take_length
          rw [HE.out] at hown
          obtain ⟨N, hN⟩ : ∃ N, N = norm l := ⟨_, rfl⟩
          obtain ⟨X, hX⟩ : ∃ X, X = UtfE.enc l := ⟨_, rfl⟩
          obtain ⟨D, hD⟩ : ∃ D, D = dec L := ⟨_, rfl⟩
          obtain ⟨Y, hY⟩ : ∃ Y, Y = UtfE.enc D := ⟨_, rfl⟩
          have HNL : Hid (N.length = j) := by rw [hN, norm_len]; exact HL.out
          have HXE : Hid (UtfE.enc l = X) := hX.symm
          have HXD : Hid (dec X = N) := by rw [hX, hN]; exact (dec_all l).1
          have HXV : Hid (val X = true) := by rw [hX]; exact (dec_all l).2
          have HDE : Hid (dec L = D) := hD.symm
          have HYE : Hid (UtfE.enc D = Y) := hY.symm
          have HYV : Hid (val Y = true) := by rw [hY]; exact (dec_all D).2
          have HVL : Hid (val L = decide (Y = L)) := by rw [hY, hD]; exact val_iff L
          have HDR : Hid (∀ r ∈ D, UtfE.Rune r) := by rw [hD]; exact fun r hr => chr_rune r (dec_chr L r hr)
          have HDL : Hid (D.length ≤ 1000) := by rw [hD]; have := RefV.dec_len L; have := HL'.out; show _ ≤ _; omega
          have HXL : Hid (X.length ≤ 1200) := by rw [hX]; have := (UtfE.enc_len l).1; have := HL.out; show _ ≤ _; omega
          have HYL : Hid (Y.length ≤ 4000) := by rw [hY]; have := (UtfE.enc_len D).1; have := HDL.out; show _ ≤ _; omega
          rw [← hN] at hown
          clear hN hX hD hY hlt hjn
          have hownW : wr.ownsRow w1.heap.size 21 1 u5 N.length (icells .i32 N) := by rw [HNL.out]; exact hown
          clear hown
          obtain ⟨Aw, cw, rfl, hcw, hmw, hrw⟩ := owns_form hownW
          clear hownW
          have HWr := hid hrw
          have HR2 := hid (HR1.out.below hbelr)
          have HR2' := hid (HR1'.out.below hbelr)
          clear hrw
          go_wp2_with fail
          refine (UtfE.encode_any A j cap l _ HR2.out HRU.out (by omega)).mono ?_
          rintro e w2 ⟨v2, rfl, hown2, hb2⟩
          rw [HXE.out] at hown2
          obtain ⟨Ax, cx, rfl, hcx, hmx, hrx⟩ := owns_form hown2
          have HX2 := hid hrx
          have HW2 := hid (HWr.out.below hb2)
          have HR3 := hid (HR2.out.below hb2)
          have HR3' := hid (HR2'.out.below hb2)
          clear hown2 hrx
          go_wp2_with fail
          refine (decode_any A' n' cap' L _ HR3'.out (by omega) hc').mono ?_
          rintro e w3 ⟨v3, rfl, hown3, hb3⟩
          rw [HDE.out] at hown3
          obtain ⟨Ad, cd, rfl, hcd, hmd, hrd⟩ := owns_form hown3
          have HD3 := hid hrd
          clear hown3 hrd
          go_wp2_with fail
          refine (UtfE.encode_any Ad D.length cd D _ HD3.out HDR.out (by have := HDL.out; omega)).mono ?_
          rintro e w4 ⟨v4, rfl, hown4, hb4⟩
          rw [HYE.out] at hown4
          obtain ⟨Ay, cy, rfl, hcy, hmy, hry⟩ := owns_form hown4
          have HY := hid hry
          have HX := hid ((HX2.out.below hb3).below hb4)
          have HW := hid ((HW2.out.below hb3).below hb4)
          have HR4 := hid ((HR3.out.below hb3).below hb4)
          have HR4' := hid ((HR3'.out.below hb3).below hb4)
          clear hown4 hry
          have hXn : X.length ≤ 1200 := HXL.out
          have hYn : Y.length ≤ 4000 := HYL.out
          have hNn : N.length ≤ 300 := by have := HNL.out; omega
          clear h1 h2 p1 p2
          go_wp2
          refine wp_region_rel (by kernel_rfl) [is (.slice Ax X.length cx), is (.string (strOf X)), is (.slice A j cap), row X.length (bcells X), is (.string (strOf X)), is (.bool true), is (.bool true), is (.slice Ax X.length cx), row N.length (icells .i32 N), is (.slice Aw N.length cw), is (.bool true), is (.bool true), is (.bool true), is (.slice Ax X.length cx), is (.bool true), is (.bool true), is (.bool true), is (.slice Ay Y.length cy), is (.bool true), is (.bool true), is (.bool true), is (.slice Ay Y.length cy), is (.string (strOf Y)), is (.slice A' n' cap'), is (.string (strOf L)), is (.bool (val L)), is (.slice A' n' cap'), is (.bool (val L)), is (.bool true), is (.bool true), is (.bool true)] [[], [0], [], [2], [3], [1, 4], [5], [6], [6, 7], [6], [6, 8, 9], [6, 10], [11], [12], [12, 13], [12, 14], [15], [16], [16, 17], [16, 18], [19], [20], [20, 21], [20], [20, 23], [20, 22, 24], [20], [20, 26], [20, 25, 27], [20, 28], [29]] (by kernel_rfl) ?_ ?_
          · refine ⟨?_, ?_, ?_, ?_, ?_, ?_, ?_, ?_, ?_, ?_, ?_, ?_, ?_, ?_, ?_, ?_, ?_, ?_, ?_, ?_, ?_, ?_, ?_, ?_, ?_, ?_, ?_, ?_, ?_, ?_, ?_, trivial⟩
            · intro t wq hbq hh K hK
              clear hh
              simp only [filled, upd, Have, is, any, row, pick, Act.put, List.setIfInBounds_toArray, List.set_cons_zero, List.set_cons_succ, Nat.reduceAdd, Nat.reduceEqDiff, reduceIte] at hK ⊢
              go_simp
              exact hK _ _ (Below.refl _ _) rfl
            · intro t wq hbq hh K hK
              have e0 := hh.1
              simp only [pick] at e0
              replace e0 : t 0 = (.slice Ax X.length cx) := e0
              clear hh
              simp only [filled, upd, Have, is, any, row, pick, Act.put, List.setIfInBounds_toArray, List.set_cons_zero, List.set_cons_succ, Nat.reduceAdd, Nat.reduceEqDiff, reduceIte] at hK ⊢
              simp only [e0] at hK ⊢
              have hs := run_string_of 22 9 5 Try.underlying22 Try.underlying5 Try.underlying9 _ cx (HX.out.below hbq)
              go_simp
              exact hK _ _ (Below.refl _ _) rfl
            · intro t wq hbq hh K hK
              clear hh
              simp only [filled, upd, Have, is, any, row, pick, Act.put, List.setIfInBounds_toArray, List.set_cons_zero, List.set_cons_succ, Nat.reduceAdd, Nat.reduceEqDiff, reduceIte] at hK ⊢
              go_simp
              exact hK _ _ (Below.refl _ _) rfl
            · intro t wq hbq hh K hK
              have e2 := hh.1
              simp only [pick] at e2
              replace e2 : t 2 = (.slice A j cap) := e2
              clear hh
              simp only [filled, upd, Have, is, any, row, pick, Act.put, List.setIfInBounds_toArray, List.set_cons_zero, List.set_cons_succ, Nat.reduceAdd, Nat.reduceEqDiff, reduceIte] at hK ⊢
              simp only [e2] at hK ⊢
              go_simp
              refine (RefC.ref_encode A j cap l _ (HR4.out.below hbq) (by omega)).mono ?_
              rintro e w5 ⟨v, rfl, hown, hb5⟩
              rw [HXE.out] at hown
              obtain ⟨A5, c5, rfl, hc5, hm5, hr5⟩ := owns_form hown
              exact hK _ _ hb5 ⟨_, _, rfl, hc5, hm5, hr5⟩
            · intro t wq hbq hh K hK
              have e3 := hh.1
              simp only [pick] at e3
              clear hh
              simp only [filled, upd, Have, is, any, row, pick, Act.put, List.setIfInBounds_toArray, List.set_cons_zero, List.set_cons_succ, Nat.reduceAdd, Nat.reduceEqDiff, reduceIte] at hK ⊢
              obtain ⟨A3, c3, e3, hc3, hm3, hr3⟩ := e3
              simp only [e3] at hK ⊢
              have hs := run_string_of 22 9 5 Try.underlying22 Try.underlying5 Try.underlying9 _ c3 hr3
              go_simp
              exact hK _ _ (Below.refl _ _) rfl
            · intro t wq hbq hh K hK
              have e1 := hh.1
              simp only [pick] at e1
              replace e1 : t 1 = (.string (strOf X)) := e1
              have e4 := hh.2.1
              simp only [pick] at e4
              replace e4 : t 4 = (.string (strOf X)) := e4
              clear hh
              simp only [filled, upd, Have, is, any, row, pick, Act.put, List.setIfInBounds_toArray, List.set_cons_zero, List.set_cons_succ, Nat.reduceAdd, Nat.reduceEqDiff, reduceIte] at hK ⊢
              simp only [e1, e4] at hK ⊢
              go_simp
              exact hK _ _ (Below.refl _ _) (by simp)
            · intro t wq hbq hh K hK
              have e5 := hh.1
              simp only [pick] at e5
              replace e5 : t 5 = (.bool true) := e5
              clear hh
              simp only [filled, upd, Have, is, any, row, pick, Act.put, List.setIfInBounds_toArray, List.set_cons_zero, List.set_cons_succ, Nat.reduceAdd, Nat.reduceEqDiff, reduceIte] at hK ⊢
              simp only [e5] at hK ⊢
              go_simp
              exact hK _ _ (Below.refl _ _) rfl
            · intro t wq hbq hh K hK
              have e6 := hh.1
              simp only [pick] at e6
              replace e6 : t 6 = (.bool true) := e6
              clear hh
              simp only [filled, upd, Have, is, any, row, pick, Act.put, List.setIfInBounds_toArray, List.set_cons_zero, List.set_cons_succ, Nat.reduceAdd, Nat.reduceEqDiff, reduceIte] at hK ⊢
              simp only [e6] at hK ⊢
              go_simp
              exact hK _ _ (Below.refl _ _) rfl
            · intro t wq hbq hh K hK
              have e6 := hh.1
              simp only [pick] at e6
              replace e6 : t 6 = (.bool true) := e6
              have e7 := hh.2.1
              simp only [pick] at e7
              replace e7 : t 7 = (.slice Ax X.length cx) := e7
              clear hh
              simp only [filled, upd, Have, is, any, row, pick, Act.put, List.setIfInBounds_toArray, List.set_cons_zero, List.set_cons_succ, Nat.reduceAdd, Nat.reduceEqDiff, reduceIte] at hK ⊢
              simp only [e6, e7] at hK ⊢
              go_simp
              refine (decode_any Ax X.length cx X _ (HX.out.below hbq) (by omega) hcx).mono ?_
              rintro e w5 ⟨v, rfl, hown, hb5⟩
              rw [HXD.out] at hown
              obtain ⟨A5, c5, rfl, hc5, hm5, hr5⟩ := owns_form hown
              exact hK _ _ hb5 ⟨_, _, rfl, hc5, hm5, hr5⟩
            · intro t wq hbq hh K hK
              have e6 := hh.1
              simp only [pick] at e6
              replace e6 : t 6 = (.bool true) := e6
              clear hh
              simp only [filled, upd, Have, is, any, row, pick, Act.put, List.setIfInBounds_toArray, List.set_cons_zero, List.set_cons_succ, Nat.reduceAdd, Nat.reduceEqDiff, reduceIte] at hK ⊢
              simp only [e6] at hK ⊢
              go_simp
              exact hK _ _ (Below.refl _ _) rfl
            · intro t wq hbq hh K hK
              have e6 := hh.1
              simp only [pick] at e6
              replace e6 : t 6 = (.bool true) := e6
              have e8 := hh.2.1
              simp only [pick] at e8
              have e9 := hh.2.2.1
              simp only [pick] at e9
              replace e9 : t 9 = (.slice Aw N.length cw) := e9
              clear hh
              simp only [filled, upd, Have, is, any, row, pick, Act.put, List.setIfInBounds_toArray, List.set_cons_zero, List.set_cons_succ, Nat.reduceAdd, Nat.reduceEqDiff, reduceIte] at hK ⊢
              obtain ⟨A8, c8, e8, hc8, hm8, hr8⟩ := e8
              simp only [e6, e8, e9] at hK ⊢
              go_simp
              refine (RefV.same_any A8 N.length c8 N Aw N.length cw N _ hr8 (HW.out.below hbq) (by omega)).mono ?_
              rintro e w5 ⟨rfl, hb5⟩
              exact hK _ _ hb5 (by simp)
            · intro t wq hbq hh K hK
              have e6 := hh.1
              simp only [pick] at e6
              replace e6 : t 6 = (.bool true) := e6
              have e10 := hh.2.1
              simp only [pick] at e10
              replace e10 : t 10 = (.bool true) := e10
              clear hh
              simp only [filled, upd, Have, is, any, row, pick, Act.put, List.setIfInBounds_toArray, List.set_cons_zero, List.set_cons_succ, Nat.reduceAdd, Nat.reduceEqDiff, reduceIte] at hK ⊢
              simp only [e6, e10] at hK ⊢
              go_simp
              exact hK _ _ (Below.refl _ _) rfl
            · intro t wq hbq hh K hK
              have e11 := hh.1
              simp only [pick] at e11
              replace e11 : t 11 = (.bool true) := e11
              clear hh
              simp only [filled, upd, Have, is, any, row, pick, Act.put, List.setIfInBounds_toArray, List.set_cons_zero, List.set_cons_succ, Nat.reduceAdd, Nat.reduceEqDiff, reduceIte] at hK ⊢
              simp only [e11] at hK ⊢
              go_simp
              exact hK _ _ (Below.refl _ _) rfl
            · intro t wq hbq hh K hK
              have e12 := hh.1
              simp only [pick] at e12
              replace e12 : t 12 = (.bool true) := e12
              clear hh
              simp only [filled, upd, Have, is, any, row, pick, Act.put, List.setIfInBounds_toArray, List.set_cons_zero, List.set_cons_succ, Nat.reduceAdd, Nat.reduceEqDiff, reduceIte] at hK ⊢
              simp only [e12] at hK ⊢
              go_simp
              exact hK _ _ (Below.refl _ _) rfl
            · intro t wq hbq hh K hK
              have e12 := hh.1
              simp only [pick] at e12
              replace e12 : t 12 = (.bool true) := e12
              have e13 := hh.2.1
              simp only [pick] at e13
              replace e13 : t 13 = (.slice Ax X.length cx) := e13
              clear hh
              simp only [filled, upd, Have, is, any, row, pick, Act.put, List.setIfInBounds_toArray, List.set_cons_zero, List.set_cons_succ, Nat.reduceAdd, Nat.reduceEqDiff, reduceIte] at hK ⊢
              simp only [e12, e13] at hK ⊢
              go_simp
              refine (valid_any Ax X.length cx X _ (HX.out.below hbq) (by omega) hcx).mono ?_
              rintro e w5 ⟨rfl, hb5⟩
              exact hK _ _ hb5 (by rw [HXV.out])
            · intro t wq hbq hh K hK
              have e12 := hh.1
              simp only [pick] at e12
              replace e12 : t 12 = (.bool true) := e12
              have e14 := hh.2.1
              simp only [pick] at e14
              replace e14 : t 14 = (.bool true) := e14
              clear hh
              simp only [filled, upd, Have, is, any, row, pick, Act.put, List.setIfInBounds_toArray, List.set_cons_zero, List.set_cons_succ, Nat.reduceAdd, Nat.reduceEqDiff, reduceIte] at hK ⊢
              simp only [e12, e14] at hK ⊢
              go_simp
              exact hK _ _ (Below.refl _ _) rfl
            · intro t wq hbq hh K hK
              have e15 := hh.1
              simp only [pick] at e15
              replace e15 : t 15 = (.bool true) := e15
              clear hh
              simp only [filled, upd, Have, is, any, row, pick, Act.put, List.setIfInBounds_toArray, List.set_cons_zero, List.set_cons_succ, Nat.reduceAdd, Nat.reduceEqDiff, reduceIte] at hK ⊢
              simp only [e15] at hK ⊢
              go_simp
              exact hK _ _ (Below.refl _ _) rfl
            · intro t wq hbq hh K hK
              have e16 := hh.1
              simp only [pick] at e16
              replace e16 : t 16 = (.bool true) := e16
              clear hh
              simp only [filled, upd, Have, is, any, row, pick, Act.put, List.setIfInBounds_toArray, List.set_cons_zero, List.set_cons_succ, Nat.reduceAdd, Nat.reduceEqDiff, reduceIte] at hK ⊢
              simp only [e16] at hK ⊢
              go_simp
              exact hK _ _ (Below.refl _ _) rfl
            · intro t wq hbq hh K hK
              have e16 := hh.1
              simp only [pick] at e16
              replace e16 : t 16 = (.bool true) := e16
              have e17 := hh.2.1
              simp only [pick] at e17
              replace e17 : t 17 = (.slice Ay Y.length cy) := e17
              clear hh
              simp only [filled, upd, Have, is, any, row, pick, Act.put, List.setIfInBounds_toArray, List.set_cons_zero, List.set_cons_succ, Nat.reduceAdd, Nat.reduceEqDiff, reduceIte] at hK ⊢
              simp only [e16, e17] at hK ⊢
              go_simp
              refine (valid_any Ay Y.length cy Y _ (HY.out.below hbq) (by omega) hcy).mono ?_
              rintro e w5 ⟨rfl, hb5⟩
              exact hK _ _ hb5 (by rw [HYV.out])
            · intro t wq hbq hh K hK
              have e16 := hh.1
              simp only [pick] at e16
              replace e16 : t 16 = (.bool true) := e16
              have e18 := hh.2.1
              simp only [pick] at e18
              replace e18 : t 18 = (.bool true) := e18
              clear hh
              simp only [filled, upd, Have, is, any, row, pick, Act.put, List.setIfInBounds_toArray, List.set_cons_zero, List.set_cons_succ, Nat.reduceAdd, Nat.reduceEqDiff, reduceIte] at hK ⊢
              simp only [e16, e18] at hK ⊢
              go_simp
              exact hK _ _ (Below.refl _ _) rfl
            · intro t wq hbq hh K hK
              have e19 := hh.1
              simp only [pick] at e19
              replace e19 : t 19 = (.bool true) := e19
              clear hh
              simp only [filled, upd, Have, is, any, row, pick, Act.put, List.setIfInBounds_toArray, List.set_cons_zero, List.set_cons_succ, Nat.reduceAdd, Nat.reduceEqDiff, reduceIte] at hK ⊢
              simp only [e19] at hK ⊢
              go_simp
              exact hK _ _ (Below.refl _ _) rfl
            · intro t wq hbq hh K hK
              have e20 := hh.1
              simp only [pick] at e20
              replace e20 : t 20 = (.bool true) := e20
              clear hh
              simp only [filled, upd, Have, is, any, row, pick, Act.put, List.setIfInBounds_toArray, List.set_cons_zero, List.set_cons_succ, Nat.reduceAdd, Nat.reduceEqDiff, reduceIte] at hK ⊢
              simp only [e20] at hK ⊢
              go_simp
              exact hK _ _ (Below.refl _ _) rfl
            · intro t wq hbq hh K hK
              have e20 := hh.1
              simp only [pick] at e20
              replace e20 : t 20 = (.bool true) := e20
              have e21 := hh.2.1
              simp only [pick] at e21
              replace e21 : t 21 = (.slice Ay Y.length cy) := e21
              clear hh
              simp only [filled, upd, Have, is, any, row, pick, Act.put, List.setIfInBounds_toArray, List.set_cons_zero, List.set_cons_succ, Nat.reduceAdd, Nat.reduceEqDiff, reduceIte] at hK ⊢
              simp only [e20, e21] at hK ⊢
              have hs := run_string_of 22 9 5 Try.underlying22 Try.underlying5 Try.underlying9 _ cy (HY.out.below hbq)
              go_simp
              exact hK _ _ (Below.refl _ _) rfl
            · intro t wq hbq hh K hK
              have e20 := hh.1
              simp only [pick] at e20
              replace e20 : t 20 = (.bool true) := e20
              clear hh
              simp only [filled, upd, Have, is, any, row, pick, Act.put, List.setIfInBounds_toArray, List.set_cons_zero, List.set_cons_succ, Nat.reduceAdd, Nat.reduceEqDiff, reduceIte] at hK ⊢
              simp only [e20] at hK ⊢
              go_simp
              exact hK _ _ (Below.refl _ _) rfl
            · intro t wq hbq hh K hK
              have e20 := hh.1
              simp only [pick] at e20
              replace e20 : t 20 = (.bool true) := e20
              have e23 := hh.2.1
              simp only [pick] at e23
              replace e23 : t 23 = (.slice A' n' cap') := e23
              clear hh
              simp only [filled, upd, Have, is, any, row, pick, Act.put, List.setIfInBounds_toArray, List.set_cons_zero, List.set_cons_succ, Nat.reduceAdd, Nat.reduceEqDiff, reduceIte] at hK ⊢
              simp only [e20, e23] at hK ⊢
              have hs := run_string_of 22 9 5 Try.underlying22 Try.underlying5 Try.underlying9 _ cap' (HR4'.out.below hbq)
              go_simp
              exact hK _ _ (Below.refl _ _) rfl
            · intro t wq hbq hh K hK
              have e20 := hh.1
              simp only [pick] at e20
              replace e20 : t 20 = (.bool true) := e20
              have e22 := hh.2.1
              simp only [pick] at e22
              replace e22 : t 22 = (.string (strOf Y)) := e22
              have e24 := hh.2.2.1
              simp only [pick] at e24
              replace e24 : t 24 = (.string (strOf L)) := e24
              clear hh
              simp only [filled, upd, Have, is, any, row, pick, Act.put, List.setIfInBounds_toArray, List.set_cons_zero, List.set_cons_succ, Nat.reduceAdd, Nat.reduceEqDiff, reduceIte] at hK ⊢
              simp only [e20, e22, e24] at hK ⊢
              go_simp
              exact hK _ _ (Below.refl _ _) (by rw [HVL.out, str_beq])
            · intro t wq hbq hh K hK
              have e20 := hh.1
              simp only [pick] at e20
              replace e20 : t 20 = (.bool true) := e20
              clear hh
              simp only [filled, upd, Have, is, any, row, pick, Act.put, List.setIfInBounds_toArray, List.set_cons_zero, List.set_cons_succ, Nat.reduceAdd, Nat.reduceEqDiff, reduceIte] at hK ⊢
              simp only [e20] at hK ⊢
              go_simp
              exact hK _ _ (Below.refl _ _) rfl
            · intro t wq hbq hh K hK
              have e20 := hh.1
              simp only [pick] at e20
              replace e20 : t 20 = (.bool true) := e20
              have e26 := hh.2.1
              simp only [pick] at e26
              replace e26 : t 26 = (.slice A' n' cap') := e26
              clear hh
              simp only [filled, upd, Have, is, any, row, pick, Act.put, List.setIfInBounds_toArray, List.set_cons_zero, List.set_cons_succ, Nat.reduceAdd, Nat.reduceEqDiff, reduceIte] at hK ⊢
              simp only [e20, e26] at hK ⊢
              go_simp
              refine (valid_any A' n' cap' L _ (HR4'.out.below hbq) (by omega) hc').mono ?_
              rintro e w5 ⟨rfl, hb5⟩
              exact hK _ _ hb5 rfl
            · intro t wq hbq hh K hK
              have e20 := hh.1
              simp only [pick] at e20
              replace e20 : t 20 = (.bool true) := e20
              have e25 := hh.2.1
              simp only [pick] at e25
              replace e25 : t 25 = (.bool (val L)) := e25
              have e27 := hh.2.2.1
              simp only [pick] at e27
              replace e27 : t 27 = (.bool (val L)) := e27
              clear hh
              simp only [filled, upd, Have, is, any, row, pick, Act.put, List.setIfInBounds_toArray, List.set_cons_zero, List.set_cons_succ, Nat.reduceAdd, Nat.reduceEqDiff, reduceIte] at hK ⊢
              simp only [e20, e25, e27] at hK ⊢
              go_simp
              exact hK _ _ (Below.refl _ _) (by simp)
            · intro t wq hbq hh K hK
              have e20 := hh.1
              simp only [pick] at e20
              replace e20 : t 20 = (.bool true) := e20
              have e28 := hh.2.1
              simp only [pick] at e28
              replace e28 : t 28 = (.bool true) := e28
              clear hh
              simp only [filled, upd, Have, is, any, row, pick, Act.put, List.setIfInBounds_toArray, List.set_cons_zero, List.set_cons_succ, Nat.reduceAdd, Nat.reduceEqDiff, reduceIte] at hK ⊢
              simp only [e20, e28] at hK ⊢
              go_simp
              exact hK _ _ (Below.refl _ _) rfl
            · intro t wq hbq hh K hK
              have e29 := hh.1
              simp only [pick] at e29
              replace e29 : t 29 = (.bool true) := e29
              clear hh
              simp only [filled, upd, Have, is, any, row, pick, Act.put, List.setIfInBounds_toArray, List.set_cons_zero, List.set_cons_succ, Nat.reduceAdd, Nat.reduceEqDiff, reduceIte] at hK ⊢
              simp only [e29] at hK ⊢
              go_simp
              exact hK _ _ (Below.refl _ _) rfl
          · intro t wq hbq hh
            have f30 := have_get hh 30 (by decide)
            simp only [pick] at f30
            replace f30 : t 30 = (.bool true) := f30
            clear hh
            simp only [filled, upd, Have, is, any, row, pick, Act.put, List.setIfInBounds_toArray, List.set_cons_zero, List.set_cons_succ, Nat.reduceAdd, Nat.reduceEqDiff, reduceIte]
            simp only [f30]
            go_wp2
            go_ret
            exact ⟨rfl, bel (bel (bel (bel (bel hb1 hbelr) hb2) hb3) hb4) hbq⟩
    · have p2 : (1000 : Int) < (n' : Int) := by omega
      go_enter Try.func4, Try.ntmps4
      go_wp2_with fail
      refine (UtfW.awake_any _).mono ?_
      rintro e w1 ⟨rfl, hb1⟩
      go_wp2_with fail
      refine (UtfW.awake_any _).mono ?_
      rintro e w2 ⟨rfl, hb2⟩
      go_wp2_with fail
      go_ret
      exact ⟨rfl, bel hb1 hb2⟩
  · have p1 : (300 : Int) < (n : Int) := by omega
    go_enter Try.func4, Try.ntmps4
    go_wp2_with fail
    refine (UtfW.awake_any _).mono ?_
    rintro e w1 ⟨rfl, hb1⟩
    go_wp2_with fail
    refine (UtfW.awake_any _).mono ?_
    rintro e w2 ⟨rfl, hb2⟩
    go_wp2_with fail
    go_ret
    exact ⟨rfl, bel hb1 hb2⟩
end Go.Proofs.Ytnkdejeapgichaa.Laws
