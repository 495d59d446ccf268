/- The law StackNil. -/
import Derived.Test.YtegpfgccaminkaaGreatDoorUAQ
import Derived.Test.YtegpfgccaminkaaGreatDoorUAA
set_option linter.unusedSimpArgs false
set_option linter.unusedVariables false
namespace Go.Proofs.YtegpfgccaminkaaGreatDoor.Laws
open Go.RowKit Go.Proofs.YtegpfgccaminkaaGreatDoor.Base Go.Proofs.YtegpfgccaminkaaGreatDoor.Base2 Go.Proofs.YtegpfgccaminkaaGreatDoor.Regs Go.Proofs.YtegpfgccaminkaaGreatDoor.OrgA Go.Proofs.YtegpfgccaminkaaGreatDoor.Ubx Go.Proofs.YtegpfgccaminkaaGreatDoor.PrsC Go.Proofs.YtegpfgccaminkaaGreatDoor.PrsG Go.Proofs.YtegpfgccaminkaaGreatDoor.HstC Go.Proofs.YtegpfgccaminkaaGreatDoor.Spl Go.Proofs.YtegpfgccaminkaaGreatDoor.LdA Go.Proofs.YtegpfgccaminkaaGreatDoor.OpqD Go.Proofs.YtegpfgccaminkaaGreatDoor.StoB Go.Proofs.YtegpfgccaminkaaGreatDoor.FetC Go.Proofs.YtegpfgccaminkaaGreatDoor.StkG Go.Proofs.YtegpfgccaminkaaGreatDoor.StkA Go.Proofs.YtegpfgccaminkaaGreatDoor.StkB Go.Proofs.YtegpfgccaminkaaGreatDoor.StkF Go.Proofs.YtegpfgccaminkaaGreatDoor.StkH
set_option linter.unusedSimpArgs false
set_option linter.unusedVariables false
set_option maxRecDepth 100000 in
set_option maxHeartbeats 16000000 in
theorem StackNil_any (hd : Int) (name s h : ByteArray) (p n : Int) (w : World) (_hhd : -9223372036854775808 ≤ hd ∧ hd ≤ 9223372036854775807) (hnm : name.size ≤ 140737488351232) (_hs : s.size ≤ 140737488351232) (_hh : h.size ≤ 140737488351232) (_hp : -9223372036854775808 ≤ p ∧ p ≤ 9223372036854775807) (_hn : -9223372036854775808 ≤ n ∧ n ≤ 9223372036854775807) (hT : Tab.Pow w) (hM : Max w) (hU : Utab w) :
    Calls Tryz.prog 4 #[.int .i64 hd, .string name, .agg #[.string s, .string h, .int .i64 p, .int .i64 n]] w fun e w' => e = .returned (.bool true) ∧ Below w.heap.size w w' := by
  have HE : Hid (EnvO w) := ⟨hT, hM, hU⟩
  have HP : Hid (PosW.Env w) := ⟨hT, hM⟩
  have kc := fun (w : World) (C : Array Value) (n c : Nat) => Lib.run_convert_bytes_const (P := Tryz.prog) w 39 5 C n c Tryz.underlying39 Tryz.underlying5
  clear hT hM hU _hhd _hs _hh _hp _hn
  by_cases hl : name.size ≤ 500
  case neg =>
    have hli : (500 : Int) < (name.size : Int) := by omega
    clear hl hnm
    go_enter Tryz.func4, Tryz.ntmps4
    go_wp2_with fail
    have hb := (Below.refl w.heap.size w).alloc (Nat.le_refl _) (.cells #[.string s, .string h, .int .i64 p, .int .i64 n] 32)
    refine (awake27 _ (HP.out.below hb)).mono ?_
    rintro e w1 ⟨rfl, hb1⟩
    have HB1 := hid (bel hb hb1)
    clear hb hb1
    go_wp2_with fail
    refine (awake27 _ (HP.out.below HB1.out)).mono ?_
    rintro e w2 ⟨rfl, hb2⟩
    have HB2 := hid (bel HB1.out hb2)
    clear hb2
    go_wp2
    go_ret
    exact ⟨rfl, HB2.out⟩
  have hli : ¬ (500 : Int) < (name.size : Int) := by omega
  clear hl hnm
  go_enter Tryz.func4, Tryz.ntmps4
  go_upto_region 1 with (fail)
  generalize hwa : World.alloc w _ = v1
  have h1_ : OB v1 w.heap.size s h p n ∧ Below w.heap.size w v1 := by
    subst hwa
    exact laid1 w _ _
  clear hwa
  have XO1 := hid h1_.1
  have HB1 := hid h1_.2
  clear h1_
  go_wp2_with fail
  refine (awake27 _ (HP.out.below HB1.out)).mono ?_
  rintro e w2 ⟨rfl, hb2⟩
  have XO2 := hid (OB.below XO1.out hb2)
  have HB2 := hid (bel HB1.out hb2)
  clear hb2 XO1 HB1
  go_wp2_with fail
  have hb := (Below.refl w2.heap.size w2).alloc (Nat.le_refl _) (.cells (bcells [97]).toArray 5 (1, 2))
  refine (create_nil _ 1 1 ⟨#[]⟩ _).mono ?_
  rintro e w3 ⟨rfl, hb3⟩
  have XO3 := hid (OB.below XO2.out (bel hb hb3))
  have HB3 := hid (bel HB2.out (bel hb hb3))
  clear hb hb3 XO2 HB2 kc
  go_wp2_with fail
  refine (slice_nil hd _ _ _ _).mono ?_
  rintro e w4 ⟨rfl, hb4⟩
  have XO4 := hid (OB.below XO3.out hb4)
  have HB4 := hid (bel HB3.out hb4)
  clear hb4 XO3 HB3
  have HLE := hid (ob_load XO4.out)
  go_wp2_with (refine load_as HLE.out (.tmp 5) rfl rfl rfl ?_)
  refine (register_nil s h p n hd _ _).mono ?_
  rintro e w5 ⟨rfl, hb5⟩
  have XO5 := hid (OB.below XO4.out hb5)
  have HB5 := hid (bel HB4.out hb5)
  clear hb5 XO4 HB4 HLE
  go_wp2_with fail
  refine (notice_nil _).mono ?_
  rintro e w6 ⟨rfl, hb6⟩
  have XO6 := hid (OB.below XO5.out hb6)
  have HB6 := hid (bel HB5.out hb6)
  clear hb6 XO5 HB5
  have HLE := hid (ob_load XO6.out)
  go_wp2_with (refine load_as HLE.out (.tmp 5) rfl rfl rfl ?_)
  refine (blob_nil _ s h p n _).mono ?_
  rintro e w8 ⟨rfl, hb8⟩
  have XO8 := hid (OB.below XO6.out hb8)
  have HB8 := hid (bel HB6.out hb8)
  clear hb8 XO6 HB6 HLE
  go_upto_region 9 with (fail)
  simp only [List.append_eq, List.cons_append, List.nil_append]
  refine wp_region_seq [is (.int .i64 1), is (.bool true), is (.bool true), is (.int .i64 1), is (.bool true), is (.bool true), is (.bool true), is (.int .i64 1), is (.bool true), is (.bool true), is (.bool true), is (.string ⟨#[]⟩), is (.bool true), is (.bool true), is (.bool true), is (.string ⟨#[]⟩), is (.bool true), is (.bool true), is (.bool true), is (.bool false), is (.bool true), is (.bool true), is (.bool true), is (.pointer none), is (.bool true), is (.bool true), is (.bool true), is (.bool false), is (.bool true), is (.bool true), is (.bool true), is (.pointer none), is (.int .i64 hd), is (.bool false), is (.bool true), is (.bool true), is (.bool true), is (.pointer none), is (.string name), is (.agg #[.string s, .string h, .int .i64 p, .int .i64 n]), is (.bool false), is (.bool true), is (.bool true), is (.bool true), is (.pointer none), is (.int .i64 0), is (.bool true), is (.bool true), is (.bool true), is (.pointer none), is (.slice none 0 0), is (.int .i64 0), is (.bool true), is (.bool true), is (.bool true), is (.pointer none), is (.agg #[.string s, .string h, .int .i64 p, .int .i64 n]), is (.agg #[.int .i64 3, .int .i64 200, .int .i64 0, .int .i64 0, .string ⟨#[116, 101, 120, 116, 47, 104, 116, 109, 108, 59, 99, 104, 97, 114, 115, 101, 116, 61, 117, 116, 102, 45, 56]⟩, .slice none 0 0]), is (.int .i64 200), is (.bool true), is (.bool true), is (.bool true), is (.pointer none), is (.agg #[.string s, .string h, .int .i64 p, .int .i64 n]), is (.agg #[.int .i64 1, .int .i64 0, .int .i64 0, .int .i64 0, .string ⟨#[]⟩, .slice none 0 0]), is (.int .i64 0), is (.bool true), is (.bool true), is (.bool true)] [[], [0], [1], [2], [2, 3], [2, 4], [5], [6], [6, 7], [6, 8], [9], [10], [10, 11], [10, 12], [13], [14], [14, 15], [14, 16], [17], [18], [18, 19], [18, 20], [21], [22], [22, 23], [22, 24], [25], [26], [26, 27], [26, 28], [29], [30], [30], [30, 31, 32], [30, 33], [30, 34], [35], [36], [36], [36], [36, 37, 38, 39], [36, 40], [36, 41], [42], [43], [43, 44], [43, 45], [43, 46], [47], [48], [48, 49], [48, 50], [48, 51], [48, 52], [53], [54], [54], [54, 55, 56], [54, 57], [54, 58], [54, 59], [60], [61], [61], [61, 62, 63], [61, 64], [61, 65], [61, 66], [67]] (by kernel_rfl) ?_ ?_
  · refine ⟨?_, ?_, ?_, ?_, ?_, ?_, ?_, ?_, ?_, ?_, ?_, ?_, ?_, ?_, ?_, ?_, ?_, ?_, ?_, ?_, ?_, ?_, ?_, ?_, ?_, ?_, ?_, ?_, ?_, ?_, ?_, ?_, ?_, ?_, ?_, ?_, ?_, ?_, ?_, ?_, ?_, ?_, ?_, ?_, ?_, ?_, ?_, ?_, ?_, ?_, ?_, ?_, ?_, ?_, ?_, ?_, ?_, ?_, ?_, ?_, ?_, ?_, ?_, ?_, ?_, ?_, ?_, ?_, ?_, trivial⟩
    · intro t wq hbq hh K hK
      clear hh
      simp only [filled, filledN, upd, Have, is, any, row, pick, Act.put, List.setIfInBounds_toArray, List.set_cons_zero, List.set_cons_succ, Nat.reduceAdd, Nat.reduceEqDiff, reduceIte, whn] at hK ⊢
      go_simp
      exact hK _ _ (Below.refl _ _) rfl
    · intro t wq hbq hh K hK
      have e0 := hh.1
      simp only [pick] at e0
      replace e0 : t 0 = (.int .i64 1) := e0
      clear hh
      simp only [filled, filledN, upd, Have, is, any, row, pick, Act.put, List.setIfInBounds_toArray, List.set_cons_zero, List.set_cons_succ, Nat.reduceAdd, Nat.reduceEqDiff, reduceIte, whn] at hK ⊢
      simp only [e0] at hK ⊢
      go_simp
      exact hK _ _ (Below.refl _ _) rfl
    · intro t wq hbq hh K hK
      have e1 := hh.1
      simp only [pick] at e1
      replace e1 : t 1 = (.bool true) := e1
      clear hh
      simp only [filled, filledN, upd, Have, is, any, row, pick, Act.put, List.setIfInBounds_toArray, List.set_cons_zero, List.set_cons_succ, Nat.reduceAdd, Nat.reduceEqDiff, reduceIte, whn] at hK ⊢
      simp only [e1] at hK ⊢
      go_simp
      exact hK _ _ (Below.refl _ _) rfl
    · intro t wq hbq hh K hK
      have e2 := hh.1
      simp only [pick] at e2
      replace e2 : t 2 = (.bool true) := e2
      clear hh
      simp only [filled, filledN, upd, Have, is, any, row, pick, Act.put, List.setIfInBounds_toArray, List.set_cons_zero, List.set_cons_succ, Nat.reduceAdd, Nat.reduceEqDiff, reduceIte, whn] at hK ⊢
      simp only [e2] at hK ⊢
      go_simp
      exact hK _ _ (Below.refl _ _) rfl
    · intro t wq hbq hh K hK
      have e2 := hh.1
      simp only [pick] at e2
      replace e2 : t 2 = (.bool true) := e2
      have e3 := hh.2.1
      simp only [pick] at e3
      replace e3 : t 3 = (.int .i64 1) := e3
      clear hh
      simp only [filled, filledN, upd, Have, is, any, row, pick, Act.put, List.setIfInBounds_toArray, List.set_cons_zero, List.set_cons_succ, Nat.reduceAdd, Nat.reduceEqDiff, reduceIte, whn] at hK ⊢
      simp only [e2, e3] at hK ⊢
      go_simp
      exact hK _ _ (Below.refl _ _) rfl
    · intro t wq hbq hh K hK
      have e2 := hh.1
      simp only [pick] at e2
      replace e2 : t 2 = (.bool true) := e2
      have e4 := hh.2.1
      simp only [pick] at e4
      replace e4 : t 4 = (.bool true) := e4
      clear hh
      simp only [filled, filledN, upd, Have, is, any, row, pick, Act.put, List.setIfInBounds_toArray, List.set_cons_zero, List.set_cons_succ, Nat.reduceAdd, Nat.reduceEqDiff, reduceIte, whn] at hK ⊢
      simp only [e2, e4] at hK ⊢
      go_simp
      exact hK _ _ (Below.refl _ _) rfl
    · intro t wq hbq hh K hK
      have e5 := hh.1
      simp only [pick] at e5
      replace e5 : t 5 = (.bool true) := e5
      clear hh
      simp only [filled, filledN, upd, Have, is, any, row, pick, Act.put, List.setIfInBounds_toArray, List.set_cons_zero, List.set_cons_succ, Nat.reduceAdd, Nat.reduceEqDiff, reduceIte, whn] at hK ⊢
      simp only [e5] at hK ⊢
      go_simp
      exact hK _ _ (Below.refl _ _) rfl
    · intro t wq hbq hh K hK
      have e6 := hh.1
      simp only [pick] at e6
      replace e6 : t 6 = (.bool true) := e6
      clear hh
      simp only [filled, filledN, upd, Have, is, any, row, pick, Act.put, List.setIfInBounds_toArray, List.set_cons_zero, List.set_cons_succ, Nat.reduceAdd, Nat.reduceEqDiff, reduceIte, whn] at hK ⊢
      simp only [e6] at hK ⊢
      go_simp
      exact hK _ _ (Below.refl _ _) rfl
    · intro t wq hbq hh K hK
      have e6 := hh.1
      simp only [pick] at e6
      replace e6 : t 6 = (.bool true) := e6
      have e7 := hh.2.1
      simp only [pick] at e7
      replace e7 : t 7 = (.int .i64 1) := e7
      clear hh
      simp only [filled, filledN, upd, Have, is, any, row, pick, Act.put, List.setIfInBounds_toArray, List.set_cons_zero, List.set_cons_succ, Nat.reduceAdd, Nat.reduceEqDiff, reduceIte, whn] at hK ⊢
      simp only [e6, e7] at hK ⊢
      go_simp
      exact hK _ _ (Below.refl _ _) rfl
    · intro t wq hbq hh K hK
      have e6 := hh.1
      simp only [pick] at e6
      replace e6 : t 6 = (.bool true) := e6
      have e8 := hh.2.1
      simp only [pick] at e8
      replace e8 : t 8 = (.bool true) := e8
      clear hh
      simp only [filled, filledN, upd, Have, is, any, row, pick, Act.put, List.setIfInBounds_toArray, List.set_cons_zero, List.set_cons_succ, Nat.reduceAdd, Nat.reduceEqDiff, reduceIte, whn] at hK ⊢
      simp only [e6, e8] at hK ⊢
      go_simp
      exact hK _ _ (Below.refl _ _) rfl
    · intro t wq hbq hh K hK
      have e9 := hh.1
      simp only [pick] at e9
      replace e9 : t 9 = (.bool true) := e9
      clear hh
      simp only [filled, filledN, upd, Have, is, any, row, pick, Act.put, List.setIfInBounds_toArray, List.set_cons_zero, List.set_cons_succ, Nat.reduceAdd, Nat.reduceEqDiff, reduceIte, whn] at hK ⊢
      simp only [e9] at hK ⊢
      go_simp
      exact hK _ _ (Below.refl _ _) rfl
    · intro t wq hbq hh K hK
      have e10 := hh.1
      simp only [pick] at e10
      replace e10 : t 10 = (.bool true) := e10
      clear hh
      simp only [filled, filledN, upd, Have, is, any, row, pick, Act.put, List.setIfInBounds_toArray, List.set_cons_zero, List.set_cons_succ, Nat.reduceAdd, Nat.reduceEqDiff, reduceIte, whn] at hK ⊢
      simp only [e10] at hK ⊢
      go_simp
      exact hK _ _ (Below.refl _ _) rfl
    · intro t wq hbq hh K hK
      have e10 := hh.1
      simp only [pick] at e10
      replace e10 : t 10 = (.bool true) := e10
      have e11 := hh.2.1
      simp only [pick] at e11
      replace e11 : t 11 = (.string ⟨#[]⟩) := e11
      clear hh
      simp only [filled, filledN, upd, Have, is, any, row, pick, Act.put, List.setIfInBounds_toArray, List.set_cons_zero, List.set_cons_succ, Nat.reduceAdd, Nat.reduceEqDiff, reduceIte, whn] at hK ⊢
      simp only [e10, e11] at hK ⊢
      go_simp
      exact hK _ _ (Below.refl _ _) rfl
    · intro t wq hbq hh K hK
      have e10 := hh.1
      simp only [pick] at e10
      replace e10 : t 10 = (.bool true) := e10
      have e12 := hh.2.1
      simp only [pick] at e12
      replace e12 : t 12 = (.bool true) := e12
      clear hh
      simp only [filled, filledN, upd, Have, is, any, row, pick, Act.put, List.setIfInBounds_toArray, List.set_cons_zero, List.set_cons_succ, Nat.reduceAdd, Nat.reduceEqDiff, reduceIte, whn] at hK ⊢
      simp only [e10, e12] at hK ⊢
      go_simp
      exact hK _ _ (Below.refl _ _) rfl
    · intro t wq hbq hh K hK
      have e13 := hh.1
      simp only [pick] at e13
      replace e13 : t 13 = (.bool true) := e13
      clear hh
      simp only [filled, filledN, upd, Have, is, any, row, pick, Act.put, List.setIfInBounds_toArray, List.set_cons_zero, List.set_cons_succ, Nat.reduceAdd, Nat.reduceEqDiff, reduceIte, whn] at hK ⊢
      simp only [e13] at hK ⊢
      go_simp
      exact hK _ _ (Below.refl _ _) rfl
    · intro t wq hbq hh K hK
      have e14 := hh.1
      simp only [pick] at e14
      replace e14 : t 14 = (.bool true) := e14
      clear hh
      simp only [filled, filledN, upd, Have, is, any, row, pick, Act.put, List.setIfInBounds_toArray, List.set_cons_zero, List.set_cons_succ, Nat.reduceAdd, Nat.reduceEqDiff, reduceIte, whn] at hK ⊢
      simp only [e14] at hK ⊢
      go_simp
      exact hK _ _ (Below.refl _ _) rfl
    · intro t wq hbq hh K hK
      have e14 := hh.1
      simp only [pick] at e14
      replace e14 : t 14 = (.bool true) := e14
      have e15 := hh.2.1
      simp only [pick] at e15
      replace e15 : t 15 = (.string ⟨#[]⟩) := e15
      clear hh
      simp only [filled, filledN, upd, Have, is, any, row, pick, Act.put, List.setIfInBounds_toArray, List.set_cons_zero, List.set_cons_succ, Nat.reduceAdd, Nat.reduceEqDiff, reduceIte, whn] at hK ⊢
      simp only [e14, e15] at hK ⊢
      go_simp
      exact hK _ _ (Below.refl _ _) rfl
    · intro t wq hbq hh K hK
      have e14 := hh.1
      simp only [pick] at e14
      replace e14 : t 14 = (.bool true) := e14
      have e16 := hh.2.1
      simp only [pick] at e16
      replace e16 : t 16 = (.bool true) := e16
      clear hh
      simp only [filled, filledN, upd, Have, is, any, row, pick, Act.put, List.setIfInBounds_toArray, List.set_cons_zero, List.set_cons_succ, Nat.reduceAdd, Nat.reduceEqDiff, reduceIte, whn] at hK ⊢
      simp only [e14, e16] at hK ⊢
      go_simp
      exact hK _ _ (Below.refl _ _) rfl
    · intro t wq hbq hh K hK
      have e17 := hh.1
      simp only [pick] at e17
      replace e17 : t 17 = (.bool true) := e17
      clear hh
      simp only [filled, filledN, upd, Have, is, any, row, pick, Act.put, List.setIfInBounds_toArray, List.set_cons_zero, List.set_cons_succ, Nat.reduceAdd, Nat.reduceEqDiff, reduceIte, whn] at hK ⊢
      simp only [e17] at hK ⊢
      go_simp
      exact hK _ _ (Below.refl _ _) rfl
    · intro t wq hbq hh K hK
      have e18 := hh.1
      simp only [pick] at e18
      replace e18 : t 18 = (.bool true) := e18
      clear hh
      simp only [filled, filledN, upd, Have, is, any, row, pick, Act.put, List.setIfInBounds_toArray, List.set_cons_zero, List.set_cons_succ, Nat.reduceAdd, Nat.reduceEqDiff, reduceIte, whn] at hK ⊢
      simp only [e18] at hK ⊢
      go_simp
      exact hK _ _ (Below.refl _ _) rfl
    · intro t wq hbq hh K hK
      have e18 := hh.1
      simp only [pick] at e18
      replace e18 : t 18 = (.bool true) := e18
      have e19 := hh.2.1
      simp only [pick] at e19
      replace e19 : t 19 = (.bool false) := e19
      clear hh
      simp only [filled, filledN, upd, Have, is, any, row, pick, Act.put, List.setIfInBounds_toArray, List.set_cons_zero, List.set_cons_succ, Nat.reduceAdd, Nat.reduceEqDiff, reduceIte, whn] at hK ⊢
      simp only [e18, e19] at hK ⊢
      go_simp
      exact hK _ _ (Below.refl _ _) rfl
    · intro t wq hbq hh K hK
      have e18 := hh.1
      simp only [pick] at e18
      replace e18 : t 18 = (.bool true) := e18
      have e20 := hh.2.1
      simp only [pick] at e20
      replace e20 : t 20 = (.bool true) := e20
      clear hh
      simp only [filled, filledN, upd, Have, is, any, row, pick, Act.put, List.setIfInBounds_toArray, List.set_cons_zero, List.set_cons_succ, Nat.reduceAdd, Nat.reduceEqDiff, reduceIte, whn] at hK ⊢
      simp only [e18, e20] at hK ⊢
      go_simp
      exact hK _ _ (Below.refl _ _) rfl
    · intro t wq hbq hh K hK
      have e21 := hh.1
      simp only [pick] at e21
      replace e21 : t 21 = (.bool true) := e21
      clear hh
      simp only [filled, filledN, upd, Have, is, any, row, pick, Act.put, List.setIfInBounds_toArray, List.set_cons_zero, List.set_cons_succ, Nat.reduceAdd, Nat.reduceEqDiff, reduceIte, whn] at hK ⊢
      simp only [e21] at hK ⊢
      go_simp
      exact hK _ _ (Below.refl _ _) rfl
    · intro t wq hbq hh K hK
      have e22 := hh.1
      simp only [pick] at e22
      replace e22 : t 22 = (.bool true) := e22
      clear hh
      simp only [filled, filledN, upd, Have, is, any, row, pick, Act.put, List.setIfInBounds_toArray, List.set_cons_zero, List.set_cons_succ, Nat.reduceAdd, Nat.reduceEqDiff, reduceIte, whn] at hK ⊢
      simp only [e22] at hK ⊢
      go_simp
      exact hK _ _ (Below.refl _ _) rfl
    · intro t wq hbq hh K hK
      have e22 := hh.1
      simp only [pick] at e22
      replace e22 : t 22 = (.bool true) := e22
      have e23 := hh.2.1
      simp only [pick] at e23
      replace e23 : t 23 = (.pointer none) := e23
      clear hh
      simp only [filled, filledN, upd, Have, is, any, row, pick, Act.put, List.setIfInBounds_toArray, List.set_cons_zero, List.set_cons_succ, Nat.reduceAdd, Nat.reduceEqDiff, reduceIte, whn] at hK ⊢
      simp only [e22, e23] at hK ⊢
      go_simp
      exact hK _ _ (Below.refl _ _) rfl
    · intro t wq hbq hh K hK
      have e22 := hh.1
      simp only [pick] at e22
      replace e22 : t 22 = (.bool true) := e22
      have e24 := hh.2.1
      simp only [pick] at e24
      replace e24 : t 24 = (.bool true) := e24
      clear hh
      simp only [filled, filledN, upd, Have, is, any, row, pick, Act.put, List.setIfInBounds_toArray, List.set_cons_zero, List.set_cons_succ, Nat.reduceAdd, Nat.reduceEqDiff, reduceIte, whn] at hK ⊢
      simp only [e22, e24] at hK ⊢
      go_simp
      exact hK _ _ (Below.refl _ _) rfl
    · intro t wq hbq hh K hK
      have e25 := hh.1
      simp only [pick] at e25
      replace e25 : t 25 = (.bool true) := e25
      clear hh
      simp only [filled, filledN, upd, Have, is, any, row, pick, Act.put, List.setIfInBounds_toArray, List.set_cons_zero, List.set_cons_succ, Nat.reduceAdd, Nat.reduceEqDiff, reduceIte, whn] at hK ⊢
      simp only [e25] at hK ⊢
      go_simp
      exact hK _ _ (Below.refl _ _) rfl
    · intro t wq hbq hh K hK
      have e26 := hh.1
      simp only [pick] at e26
      replace e26 : t 26 = (.bool true) := e26
      clear hh
      simp only [filled, filledN, upd, Have, is, any, row, pick, Act.put, List.setIfInBounds_toArray, List.set_cons_zero, List.set_cons_succ, Nat.reduceAdd, Nat.reduceEqDiff, reduceIte, whn] at hK ⊢
      simp only [e26] at hK ⊢
      go_simp
      exact hK _ _ (Below.refl _ _) rfl
    · intro t wq hbq hh K hK
      have e26 := hh.1
      simp only [pick] at e26
      replace e26 : t 26 = (.bool true) := e26
      have e27 := hh.2.1
      simp only [pick] at e27
      replace e27 : t 27 = (.bool false) := e27
      clear hh
      simp only [filled, filledN, upd, Have, is, any, row, pick, Act.put, List.setIfInBounds_toArray, List.set_cons_zero, List.set_cons_succ, Nat.reduceAdd, Nat.reduceEqDiff, reduceIte, whn] at hK ⊢
      simp only [e26, e27] at hK ⊢
      go_simp
      exact hK _ _ (Below.refl _ _) rfl
    · intro t wq hbq hh K hK
      have e26 := hh.1
      simp only [pick] at e26
      replace e26 : t 26 = (.bool true) := e26
      have e28 := hh.2.1
      simp only [pick] at e28
      replace e28 : t 28 = (.bool true) := e28
      clear hh
      simp only [filled, filledN, upd, Have, is, any, row, pick, Act.put, List.setIfInBounds_toArray, List.set_cons_zero, List.set_cons_succ, Nat.reduceAdd, Nat.reduceEqDiff, reduceIte, whn] at hK ⊢
      simp only [e26, e28] at hK ⊢
      go_simp
      exact hK _ _ (Below.refl _ _) rfl
    · intro t wq hbq hh K hK
      have e29 := hh.1
      simp only [pick] at e29
      replace e29 : t 29 = (.bool true) := e29
      clear hh
      simp only [filled, filledN, upd, Have, is, any, row, pick, Act.put, List.setIfInBounds_toArray, List.set_cons_zero, List.set_cons_succ, Nat.reduceAdd, Nat.reduceEqDiff, reduceIte, whn] at hK ⊢
      simp only [e29] at hK ⊢
      go_simp
      exact hK _ _ (Below.refl _ _) rfl
    · intro t wq hbq hh K hK
      have e30 := hh.1
      simp only [pick] at e30
      replace e30 : t 30 = (.bool true) := e30
      clear hh
      simp only [filled, filledN, upd, Have, is, any, row, pick, Act.put, List.setIfInBounds_toArray, List.set_cons_zero, List.set_cons_succ, Nat.reduceAdd, Nat.reduceEqDiff, reduceIte, whn] at hK ⊢
      simp only [e30] at hK ⊢
      go_simp
      exact hK _ _ (Below.refl _ _) rfl
    · intro t wq hbq hh K hK
      have e30 := hh.1
      simp only [pick] at e30
      replace e30 : t 30 = (.bool true) := e30
      clear hh
      simp only [filled, filledN, upd, Have, is, any, row, pick, Act.put, List.setIfInBounds_toArray, List.set_cons_zero, List.set_cons_succ, Nat.reduceAdd, Nat.reduceEqDiff, reduceIte, whn] at hK ⊢
      simp only [e30] at hK ⊢
      go_simp
      exact hK _ _ (Below.refl _ _) rfl
    · intro t wq hbq hh K hK
      have e30 := hh.1
      simp only [pick] at e30
      replace e30 : t 30 = (.bool true) := e30
      have e31 := hh.2.1
      simp only [pick] at e31
      replace e31 : t 31 = (.pointer none) := e31
      have e32 := hh.2.2.1
      simp only [pick] at e32
      replace e32 : t 32 = (.int .i64 hd) := e32
      clear hh
      simp only [filled, filledN, upd, Have, is, any, row, pick, Act.put, List.setIfInBounds_toArray, List.set_cons_zero, List.set_cons_succ, Nat.reduceAdd, Nat.reduceEqDiff, reduceIte, whn] at hK ⊢
      simp only [e30, e31, e32] at hK ⊢
      go_simp
      refine (forget_nil hd _).mono ?_
      rintro e w9 ⟨rfl, hb9⟩
      exact hK _ _ hb9 rfl
    · intro t wq hbq hh K hK
      have e30 := hh.1
      simp only [pick] at e30
      replace e30 : t 30 = (.bool true) := e30
      have e33 := hh.2.1
      simp only [pick] at e33
      replace e33 : t 33 = (.bool false) := e33
      clear hh
      simp only [filled, filledN, upd, Have, is, any, row, pick, Act.put, List.setIfInBounds_toArray, List.set_cons_zero, List.set_cons_succ, Nat.reduceAdd, Nat.reduceEqDiff, reduceIte, whn] at hK ⊢
      simp only [e30, e33] at hK ⊢
      go_simp
      exact hK _ _ (Below.refl _ _) rfl
    · intro t wq hbq hh K hK
      have e30 := hh.1
      simp only [pick] at e30
      replace e30 : t 30 = (.bool true) := e30
      have e34 := hh.2.1
      simp only [pick] at e34
      replace e34 : t 34 = (.bool true) := e34
      clear hh
      simp only [filled, filledN, upd, Have, is, any, row, pick, Act.put, List.setIfInBounds_toArray, List.set_cons_zero, List.set_cons_succ, Nat.reduceAdd, Nat.reduceEqDiff, reduceIte, whn] at hK ⊢
      simp only [e30, e34] at hK ⊢
      go_simp
      exact hK _ _ (Below.refl _ _) rfl
    · intro t wq hbq hh K hK
      have e35 := hh.1
      simp only [pick] at e35
      replace e35 : t 35 = (.bool true) := e35
      clear hh
      simp only [filled, filledN, upd, Have, is, any, row, pick, Act.put, List.setIfInBounds_toArray, List.set_cons_zero, List.set_cons_succ, Nat.reduceAdd, Nat.reduceEqDiff, reduceIte, whn] at hK ⊢
      simp only [e35] at hK ⊢
      go_simp
      exact hK _ _ (Below.refl _ _) rfl
    · intro t wq hbq hh K hK
      have e36 := hh.1
      simp only [pick] at e36
      replace e36 : t 36 = (.bool true) := e36
      clear hh
      simp only [filled, filledN, upd, Have, is, any, row, pick, Act.put, List.setIfInBounds_toArray, List.set_cons_zero, List.set_cons_succ, Nat.reduceAdd, Nat.reduceEqDiff, reduceIte, whn] at hK ⊢
      simp only [e36] at hK ⊢
      go_simp
      exact hK _ _ (Below.refl _ _) rfl
    · intro t wq hbq hh K hK
      have e36 := hh.1
      simp only [pick] at e36
      replace e36 : t 36 = (.bool true) := e36
      clear hh
      simp only [filled, filledN, upd, Have, is, any, row, pick, Act.put, List.setIfInBounds_toArray, List.set_cons_zero, List.set_cons_succ, Nat.reduceAdd, Nat.reduceEqDiff, reduceIte, whn] at hK ⊢
      simp only [e36] at hK ⊢
      go_simp
      exact hK _ _ (Below.refl _ _) rfl
    · intro t wq hbq hh K hK
      have e36 := hh.1
      simp only [pick] at e36
      replace e36 : t 36 = (.bool true) := e36
      clear hh
      simp only [filled, filledN, upd, Have, is, any, row, pick, Act.put, List.setIfInBounds_toArray, List.set_cons_zero, List.set_cons_succ, Nat.reduceAdd, Nat.reduceEqDiff, reduceIte, whn] at hK ⊢
      simp only [e36] at hK ⊢
      refine step_load_g (ob_load (OB.below XO8.out hbq)) (.tmp 5) rfl (by go_simp) rfl ?_
      exact hK _ _ (Below.refl _ _) rfl
    · intro t wq hbq hh K hK
      have e36 := hh.1
      simp only [pick] at e36
      replace e36 : t 36 = (.bool true) := e36
      have e37 := hh.2.1
      simp only [pick] at e37
      replace e37 : t 37 = (.pointer none) := e37
      have e38 := hh.2.2.1
      simp only [pick] at e38
      replace e38 : t 38 = (.string name) := e38
      have e39 := hh.2.2.2.1
      simp only [pick] at e39
      replace e39 : t 39 = (.agg #[.string s, .string h, .int .i64 p, .int .i64 n]) := e39
      clear hh
      simp only [filled, filledN, upd, Have, is, any, row, pick, Act.put, List.setIfInBounds_toArray, List.set_cons_zero, List.set_cons_succ, Nat.reduceAdd, Nat.reduceEqDiff, reduceIte, whn] at hK ⊢
      simp only [e36, e37, e38, e39] at hK ⊢
      go_simp
      refine (revoke_nil name s h p n _).mono ?_
      rintro e w9 ⟨rfl, hb9⟩
      exact hK _ _ hb9 rfl
    · intro t wq hbq hh K hK
      have e36 := hh.1
      simp only [pick] at e36
      replace e36 : t 36 = (.bool true) := e36
      have e40 := hh.2.1
      simp only [pick] at e40
      replace e40 : t 40 = (.bool false) := e40
      clear hh
      simp only [filled, filledN, upd, Have, is, any, row, pick, Act.put, List.setIfInBounds_toArray, List.set_cons_zero, List.set_cons_succ, Nat.reduceAdd, Nat.reduceEqDiff, reduceIte, whn] at hK ⊢
      simp only [e36, e40] at hK ⊢
      go_simp
      exact hK _ _ (Below.refl _ _) rfl
    · intro t wq hbq hh K hK
      have e36 := hh.1
      simp only [pick] at e36
      replace e36 : t 36 = (.bool true) := e36
      have e41 := hh.2.1
      simp only [pick] at e41
      replace e41 : t 41 = (.bool true) := e41
      clear hh
      simp only [filled, filledN, upd, Have, is, any, row, pick, Act.put, List.setIfInBounds_toArray, List.set_cons_zero, List.set_cons_succ, Nat.reduceAdd, Nat.reduceEqDiff, reduceIte, whn] at hK ⊢
      simp only [e36, e41] at hK ⊢
      go_simp
      exact hK _ _ (Below.refl _ _) rfl
    · intro t wq hbq hh K hK
      have e42 := hh.1
      simp only [pick] at e42
      replace e42 : t 42 = (.bool true) := e42
      clear hh
      simp only [filled, filledN, upd, Have, is, any, row, pick, Act.put, List.setIfInBounds_toArray, List.set_cons_zero, List.set_cons_succ, Nat.reduceAdd, Nat.reduceEqDiff, reduceIte, whn] at hK ⊢
      simp only [e42] at hK ⊢
      go_simp
      exact hK _ _ (Below.refl _ _) rfl
    · intro t wq hbq hh K hK
      have e43 := hh.1
      simp only [pick] at e43
      replace e43 : t 43 = (.bool true) := e43
      clear hh
      simp only [filled, filledN, upd, Have, is, any, row, pick, Act.put, List.setIfInBounds_toArray, List.set_cons_zero, List.set_cons_succ, Nat.reduceAdd, Nat.reduceEqDiff, reduceIte, whn] at hK ⊢
      simp only [e43] at hK ⊢
      go_simp
      exact hK _ _ (Below.refl _ _) rfl
    · intro t wq hbq hh K hK
      have e43 := hh.1
      simp only [pick] at e43
      replace e43 : t 43 = (.bool true) := e43
      have e44 := hh.2.1
      simp only [pick] at e44
      replace e44 : t 44 = (.pointer none) := e44
      clear hh
      simp only [filled, filledN, upd, Have, is, any, row, pick, Act.put, List.setIfInBounds_toArray, List.set_cons_zero, List.set_cons_succ, Nat.reduceAdd, Nat.reduceEqDiff, reduceIte, whn] at hK ⊢
      simp only [e43, e44] at hK ⊢
      go_simp
      refine (bytes_nil _).mono ?_
      rintro e w9 ⟨rfl, hb9⟩
      exact hK _ _ hb9 rfl
    · intro t wq hbq hh K hK
      have e43 := hh.1
      simp only [pick] at e43
      replace e43 : t 43 = (.bool true) := e43
      have e45 := hh.2.1
      simp only [pick] at e45
      replace e45 : t 45 = (.int .i64 0) := e45
      clear hh
      simp only [filled, filledN, upd, Have, is, any, row, pick, Act.put, List.setIfInBounds_toArray, List.set_cons_zero, List.set_cons_succ, Nat.reduceAdd, Nat.reduceEqDiff, reduceIte, whn] at hK ⊢
      simp only [e43, e45] at hK ⊢
      go_simp
      exact hK _ _ (Below.refl _ _) rfl
    · intro t wq hbq hh K hK
      have e43 := hh.1
      simp only [pick] at e43
      replace e43 : t 43 = (.bool true) := e43
      have e46 := hh.2.1
      simp only [pick] at e46
      replace e46 : t 46 = (.bool true) := e46
      clear hh
      simp only [filled, filledN, upd, Have, is, any, row, pick, Act.put, List.setIfInBounds_toArray, List.set_cons_zero, List.set_cons_succ, Nat.reduceAdd, Nat.reduceEqDiff, reduceIte, whn] at hK ⊢
      simp only [e43, e46] at hK ⊢
      go_simp
      exact hK _ _ (Below.refl _ _) rfl
    · intro t wq hbq hh K hK
      have e47 := hh.1
      simp only [pick] at e47
      replace e47 : t 47 = (.bool true) := e47
      clear hh
      simp only [filled, filledN, upd, Have, is, any, row, pick, Act.put, List.setIfInBounds_toArray, List.set_cons_zero, List.set_cons_succ, Nat.reduceAdd, Nat.reduceEqDiff, reduceIte, whn] at hK ⊢
      simp only [e47] at hK ⊢
      go_simp
      exact hK _ _ (Below.refl _ _) rfl
    · intro t wq hbq hh K hK
      have e48 := hh.1
      simp only [pick] at e48
      replace e48 : t 48 = (.bool true) := e48
      clear hh
      simp only [filled, filledN, upd, Have, is, any, row, pick, Act.put, List.setIfInBounds_toArray, List.set_cons_zero, List.set_cons_succ, Nat.reduceAdd, Nat.reduceEqDiff, reduceIte, whn] at hK ⊢
      simp only [e48] at hK ⊢
      go_simp
      exact hK _ _ (Below.refl _ _) rfl
    · intro t wq hbq hh K hK
      have e48 := hh.1
      simp only [pick] at e48
      replace e48 : t 48 = (.bool true) := e48
      have e49 := hh.2.1
      simp only [pick] at e49
      replace e49 : t 49 = (.pointer none) := e49
      clear hh
      simp only [filled, filledN, upd, Have, is, any, row, pick, Act.put, List.setIfInBounds_toArray, List.set_cons_zero, List.set_cons_succ, Nat.reduceAdd, Nat.reduceEqDiff, reduceIte, whn] at hK ⊢
      simp only [e48, e49] at hK ⊢
      go_simp
      refine (urls_nil _).mono ?_
      rintro e w9 ⟨rfl, hb9⟩
      exact hK _ _ hb9 rfl
    · intro t wq hbq hh K hK
      have e48 := hh.1
      simp only [pick] at e48
      replace e48 : t 48 = (.bool true) := e48
      have e50 := hh.2.1
      simp only [pick] at e50
      replace e50 : t 50 = (.slice none 0 0) := e50
      clear hh
      simp only [filled, filledN, upd, Have, is, any, row, pick, Act.put, List.setIfInBounds_toArray, List.set_cons_zero, List.set_cons_succ, Nat.reduceAdd, Nat.reduceEqDiff, reduceIte, whn] at hK ⊢
      simp only [e48, e50] at hK ⊢
      go_simp
      exact hK _ _ (Below.refl _ _) rfl
    · intro t wq hbq hh K hK
      have e48 := hh.1
      simp only [pick] at e48
      replace e48 : t 48 = (.bool true) := e48
      have e51 := hh.2.1
      simp only [pick] at e51
      replace e51 : t 51 = (.int .i64 0) := e51
      clear hh
      simp only [filled, filledN, upd, Have, is, any, row, pick, Act.put, List.setIfInBounds_toArray, List.set_cons_zero, List.set_cons_succ, Nat.reduceAdd, Nat.reduceEqDiff, reduceIte, whn] at hK ⊢
      simp only [e48, e51] at hK ⊢
      go_simp
      exact hK _ _ (Below.refl _ _) rfl
    · intro t wq hbq hh K hK
      have e48 := hh.1
      simp only [pick] at e48
      replace e48 : t 48 = (.bool true) := e48
      have e52 := hh.2.1
      simp only [pick] at e52
      replace e52 : t 52 = (.bool true) := e52
      clear hh
      simp only [filled, filledN, upd, Have, is, any, row, pick, Act.put, List.setIfInBounds_toArray, List.set_cons_zero, List.set_cons_succ, Nat.reduceAdd, Nat.reduceEqDiff, reduceIte, whn] at hK ⊢
      simp only [e48, e52] at hK ⊢
      go_simp
      exact hK _ _ (Below.refl _ _) rfl
    · intro t wq hbq hh K hK
      have e53 := hh.1
      simp only [pick] at e53
      replace e53 : t 53 = (.bool true) := e53
      clear hh
      simp only [filled, filledN, upd, Have, is, any, row, pick, Act.put, List.setIfInBounds_toArray, List.set_cons_zero, List.set_cons_succ, Nat.reduceAdd, Nat.reduceEqDiff, reduceIte, whn] at hK ⊢
      simp only [e53] at hK ⊢
      go_simp
      exact hK _ _ (Below.refl _ _) rfl
    · intro t wq hbq hh K hK
      have e54 := hh.1
      simp only [pick] at e54
      replace e54 : t 54 = (.bool true) := e54
      clear hh
      simp only [filled, filledN, upd, Have, is, any, row, pick, Act.put, List.setIfInBounds_toArray, List.set_cons_zero, List.set_cons_succ, Nat.reduceAdd, Nat.reduceEqDiff, reduceIte, whn] at hK ⊢
      simp only [e54] at hK ⊢
      go_simp
      exact hK _ _ (Below.refl _ _) rfl
    · intro t wq hbq hh K hK
      have e54 := hh.1
      simp only [pick] at e54
      replace e54 : t 54 = (.bool true) := e54
      clear hh
      simp only [filled, filledN, upd, Have, is, any, row, pick, Act.put, List.setIfInBounds_toArray, List.set_cons_zero, List.set_cons_succ, Nat.reduceAdd, Nat.reduceEqDiff, reduceIte, whn] at hK ⊢
      simp only [e54] at hK ⊢
      refine step_load_g (ob_load (OB.below XO8.out hbq)) (.tmp 5) rfl (by go_simp) rfl ?_
      exact hK _ _ (Below.refl _ _) rfl
    · intro t wq hbq hh K hK
      have e54 := hh.1
      simp only [pick] at e54
      replace e54 : t 54 = (.bool true) := e54
      have e55 := hh.2.1
      simp only [pick] at e55
      replace e55 : t 55 = (.pointer none) := e55
      have e56 := hh.2.2.1
      simp only [pick] at e56
      replace e56 : t 56 = (.agg #[.string s, .string h, .int .i64 p, .int .i64 n]) := e56
      clear hh
      simp only [filled, filledN, upd, Have, is, any, row, pick, Act.put, List.setIfInBounds_toArray, List.set_cons_zero, List.set_cons_succ, Nat.reduceAdd, Nat.reduceEqDiff, reduceIte, whn] at hK ⊢
      simp only [e54, e55, e56] at hK ⊢
      go_simp
      refine (sf_blank none (.pointer none) s h p n _ (HE.out.below (bel HB8.out hbq))).mono ?_
      rintro e w9 ⟨rfl, hb9⟩
      exact hK _ _ hb9 rfl
    · intro t wq hbq hh K hK
      have e54 := hh.1
      simp only [pick] at e54
      replace e54 : t 54 = (.bool true) := e54
      have e57 := hh.2.1
      simp only [pick] at e57
      replace e57 : t 57 = (.agg #[.int .i64 3, .int .i64 200, .int .i64 0, .int .i64 0, .string ⟨#[116, 101, 120, 116, 47, 104, 116, 109, 108, 59, 99, 104, 97, 114, 115, 101, 116, 61, 117, 116, 102, 45, 56]⟩, .slice none 0 0]) := e57
      clear hh
      simp only [filled, filledN, upd, Have, is, any, row, pick, Act.put, List.setIfInBounds_toArray, List.set_cons_zero, List.set_cons_succ, Nat.reduceAdd, Nat.reduceEqDiff, reduceIte, whn] at hK ⊢
      simp only [e54, e57] at hK ⊢
      go_simp
      exact hK _ _ (Below.refl _ _) rfl
    · intro t wq hbq hh K hK
      have e54 := hh.1
      simp only [pick] at e54
      replace e54 : t 54 = (.bool true) := e54
      have e58 := hh.2.1
      simp only [pick] at e58
      replace e58 : t 58 = (.int .i64 200) := e58
      clear hh
      simp only [filled, filledN, upd, Have, is, any, row, pick, Act.put, List.setIfInBounds_toArray, List.set_cons_zero, List.set_cons_succ, Nat.reduceAdd, Nat.reduceEqDiff, reduceIte, whn] at hK ⊢
      simp only [e54, e58] at hK ⊢
      go_simp
      exact hK _ _ (Below.refl _ _) rfl
    · intro t wq hbq hh K hK
      have e54 := hh.1
      simp only [pick] at e54
      replace e54 : t 54 = (.bool true) := e54
      have e59 := hh.2.1
      simp only [pick] at e59
      replace e59 : t 59 = (.bool true) := e59
      clear hh
      simp only [filled, filledN, upd, Have, is, any, row, pick, Act.put, List.setIfInBounds_toArray, List.set_cons_zero, List.set_cons_succ, Nat.reduceAdd, Nat.reduceEqDiff, reduceIte, whn] at hK ⊢
      simp only [e54, e59] at hK ⊢
      go_simp
      exact hK _ _ (Below.refl _ _) rfl
    · intro t wq hbq hh K hK
      have e60 := hh.1
      simp only [pick] at e60
      replace e60 : t 60 = (.bool true) := e60
      clear hh
      simp only [filled, filledN, upd, Have, is, any, row, pick, Act.put, List.setIfInBounds_toArray, List.set_cons_zero, List.set_cons_succ, Nat.reduceAdd, Nat.reduceEqDiff, reduceIte, whn] at hK ⊢
      simp only [e60] at hK ⊢
      go_simp
      exact hK _ _ (Below.refl _ _) rfl
    · intro t wq hbq hh K hK
      have e61 := hh.1
      simp only [pick] at e61
      replace e61 : t 61 = (.bool true) := e61
      clear hh
      simp only [filled, filledN, upd, Have, is, any, row, pick, Act.put, List.setIfInBounds_toArray, List.set_cons_zero, List.set_cons_succ, Nat.reduceAdd, Nat.reduceEqDiff, reduceIte, whn] at hK ⊢
      simp only [e61] at hK ⊢
      go_simp
      exact hK _ _ (Below.refl _ _) rfl
    · intro t wq hbq hh K hK
      have e61 := hh.1
      simp only [pick] at e61
      replace e61 : t 61 = (.bool true) := e61
      clear hh
      simp only [filled, filledN, upd, Have, is, any, row, pick, Act.put, List.setIfInBounds_toArray, List.set_cons_zero, List.set_cons_succ, Nat.reduceAdd, Nat.reduceEqDiff, reduceIte, whn] at hK ⊢
      simp only [e61] at hK ⊢
      refine step_load_g (ob_load (OB.below XO8.out hbq)) (.tmp 5) rfl (by go_simp) rfl ?_
      exact hK _ _ (Below.refl _ _) rfl
    · intro t wq hbq hh K hK
      have e61 := hh.1
      simp only [pick] at e61
      replace e61 : t 61 = (.bool true) := e61
      have e62 := hh.2.1
      simp only [pick] at e62
      replace e62 : t 62 = (.pointer none) := e62
      have e63 := hh.2.2.1
      simp only [pick] at e63
      replace e63 : t 63 = (.agg #[.string s, .string h, .int .i64 p, .int .i64 n]) := e63
      clear hh
      simp only [filled, filledN, upd, Have, is, any, row, pick, Act.put, List.setIfInBounds_toArray, List.set_cons_zero, List.set_cons_succ, Nat.reduceAdd, Nat.reduceEqDiff, reduceIte, whn] at hK ⊢
      simp only [e61, e62, e63] at hK ⊢
      go_simp
      refine (sf_nil (.pointer none) s h p n _ (HE.out.below (bel HB8.out hbq))).mono ?_
      rintro e w9 ⟨rfl, hb9⟩
      exact hK _ _ hb9 rfl
    · intro t wq hbq hh K hK
      have e61 := hh.1
      simp only [pick] at e61
      replace e61 : t 61 = (.bool true) := e61
      have e64 := hh.2.1
      simp only [pick] at e64
      replace e64 : t 64 = (.agg #[.int .i64 1, .int .i64 0, .int .i64 0, .int .i64 0, .string ⟨#[]⟩, .slice none 0 0]) := e64
      clear hh
      simp only [filled, filledN, upd, Have, is, any, row, pick, Act.put, List.setIfInBounds_toArray, List.set_cons_zero, List.set_cons_succ, Nat.reduceAdd, Nat.reduceEqDiff, reduceIte, whn] at hK ⊢
      simp only [e61, e64] at hK ⊢
      go_simp
      exact hK _ _ (Below.refl _ _) rfl
    · intro t wq hbq hh K hK
      have e61 := hh.1
      simp only [pick] at e61
      replace e61 : t 61 = (.bool true) := e61
      have e65 := hh.2.1
      simp only [pick] at e65
      replace e65 : t 65 = (.int .i64 0) := e65
      clear hh
      simp only [filled, filledN, upd, Have, is, any, row, pick, Act.put, List.setIfInBounds_toArray, List.set_cons_zero, List.set_cons_succ, Nat.reduceAdd, Nat.reduceEqDiff, reduceIte, whn] at hK ⊢
      simp only [e61, e65] at hK ⊢
      go_simp
      exact hK _ _ (Below.refl _ _) rfl
    · intro t wq hbq hh K hK
      have e61 := hh.1
      simp only [pick] at e61
      replace e61 : t 61 = (.bool true) := e61
      have e66 := hh.2.1
      simp only [pick] at e66
      replace e66 : t 66 = (.bool true) := e66
      clear hh
      simp only [filled, filledN, upd, Have, is, any, row, pick, Act.put, List.setIfInBounds_toArray, List.set_cons_zero, List.set_cons_succ, Nat.reduceAdd, Nat.reduceEqDiff, reduceIte, whn] at hK ⊢
      simp only [e61, e66] at hK ⊢
      go_simp
      exact hK _ _ (Below.refl _ _) rfl
    · intro t wq hbq hh K hK
      have e67 := hh.1
      simp only [pick] at e67
      replace e67 : t 67 = (.bool true) := e67
      clear hh
      simp only [filled, filledN, upd, Have, is, any, row, pick, Act.put, List.setIfInBounds_toArray, List.set_cons_zero, List.set_cons_succ, Nat.reduceAdd, Nat.reduceEqDiff, reduceIte, whn] at hK ⊢
      simp only [e67] at hK ⊢
      go_simp
      exact hK _ _ (Below.refl _ _) rfl
  · intro t wq hbq hh
    have f68 := have_get hh 68 (by decide)
    simp only [pick] at f68
    replace f68 : t 68 = (.bool true) := f68
    clear hh
    simp only [List.length_cons, List.length_nil, Nat.reduceAdd, filled, filledN, upd, Have, is, any, row, pick, Act.put, List.setIfInBounds_toArray, List.set_cons_zero, List.set_cons_succ, Nat.reduceAdd, Nat.reduceEqDiff, reduceIte, whn]
    simp only [f68]
    have HB9 := hid (bel HB8.out hbq)
    clear hbq
    go_wp2
    go_ret
    exact ⟨rfl, HB9.out⟩
end Go.Proofs.YtegpfgccaminkaaGreatDoor.Laws
