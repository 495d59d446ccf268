/- The walk of the law TokenBlanks: it returns true, whatever it is called with. -/
import Derived.Test.YtnaeamnbdljcaaaDoorLaw04a
namespace Go.Proofs.YtnaeamnbdljcaaaDoor.Laws
open Go.RowKit Go.Proofs.YtnaeamnbdljcaaaDoor.Base Go.Proofs.YtnaeamnbdljcaaaDoor.Base2 Go.Proofs.YtnaeamnbdljcaaaDoor.TokP Go.Proofs.YtnaeamnbdljcaaaDoor.TokQ Go.Proofs.YtnaeamnbdljcaaaDoor.TokA Go.Proofs.YtnaeamnbdljcaaaDoor.TokT Go.Proofs.YtnaeamnbdljcaaaDoor.Regs

def ends : Nat → List UInt8
  | 0 => []
  | 1 => [32]
  | 2 => [9]
  | _ => [13, 10]
theorem ends_blank (k : Nat) : ∀ c ∈ ends k, c ∈ blanks := by
  intro c hc
  unfold ends at hc
  split at hc <;> simp at hc
  · subst hc; decide
  · subst hc; decide
  · rcases hc with rfl | rfl <;> decide
theorem ends_len (k : Nat) : (ends k).length ≤ 2 := by unfold ends; split <;> simp
theorem ends_cell (w : World) (k : Nat) (hk : k < 4) : (w.alloc (.cells #[.string ⟨#[]⟩, .string ⟨#[32]⟩, .string ⟨#[9]⟩, .string ⟨#[13, 10]⟩] 9)).cell? ⟨w.heap.size, k, none⟩ = some (.string (strOf (ends k))) := by
  rw [World.cell?_alloc_mark]
  have hcase : k = 0 ∨ k = 1 ∨ k = 2 ∨ k = 3 := by omega
  rcases hcase with rfl | rfl | rfl | rfl <;> rfl
set_option linter.unusedSimpArgs false in
set_option maxHeartbeats 4000000 in
set_option maxRecDepth 100000 in
theorem TokenBlanks_any (s : ByteArray) (za zb : Int) (w : World) (_hs : s.size ≤ 140737488351232) (ha : 0 ≤ za ∧ za ≤ 255) (hb : 0 ≤ zb ∧ zb ≤ 255) :
    Calls Tryd.prog 7 #[.string s, .int .u8 za, .int .u8 zb] w fun e w' => e = .returned (.bool true) ∧ Below w.heap.size w w' := by
  obtain ⟨ha0, ha1⟩ := ha
  obtain ⟨hb0, hb1⟩ := hb
  obtain ⟨a, rfl⟩ : ∃ a : Nat, za = (a : Int) := ⟨za.toNat, by omega⟩
  obtain ⟨b, rfl⟩ : ∃ a : Nat, zb = (a : Int) := ⟨zb.toNat, by omega⟩
  by_cases h5 : s.size ≤ 300
  · have p1 : ¬ (300 : Int) < (s.size : Int) := by omega
    have hka : (a : Int).tmod 4 = ((a % 4 : Nat) : Int) := by rw [Int.tmod_eq_emod_of_nonneg (by omega)]; omega
    have hka2 : (a : Int) % 4 = ((a % 4 : Nat) : Int) := by omega
    have hkb : (b : Int).tmod 4 = ((b % 4 : Nat) : Int) := by rw [Int.tmod_eq_emod_of_nonneg (by omega)]; omega
    have hkb2 : (b : Int) % 4 = ((b % 4 : Nat) : Int) := by omega
    obtain ⟨k, hk, hk4⟩ : ∃ k, a % 4 = k ∧ k < 4 := ⟨a % 4, rfl, by omega⟩
    obtain ⟨m, hm, hm4⟩ : ∃ k, b % 4 = k ∧ k < 4 := ⟨b % 4, rfl, by omega⟩
    rw [hk] at hka hka2
    rw [hm] at hkb hkb2
    clear hk hm
    obtain ⟨x, hx⟩ : ∃ x, x = ends k := ⟨_, rfl⟩
    obtain ⟨y, hy⟩ : ∃ x, x = ends m := ⟨_, rfl⟩
    obtain ⟨T, hT⟩ : ∃ T, T = trm s.data.toList := ⟨_, rfl⟩
    have bx : ∀ c ∈ x, c ∈ blanks := by rw [hx]; exact ends_blank k
    have by_ : ∀ c ∈ y, c ∈ blanks := by rw [hy]; exact ends_blank m
    have lx : x.length ≤ 2 := by rw [hx]; exact ends_len k
    have ly : y.length ≤ 2 := by rw [hy]; exact ends_len m
    have lT : T.length ≤ 300 := by rw [hT]; have := trm_len s.data.toList; rw [dlen] at this; omega
    have HX := hid hx
    have HY := hid hy
    have HT0 := hid hT
    have HT1 : Hid (trm (x ++ s.data.toList ++ y) = T) := by rw [hT]; exact trm_both x y _ bx by_
    have HT2 : Hid (trm T = T) := by rw [hT]; exact trm_trm _
    have HT3 : Hid (tr T = T) := by rw [hT]; exact tr_trm _
    obtain ⟨U, hU⟩ : ∃ U, U = tr (x ++ T) := ⟨_, rfl⟩
    have HT5 : Hid (tr (x ++ T) = U) := hU.symm
    have HT4 : Hid (tr (x ++ T ++ y) = U) := by rw [hU]; exact tr_behind y _ by_
    clear hU hx hy hT bx by_
    obtain ⟨XS, hXS⟩ : ∃ U, U = x ++ s.data.toList := ⟨_, rfl⟩
    obtain ⟨XSY, hXSY⟩ : ∃ U, U = XS ++ y := ⟨_, rfl⟩
    obtain ⟨XT, hXT⟩ : ∃ U, U = x ++ T := ⟨_, rfl⟩
    obtain ⟨XTY, hXTY⟩ : ∃ U, U = XT ++ y := ⟨_, rfl⟩
    have l1 : XS.length ≤ 302 := by rw [hXS, List.length_append, dlen]; omega
    have HN1 : Hid (XSY.length ≤ 304) := by show _ ≤ _; rw [hXSY, List.length_append]; omega
    have HN2 := hid lT
    have l2 : XT.length ≤ 302 := by rw [hXT, List.length_append]; omega
    have HN4 := hid l2
    have HN3 : Hid (XTY.length ≤ 304) := by show _ ≤ _; rw [hXTY, List.length_append]; omega
    have HA1 : Hid (∀ w, (Op.stringOp .add (strOf x) s).run Tryd.prog w = .ok (.string (strOf XS)) w) := fun w => by rw [hXS]; exact str_add' (strOf x) s w (by rw [size_strOf]; omega)
    have HA2 : Hid (∀ w, (Op.stringOp .add (strOf XS) (strOf y)).run Tryd.prog w = .ok (.string (strOf XSY)) w) := fun w => by rw [hXSY]; exact str_add XS y w (by omega)
    have HA3 : Hid (∀ w, (Op.stringOp .add (strOf x) (strOf T)).run Tryd.prog w = .ok (.string (strOf XT)) w) := fun w => by rw [hXT]; exact str_add x T w (by omega)
    have HA4 : Hid (∀ w, (Op.stringOp .add (strOf XT) (strOf y)).run Tryd.prog w = .ok (.string (strOf XTY)) w) := fun w => by rw [hXTY]; exact str_add XT y w (by omega)
    rw [← hXS, ← hXSY] at HT1
    rw [← hXT] at HT4 HT5
    rw [← hXTY] at HT4
    clear hXS hXSY hXT hXTY l1 l2 lT lx ly
    have hkI : (k : Int) < 4 := by omega
    have hmI : (m : Int) < 4 := by omega
    go_enter Tryd.func7, Tryd.ntmps7
    go_wp2_with fail
    refine (TokW.awake_any _).mono ?_
    rintro e w1 ⟨rfl, hw1⟩
    go_wp2_with fail
    refine (trim_any s _ (by omega)).mono ?_
    rintro e w3 ⟨rfl, hw3⟩
    rw [← HT0.out]
    have HCX : Hid (w3.cell? ⟨w1.heap.size, k, none⟩ = some (.string (strOf x))) := (hw3.cell (p := ⟨w1.heap.size, k, none⟩) (by simp)).trans (by rw [HX.out]; exact ends_cell w1 k hk4)
    have HCY : Hid (w3.cell? ⟨w1.heap.size, m, none⟩ = some (.string (strOf y))) := (hw3.cell (p := ⟨w1.heap.size, m, none⟩) (by simp)).trans (by rw [HY.out]; exact ends_cell w1 m hm4)
    have HLT : Hid (w1.heap.size < w3.heap.size) := by have := hw3.size; simp at this; show _ < _; omega
    have hbAll : Below w.heap.size w w3 := (hw1.trans (((Below.refl _ _).alloc (Nat.le_refl _) _).mono hw1.size)).trans (hw3.mono (by have := hw1.size; simp; omega))
    clear hw1 hw3
    go_wp2
    refine wp_region_rel (by kernel_rfl) [is (.slice (some ⟨w1.heap.size, 0, none⟩) 4 4), is (.int .u8 (a : Int)), is (.int .u8 (k : Int)), is (.pointer (some ⟨w1.heap.size, k, none⟩)), is (.string (strOf x)), is (.string s), is (.string (strOf XS)), is (.slice (some ⟨w1.heap.size, 0, none⟩) 4 4), is (.int .u8 (b : Int)), is (.int .u8 (m : Int)), is (.pointer (some ⟨w1.heap.size, m, none⟩)), is (.string (strOf y)), is (.string (strOf XSY)), is (.string (strOf T)), is (.string (strOf T)), is (.bool true), is (.bool true), is (.string (strOf T)), is (.string (strOf T)), is (.string (strOf T)), is (.bool true), is (.bool true), is (.bool true), is (.string (strOf T)), is (.string (strOf T)), is (.string (strOf T)), is (.bool true), is (.bool true), is (.bool true), is (.slice (some ⟨w1.heap.size, 0, none⟩) 4 4), is (.int .u8 (a : Int)), is (.int .u8 (k : Int)), is (.pointer (some ⟨w1.heap.size, k, none⟩)), is (.string (strOf x)), is (.string (strOf T)), is (.string (strOf XT)), is (.slice (some ⟨w1.heap.size, 0, none⟩) 4 4), is (.int .u8 (b : Int)), is (.int .u8 (m : Int)), is (.pointer (some ⟨w1.heap.size, m, none⟩)), is (.string (strOf y)), is (.string (strOf XTY)), is (.string (strOf U)), is (.slice (some ⟨w1.heap.size, 0, none⟩) 4 4), is (.int .u8 (a : Int)), is (.int .u8 (k : Int)), is (.pointer (some ⟨w1.heap.size, k, none⟩)), is (.string (strOf x)), is (.string (strOf T)), is (.string (strOf XT)), is (.string (strOf U)), is (.bool true), is (.bool true), is (.bool true)] [[], [], [1], [0, 2], [3], [], [4, 5], [], [], [8], [7, 9], [10], [6, 11], [12], [], [13, 14], [15], [16], [16, 17], [16], [16, 18, 19], [16, 20], [21], [22], [22, 23], [22], [22, 24, 25], [22, 26], [27], [28], [28], [28, 30], [28, 29, 31], [28, 32], [28], [28, 33, 34], [28], [28], [28, 37], [28, 36, 38], [28, 39], [28, 35, 40], [28, 41], [28], [28], [28, 44], [28, 43, 45], [28, 46], [28], [28, 47, 48], [28, 49], [28, 42, 50], [28, 51], [52]] (by kernel_rfl) ?_ ?_
    · refine ⟨?_, ?_, ?_, ?_, ?_, ?_, ?_, ?_, ?_, ?_, ?_, ?_, ?_, ?_, ?_, ?_, ?_, ?_, ?_, ?_, ?_, ?_, ?_, ?_, ?_, ?_, ?_, ?_, ?_, ?_, ?_, ?_, ?_, ?_, ?_, ?_, ?_, ?_, ?_, ?_, ?_, ?_, ?_, ?_, ?_, ?_, ?_, ?_, ?_, ?_, ?_, ?_, ?_, ?_, trivial⟩
      · intro t wq hbq hh K hK
        clear hh
        simp only [filled, upd, Have, is, any, row, pick, Act.put, List.setIfInBounds_toArray, List.set_cons_zero, List.set_cons_succ, Nat.reduceAdd, Nat.reduceEqDiff, reduceIte] at hK ⊢
        go_simp
        exact hK _ _ (Below.refl _ _) rfl
      · intro t wq hbq hh K hK
        clear hh
        simp only [filled, upd, Have, is, any, row, pick, Act.put, List.setIfInBounds_toArray, List.set_cons_zero, List.set_cons_succ, Nat.reduceAdd, Nat.reduceEqDiff, reduceIte] at hK ⊢
        go_simp
        exact hK _ _ (Below.refl _ _) rfl
      · intro t wq hbq hh K hK
        have e1 := hh.1
        simp only [pick] at e1
        replace e1 : t 1 = (.int .u8 (a : Int)) := e1
        clear hh
        simp only [filled, upd, Have, is, any, row, pick, Act.put, List.setIfInBounds_toArray, List.set_cons_zero, List.set_cons_succ, Nat.reduceAdd, Nat.reduceEqDiff, reduceIte] at hK ⊢
        simp only [e1] at hK ⊢
        go_simp
        first | exact hK _ _ (Below.refl _ _) rfl | exact hK _ _ (Below.refl _ _) (int_wrap (by omega) (by omega))
      · intro t wq hbq hh K hK
        have e0 := hh.1
        simp only [pick] at e0
        replace e0 : t 0 = (.slice (some ⟨w1.heap.size, 0, none⟩) 4 4) := e0
        have e2 := hh.2.1
        simp only [pick] at e2
        replace e2 : t 2 = (.int .u8 (k : Int)) := e2
        clear hh
        simp only [filled, upd, Have, is, any, row, pick, Act.put, List.setIfInBounds_toArray, List.set_cons_zero, List.set_cons_succ, Nat.reduceAdd, Nat.reduceEqDiff, reduceIte] at hK ⊢
        simp only [e0, e2] at hK ⊢
        go_simp
        exact hK _ _ (Below.refl _ _) rfl
      · intro t wq hbq hh K hK
        have e3 := hh.1
        simp only [pick] at e3
        replace e3 : t 3 = (.pointer (some ⟨w1.heap.size, k, none⟩)) := e3
        clear hh
        simp only [filled, upd, Have, is, any, row, pick, Act.put, List.setIfInBounds_toArray, List.set_cons_zero, List.set_cons_succ, Nat.reduceAdd, Nat.reduceEqDiff, reduceIte] at hK ⊢
        simp only [e3] at hK ⊢
        have hq := (hbq.cell (p := ⟨w1.heap.size, k, none⟩) (by have := HLT.out; simpa using this)).trans HCX.out
        go_simp
        exact hK _ _ (Below.refl _ _) rfl
      · intro t wq hbq hh K hK
        clear hh
        simp only [filled, upd, Have, is, any, row, pick, Act.put, List.setIfInBounds_toArray, List.set_cons_zero, List.set_cons_succ, Nat.reduceAdd, Nat.reduceEqDiff, reduceIte] at hK ⊢
        go_simp
        exact hK _ _ (Below.refl _ _) rfl
      · intro t wq hbq hh K hK
        have e4 := hh.1
        simp only [pick] at e4
        replace e4 : t 4 = (.string (strOf x)) := e4
        have e5 := hh.2.1
        simp only [pick] at e5
        replace e5 : t 5 = (.string s) := e5
        clear hh
        simp only [filled, upd, Have, is, any, row, pick, Act.put, List.setIfInBounds_toArray, List.set_cons_zero, List.set_cons_succ, Nat.reduceAdd, Nat.reduceEqDiff, reduceIte] at hK ⊢
        simp only [e4, e5] at hK ⊢
        have hadd := HA1.out wq
        go_simp
        exact hK _ _ (Below.refl _ _) rfl
      · intro t wq hbq hh K hK
        clear hh
        simp only [filled, upd, Have, is, any, row, pick, Act.put, List.setIfInBounds_toArray, List.set_cons_zero, List.set_cons_succ, Nat.reduceAdd, Nat.reduceEqDiff, reduceIte] at hK ⊢
        go_simp
        exact hK _ _ (Below.refl _ _) rfl
      · intro t wq hbq hh K hK
        clear hh
        simp only [filled, upd, Have, is, any, row, pick, Act.put, List.setIfInBounds_toArray, List.set_cons_zero, List.set_cons_succ, Nat.reduceAdd, Nat.reduceEqDiff, reduceIte] at hK ⊢
        go_simp
        exact hK _ _ (Below.refl _ _) rfl
      · intro t wq hbq hh K hK
        have e8 := hh.1
        simp only [pick] at e8
        replace e8 : t 8 = (.int .u8 (b : Int)) := e8
        clear hh
        simp only [filled, upd, Have, is, any, row, pick, Act.put, List.setIfInBounds_toArray, List.set_cons_zero, List.set_cons_succ, Nat.reduceAdd, Nat.reduceEqDiff, reduceIte] at hK ⊢
        simp only [e8] at hK ⊢
        go_simp
        first | exact hK _ _ (Below.refl _ _) rfl | exact hK _ _ (Below.refl _ _) (int_wrap (by omega) (by omega))
      · intro t wq hbq hh K hK
        have e7 := hh.1
        simp only [pick] at e7
        replace e7 : t 7 = (.slice (some ⟨w1.heap.size, 0, none⟩) 4 4) := e7
        have e9 := hh.2.1
        simp only [pick] at e9
        replace e9 : t 9 = (.int .u8 (m : Int)) := e9
        clear hh
        simp only [filled, upd, Have, is, any, row, pick, Act.put, List.setIfInBounds_toArray, List.set_cons_zero, List.set_cons_succ, Nat.reduceAdd, Nat.reduceEqDiff, reduceIte] at hK ⊢
        simp only [e7, e9] at hK ⊢
        go_simp
        exact hK _ _ (Below.refl _ _) rfl
      · intro t wq hbq hh K hK
        have e10 := hh.1
        simp only [pick] at e10
        replace e10 : t 10 = (.pointer (some ⟨w1.heap.size, m, none⟩)) := e10
        clear hh
        simp only [filled, upd, Have, is, any, row, pick, Act.put, List.setIfInBounds_toArray, List.set_cons_zero, List.set_cons_succ, Nat.reduceAdd, Nat.reduceEqDiff, reduceIte] at hK ⊢
        simp only [e10] at hK ⊢
        have hq := (hbq.cell (p := ⟨w1.heap.size, m, none⟩) (by have := HLT.out; simpa using this)).trans HCY.out
        go_simp
        exact hK _ _ (Below.refl _ _) rfl
      · intro t wq hbq hh K hK
        have e6 := hh.1
        simp only [pick] at e6
        replace e6 : t 6 = (.string (strOf XS)) := e6
        have e11 := hh.2.1
        simp only [pick] at e11
        replace e11 : t 11 = (.string (strOf y)) := e11
        clear hh
        simp only [filled, upd, Have, is, any, row, pick, Act.put, List.setIfInBounds_toArray, List.set_cons_zero, List.set_cons_succ, Nat.reduceAdd, Nat.reduceEqDiff, reduceIte] at hK ⊢
        simp only [e6, e11] at hK ⊢
        have hadd := HA2.out wq
        go_simp
        exact hK _ _ (Below.refl _ _) rfl
      · intro t wq hbq hh K hK
        have e12 := hh.1
        simp only [pick] at e12
        replace e12 : t 12 = (.string (strOf XSY)) := e12
        clear hh
        simp only [filled, upd, Have, is, any, row, pick, Act.put, List.setIfInBounds_toArray, List.set_cons_zero, List.set_cons_succ, Nat.reduceAdd, Nat.reduceEqDiff, reduceIte] at hK ⊢
        simp only [e12] at hK ⊢
        go_simp
        refine (trim_any (strOf XSY) _ (by rw [size_strOf]; have := HN1.out; omega)).mono ?_
        rintro e w5 ⟨rfl, hb5⟩
        exact hK _ _ hb5 (congrArg (fun z => Value.string (strOf z)) HT1.out)
      · intro t wq hbq hh K hK
        clear hh
        simp only [filled, upd, Have, is, any, row, pick, Act.put, List.setIfInBounds_toArray, List.set_cons_zero, List.set_cons_succ, Nat.reduceAdd, Nat.reduceEqDiff, reduceIte] at hK ⊢
        go_simp
        exact hK _ _ (Below.refl _ _) rfl
      · intro t wq hbq hh K hK
        have e13 := hh.1
        simp only [pick] at e13
        replace e13 : t 13 = (.string (strOf T)) := e13
        have e14 := hh.2.1
        simp only [pick] at e14
        replace e14 : t 14 = (.string (strOf T)) := e14
        clear hh
        simp only [filled, upd, Have, is, any, row, pick, Act.put, List.setIfInBounds_toArray, List.set_cons_zero, List.set_cons_succ, Nat.reduceAdd, Nat.reduceEqDiff, reduceIte] at hK ⊢
        simp only [e13, e14] at hK ⊢
        go_simp
        exact hK _ _ (Below.refl _ _) (by simp)
      · intro t wq hbq hh K hK
        have e15 := hh.1
        simp only [pick] at e15
        replace e15 : t 15 = (.bool true) := e15
        clear hh
        simp only [filled, upd, Have, is, any, row, pick, Act.put, List.setIfInBounds_toArray, List.set_cons_zero, List.set_cons_succ, Nat.reduceAdd, Nat.reduceEqDiff, reduceIte] at hK ⊢
        simp only [e15] at hK ⊢
        go_simp
        exact hK _ _ (Below.refl _ _) rfl
      · intro t wq hbq hh K hK
        have e16 := hh.1
        simp only [pick] at e16
        replace e16 : t 16 = (.bool true) := e16
        clear hh
        simp only [filled, upd, Have, is, any, row, pick, Act.put, List.setIfInBounds_toArray, List.set_cons_zero, List.set_cons_succ, Nat.reduceAdd, Nat.reduceEqDiff, reduceIte] at hK ⊢
        simp only [e16] at hK ⊢
        go_simp
        exact hK _ _ (Below.refl _ _) rfl
      · intro t wq hbq hh K hK
        have e16 := hh.1
        simp only [pick] at e16
        replace e16 : t 16 = (.bool true) := e16
        have e17 := hh.2.1
        simp only [pick] at e17
        replace e17 : t 17 = (.string (strOf T)) := e17
        clear hh
        simp only [filled, upd, Have, is, any, row, pick, Act.put, List.setIfInBounds_toArray, List.set_cons_zero, List.set_cons_succ, Nat.reduceAdd, Nat.reduceEqDiff, reduceIte] at hK ⊢
        simp only [e16, e17] at hK ⊢
        go_simp
        refine (trim_any (strOf T) _ (by rw [size_strOf]; have := HN2.out; omega)).mono ?_
        rintro e w5 ⟨rfl, hb5⟩
        exact hK _ _ hb5 (congrArg (fun z => Value.string (strOf z)) HT2.out)
      · intro t wq hbq hh K hK
        have e16 := hh.1
        simp only [pick] at e16
        replace e16 : t 16 = (.bool true) := e16
        clear hh
        simp only [filled, upd, Have, is, any, row, pick, Act.put, List.setIfInBounds_toArray, List.set_cons_zero, List.set_cons_succ, Nat.reduceAdd, Nat.reduceEqDiff, reduceIte] at hK ⊢
        simp only [e16] at hK ⊢
        go_simp
        exact hK _ _ (Below.refl _ _) rfl
      · intro t wq hbq hh K hK
        have e16 := hh.1
        simp only [pick] at e16
        replace e16 : t 16 = (.bool true) := e16
        have e18 := hh.2.1
        simp only [pick] at e18
        replace e18 : t 18 = (.string (strOf T)) := e18
        have e19 := hh.2.2.1
        simp only [pick] at e19
        replace e19 : t 19 = (.string (strOf T)) := e19
        clear hh
        simp only [filled, upd, Have, is, any, row, pick, Act.put, List.setIfInBounds_toArray, List.set_cons_zero, List.set_cons_succ, Nat.reduceAdd, Nat.reduceEqDiff, reduceIte] at hK ⊢
        simp only [e16, e18, e19] at hK ⊢
        go_simp
        exact hK _ _ (Below.refl _ _) (by simp)
      · intro t wq hbq hh K hK
        have e16 := hh.1
        simp only [pick] at e16
        replace e16 : t 16 = (.bool true) := e16
        have e20 := hh.2.1
        simp only [pick] at e20
        replace e20 : t 20 = (.bool true) := e20
        clear hh
        simp only [filled, upd, Have, is, any, row, pick, Act.put, List.setIfInBounds_toArray, List.set_cons_zero, List.set_cons_succ, Nat.reduceAdd, Nat.reduceEqDiff, reduceIte] at hK ⊢
        simp only [e16, e20] at hK ⊢
        go_simp
        exact hK _ _ (Below.refl _ _) rfl
      · intro t wq hbq hh K hK
        have e21 := hh.1
        simp only [pick] at e21
        replace e21 : t 21 = (.bool true) := e21
        clear hh
        simp only [filled, upd, Have, is, any, row, pick, Act.put, List.setIfInBounds_toArray, List.set_cons_zero, List.set_cons_succ, Nat.reduceAdd, Nat.reduceEqDiff, reduceIte] at hK ⊢
        simp only [e21] at hK ⊢
        go_simp
        exact hK _ _ (Below.refl _ _) rfl
      · intro t wq hbq hh K hK
        have e22 := hh.1
        simp only [pick] at e22
        replace e22 : t 22 = (.bool true) := e22
        clear hh
        simp only [filled, upd, Have, is, any, row, pick, Act.put, List.setIfInBounds_toArray, List.set_cons_zero, List.set_cons_succ, Nat.reduceAdd, Nat.reduceEqDiff, reduceIte] at hK ⊢
        simp only [e22] at hK ⊢
        go_simp
        exact hK _ _ (Below.refl _ _) rfl
      · intro t wq hbq hh K hK
        have e22 := hh.1
        simp only [pick] at e22
        replace e22 : t 22 = (.bool true) := e22
        have e23 := hh.2.1
        simp only [pick] at e23
        replace e23 : t 23 = (.string (strOf T)) := e23
        clear hh
        simp only [filled, upd, Have, is, any, row, pick, Act.put, List.setIfInBounds_toArray, List.set_cons_zero, List.set_cons_succ, Nat.reduceAdd, Nat.reduceEqDiff, reduceIte] at hK ⊢
        simp only [e22, e23] at hK ⊢
        go_simp
        refine (right_any (strOf T) _ (by rw [size_strOf]; have := HN2.out; omega)).mono ?_
        rintro e w5 ⟨rfl, hb5⟩
        exact hK _ _ hb5 (congrArg (fun z => Value.string (strOf z)) HT3.out)
      · intro t wq hbq hh K hK
        have e22 := hh.1
        simp only [pick] at e22
        replace e22 : t 22 = (.bool true) := e22
        clear hh
        simp only [filled, upd, Have, is, any, row, pick, Act.put, List.setIfInBounds_toArray, List.set_cons_zero, List.set_cons_succ, Nat.reduceAdd, Nat.reduceEqDiff, reduceIte] at hK ⊢
        simp only [e22] at hK ⊢
        go_simp
        exact hK _ _ (Below.refl _ _) rfl
      · intro t wq hbq hh K hK
        have e22 := hh.1
        simp only [pick] at e22
        replace e22 : t 22 = (.bool true) := e22
        have e24 := hh.2.1
        simp only [pick] at e24
        replace e24 : t 24 = (.string (strOf T)) := e24
        have e25 := hh.2.2.1
        simp only [pick] at e25
        replace e25 : t 25 = (.string (strOf T)) := e25
        clear hh
        simp only [filled, upd, Have, is, any, row, pick, Act.put, List.setIfInBounds_toArray, List.set_cons_zero, List.set_cons_succ, Nat.reduceAdd, Nat.reduceEqDiff, reduceIte] at hK ⊢
        simp only [e22, e24, e25] at hK ⊢
        go_simp
        exact hK _ _ (Below.refl _ _) (by simp)
      · intro t wq hbq hh K hK
        have e22 := hh.1
        simp only [pick] at e22
        replace e22 : t 22 = (.bool true) := e22
        have e26 := hh.2.1
        simp only [pick] at e26
        replace e26 : t 26 = (.bool true) := e26
        clear hh
        simp only [filled, upd, Have, is, any, row, pick, Act.put, List.setIfInBounds_toArray, List.set_cons_zero, List.set_cons_succ, Nat.reduceAdd, Nat.reduceEqDiff, reduceIte] at hK ⊢
        simp only [e22, e26] at hK ⊢
        go_simp
        exact hK _ _ (Below.refl _ _) rfl
      · intro t wq hbq hh K hK
        have e27 := hh.1
        simp only [pick] at e27
        replace e27 : t 27 = (.bool true) := e27
        clear hh
        simp only [filled, upd, Have, is, any, row, pick, Act.put, List.setIfInBounds_toArray, List.set_cons_zero, List.set_cons_succ, Nat.reduceAdd, Nat.reduceEqDiff, reduceIte] at hK ⊢
        simp only [e27] at hK ⊢
        go_simp
        exact hK _ _ (Below.refl _ _) rfl
      · intro t wq hbq hh K hK
        have e28 := hh.1
        simp only [pick] at e28
        replace e28 : t 28 = (.bool true) := e28
        clear hh
        simp only [filled, upd, Have, is, any, row, pick, Act.put, List.setIfInBounds_toArray, List.set_cons_zero, List.set_cons_succ, Nat.reduceAdd, Nat.reduceEqDiff, reduceIte] at hK ⊢
        simp only [e28] at hK ⊢
        go_simp
        exact hK _ _ (Below.refl _ _) rfl
      · intro t wq hbq hh K hK
        have e28 := hh.1
        simp only [pick] at e28
        replace e28 : t 28 = (.bool true) := e28
        clear hh
        simp only [filled, upd, Have, is, any, row, pick, Act.put, List.setIfInBounds_toArray, List.set_cons_zero, List.set_cons_succ, Nat.reduceAdd, Nat.reduceEqDiff, reduceIte] at hK ⊢
        simp only [e28] at hK ⊢
        go_simp
        exact hK _ _ (Below.refl _ _) rfl
      · intro t wq hbq hh K hK
        have e28 := hh.1
        simp only [pick] at e28
        replace e28 : t 28 = (.bool true) := e28
        have e30 := hh.2.1
        simp only [pick] at e30
        replace e30 : t 30 = (.int .u8 (a : Int)) := e30
        clear hh
        simp only [filled, upd, Have, is, any, row, pick, Act.put, List.setIfInBounds_toArray, List.set_cons_zero, List.set_cons_succ, Nat.reduceAdd, Nat.reduceEqDiff, reduceIte] at hK ⊢
        simp only [e28, e30] at hK ⊢
        go_simp
        first | exact hK _ _ (Below.refl _ _) rfl | exact hK _ _ (Below.refl _ _) (int_wrap (by omega) (by omega))
      · intro t wq hbq hh K hK
        have e28 := hh.1
        simp only [pick] at e28
        replace e28 : t 28 = (.bool true) := e28
        have e29 := hh.2.1
        simp only [pick] at e29
        replace e29 : t 29 = (.slice (some ⟨w1.heap.size, 0, none⟩) 4 4) := e29
        have e31 := hh.2.2.1
        simp only [pick] at e31
        replace e31 : t 31 = (.int .u8 (k : Int)) := e31
        clear hh
        simp only [filled, upd, Have, is, any, row, pick, Act.put, List.setIfInBounds_toArray, List.set_cons_zero, List.set_cons_succ, Nat.reduceAdd, Nat.reduceEqDiff, reduceIte] at hK ⊢
        simp only [e28, e29, e31] at hK ⊢
        go_simp
        exact hK _ _ (Below.refl _ _) rfl
      · intro t wq hbq hh K hK
        have e28 := hh.1
        simp only [pick] at e28
        replace e28 : t 28 = (.bool true) := e28
        have e32 := hh.2.1
        simp only [pick] at e32
        replace e32 : t 32 = (.pointer (some ⟨w1.heap.size, k, none⟩)) := e32
        clear hh
        simp only [filled, upd, Have, is, any, row, pick, Act.put, List.setIfInBounds_toArray, List.set_cons_zero, List.set_cons_succ, Nat.reduceAdd, Nat.reduceEqDiff, reduceIte] at hK ⊢
        simp only [e28, e32] at hK ⊢
        have hq := (hbq.cell (p := ⟨w1.heap.size, k, none⟩) (by have := HLT.out; simpa using this)).trans HCX.out
        go_simp
        exact hK _ _ (Below.refl _ _) rfl
      · intro t wq hbq hh K hK
        have e28 := hh.1
        simp only [pick] at e28
        replace e28 : t 28 = (.bool true) := e28
        clear hh
        simp only [filled, upd, Have, is, any, row, pick, Act.put, List.setIfInBounds_toArray, List.set_cons_zero, List.set_cons_succ, Nat.reduceAdd, Nat.reduceEqDiff, reduceIte] at hK ⊢
        simp only [e28] at hK ⊢
        go_simp
        exact hK _ _ (Below.refl _ _) rfl
      · intro t wq hbq hh K hK
        have e28 := hh.1
        simp only [pick] at e28
        replace e28 : t 28 = (.bool true) := e28
        have e33 := hh.2.1
        simp only [pick] at e33
        replace e33 : t 33 = (.string (strOf x)) := e33
        have e34 := hh.2.2.1
        simp only [pick] at e34
        replace e34 : t 34 = (.string (strOf T)) := e34
        clear hh
        simp only [filled, upd, Have, is, any, row, pick, Act.put, List.setIfInBounds_toArray, List.set_cons_zero, List.set_cons_succ, Nat.reduceAdd, Nat.reduceEqDiff, reduceIte] at hK ⊢
        simp only [e28, e33, e34] at hK ⊢
        have hadd := HA3.out wq
        go_simp
        exact hK _ _ (Below.refl _ _) rfl
      · intro t wq hbq hh K hK
        have e28 := hh.1
        simp only [pick] at e28
        replace e28 : t 28 = (.bool true) := e28
        clear hh
        simp only [filled, upd, Have, is, any, row, pick, Act.put, List.setIfInBounds_toArray, List.set_cons_zero, List.set_cons_succ, Nat.reduceAdd, Nat.reduceEqDiff, reduceIte] at hK ⊢
        simp only [e28] at hK ⊢
        go_simp
        exact hK _ _ (Below.refl _ _) rfl
      · intro t wq hbq hh K hK
        have e28 := hh.1
        simp only [pick] at e28
        replace e28 : t 28 = (.bool true) := e28
        clear hh
        simp only [filled, upd, Have, is, any, row, pick, Act.put, List.setIfInBounds_toArray, List.set_cons_zero, List.set_cons_succ, Nat.reduceAdd, Nat.reduceEqDiff, reduceIte] at hK ⊢
        simp only [e28] at hK ⊢
        go_simp
        exact hK _ _ (Below.refl _ _) rfl
      · intro t wq hbq hh K hK
        have e28 := hh.1
        simp only [pick] at e28
        replace e28 : t 28 = (.bool true) := e28
        have e37 := hh.2.1
        simp only [pick] at e37
        replace e37 : t 37 = (.int .u8 (b : Int)) := e37
        clear hh
        simp only [filled, upd, Have, is, any, row, pick, Act.put, List.setIfInBounds_toArray, List.set_cons_zero, List.set_cons_succ, Nat.reduceAdd, Nat.reduceEqDiff, reduceIte] at hK ⊢
        simp only [e28, e37] at hK ⊢
        go_simp
        first | exact hK _ _ (Below.refl _ _) rfl | exact hK _ _ (Below.refl _ _) (int_wrap (by omega) (by omega))
      · intro t wq hbq hh K hK
        have e28 := hh.1
        simp only [pick] at e28
        replace e28 : t 28 = (.bool true) := e28
        have e36 := hh.2.1
        simp only [pick] at e36
        replace e36 : t 36 = (.slice (some ⟨w1.heap.size, 0, none⟩) 4 4) := e36
        have e38 := hh.2.2.1
        simp only [pick] at e38
        replace e38 : t 38 = (.int .u8 (m : Int)) := e38
        clear hh
        simp only [filled, upd, Have, is, any, row, pick, Act.put, List.setIfInBounds_toArray, List.set_cons_zero, List.set_cons_succ, Nat.reduceAdd, Nat.reduceEqDiff, reduceIte] at hK ⊢
        simp only [e28, e36, e38] at hK ⊢
        go_simp
        exact hK _ _ (Below.refl _ _) rfl
      · intro t wq hbq hh K hK
        have e28 := hh.1
        simp only [pick] at e28
        replace e28 : t 28 = (.bool true) := e28
        have e39 := hh.2.1
        simp only [pick] at e39
        replace e39 : t 39 = (.pointer (some ⟨w1.heap.size, m, none⟩)) := e39
        clear hh
        simp only [filled, upd, Have, is, any, row, pick, Act.put, List.setIfInBounds_toArray, List.set_cons_zero, List.set_cons_succ, Nat.reduceAdd, Nat.reduceEqDiff, reduceIte] at hK ⊢
        simp only [e28, e39] at hK ⊢
        have hq := (hbq.cell (p := ⟨w1.heap.size, m, none⟩) (by have := HLT.out; simpa using this)).trans HCY.out
        go_simp
        exact hK _ _ (Below.refl _ _) rfl
      · intro t wq hbq hh K hK
        have e28 := hh.1
        simp only [pick] at e28
        replace e28 : t 28 = (.bool true) := e28
        have e35 := hh.2.1
        simp only [pick] at e35
        replace e35 : t 35 = (.string (strOf XT)) := e35
        have e40 := hh.2.2.1
        simp only [pick] at e40
        replace e40 : t 40 = (.string (strOf y)) := e40
        clear hh
        simp only [filled, upd, Have, is, any, row, pick, Act.put, List.setIfInBounds_toArray, List.set_cons_zero, List.set_cons_succ, Nat.reduceAdd, Nat.reduceEqDiff, reduceIte] at hK ⊢
        simp only [e28, e35, e40] at hK ⊢
        have hadd := HA4.out wq
        go_simp
        exact hK _ _ (Below.refl _ _) rfl
      · intro t wq hbq hh K hK
        have e28 := hh.1
        simp only [pick] at e28
        replace e28 : t 28 = (.bool true) := e28
        have e41 := hh.2.1
        simp only [pick] at e41
        replace e41 : t 41 = (.string (strOf XTY)) := e41
        clear hh
        simp only [filled, upd, Have, is, any, row, pick, Act.put, List.setIfInBounds_toArray, List.set_cons_zero, List.set_cons_succ, Nat.reduceAdd, Nat.reduceEqDiff, reduceIte] at hK ⊢
        simp only [e28, e41] at hK ⊢
        go_simp
        refine (right_any (strOf XTY) _ (by rw [size_strOf]; have := HN3.out; omega)).mono ?_
        rintro e w5 ⟨rfl, hb5⟩
        exact hK _ _ hb5 (congrArg (fun z => Value.string (strOf z)) HT4.out)
      · intro t wq hbq hh K hK
        have e28 := hh.1
        simp only [pick] at e28
        replace e28 : t 28 = (.bool true) := e28
        clear hh
        simp only [filled, upd, Have, is, any, row, pick, Act.put, List.setIfInBounds_toArray, List.set_cons_zero, List.set_cons_succ, Nat.reduceAdd, Nat.reduceEqDiff, reduceIte] at hK ⊢
        simp only [e28] at hK ⊢
        go_simp
        exact hK _ _ (Below.refl _ _) rfl
      · intro t wq hbq hh K hK
        have e28 := hh.1
        simp only [pick] at e28
        replace e28 : t 28 = (.bool true) := e28
        clear hh
        simp only [filled, upd, Have, is, any, row, pick, Act.put, List.setIfInBounds_toArray, List.set_cons_zero, List.set_cons_succ, Nat.reduceAdd, Nat.reduceEqDiff, reduceIte] at hK ⊢
        simp only [e28] at hK ⊢
        go_simp
        exact hK _ _ (Below.refl _ _) rfl
      · intro t wq hbq hh K hK
        have e28 := hh.1
        simp only [pick] at e28
        replace e28 : t 28 = (.bool true) := e28
        have e44 := hh.2.1
        simp only [pick] at e44
        replace e44 : t 44 = (.int .u8 (a : Int)) := e44
        clear hh
        simp only [filled, upd, Have, is, any, row, pick, Act.put, List.setIfInBounds_toArray, List.set_cons_zero, List.set_cons_succ, Nat.reduceAdd, Nat.reduceEqDiff, reduceIte] at hK ⊢
        simp only [e28, e44] at hK ⊢
        go_simp
        first | exact hK _ _ (Below.refl _ _) rfl | exact hK _ _ (Below.refl _ _) (int_wrap (by omega) (by omega))
      · intro t wq hbq hh K hK
        have e28 := hh.1
        simp only [pick] at e28
        replace e28 : t 28 = (.bool true) := e28
        have e43 := hh.2.1
        simp only [pick] at e43
        replace e43 : t 43 = (.slice (some ⟨w1.heap.size, 0, none⟩) 4 4) := e43
        have e45 := hh.2.2.1
        simp only [pick] at e45
        replace e45 : t 45 = (.int .u8 (k : Int)) := e45
        clear hh
        simp only [filled, upd, Have, is, any, row, pick, Act.put, List.setIfInBounds_toArray, List.set_cons_zero, List.set_cons_succ, Nat.reduceAdd, Nat.reduceEqDiff, reduceIte] at hK ⊢
        simp only [e28, e43, e45] at hK ⊢
        go_simp
        exact hK _ _ (Below.refl _ _) rfl
      · intro t wq hbq hh K hK
        have e28 := hh.1
        simp only [pick] at e28
        replace e28 : t 28 = (.bool true) := e28
        have e46 := hh.2.1
        simp only [pick] at e46
        replace e46 : t 46 = (.pointer (some ⟨w1.heap.size, k, none⟩)) := e46
        clear hh
        simp only [filled, upd, Have, is, any, row, pick, Act.put, List.setIfInBounds_toArray, List.set_cons_zero, List.set_cons_succ, Nat.reduceAdd, Nat.reduceEqDiff, reduceIte] at hK ⊢
        simp only [e28, e46] at hK ⊢
        have hq := (hbq.cell (p := ⟨w1.heap.size, k, none⟩) (by have := HLT.out; simpa using this)).trans HCX.out
        go_simp
        exact hK _ _ (Below.refl _ _) rfl
      · intro t wq hbq hh K hK
        have e28 := hh.1
        simp only [pick] at e28
        replace e28 : t 28 = (.bool true) := e28
        clear hh
        simp only [filled, upd, Have, is, any, row, pick, Act.put, List.setIfInBounds_toArray, List.set_cons_zero, List.set_cons_succ, Nat.reduceAdd, Nat.reduceEqDiff, reduceIte] at hK ⊢
        simp only [e28] at hK ⊢
        go_simp
        exact hK _ _ (Below.refl _ _) rfl
      · intro t wq hbq hh K hK
        have e28 := hh.1
        simp only [pick] at e28
        replace e28 : t 28 = (.bool true) := e28
        have e47 := hh.2.1
        simp only [pick] at e47
        replace e47 : t 47 = (.string (strOf x)) := e47
        have e48 := hh.2.2.1
        simp only [pick] at e48
        replace e48 : t 48 = (.string (strOf T)) := e48
        clear hh
        simp only [filled, upd, Have, is, any, row, pick, Act.put, List.setIfInBounds_toArray, List.set_cons_zero, List.set_cons_succ, Nat.reduceAdd, Nat.reduceEqDiff, reduceIte] at hK ⊢
        simp only [e28, e47, e48] at hK ⊢
        have hadd := HA3.out wq
        go_simp
        exact hK _ _ (Below.refl _ _) rfl
      · intro t wq hbq hh K hK
        have e28 := hh.1
        simp only [pick] at e28
        replace e28 : t 28 = (.bool true) := e28
        have e49 := hh.2.1
        simp only [pick] at e49
        replace e49 : t 49 = (.string (strOf XT)) := e49
        clear hh
        simp only [filled, upd, Have, is, any, row, pick, Act.put, List.setIfInBounds_toArray, List.set_cons_zero, List.set_cons_succ, Nat.reduceAdd, Nat.reduceEqDiff, reduceIte] at hK ⊢
        simp only [e28, e49] at hK ⊢
        go_simp
        refine (right_any (strOf XT) _ (by rw [size_strOf]; have := HN4.out; omega)).mono ?_
        rintro e w5 ⟨rfl, hb5⟩
        exact hK _ _ hb5 (congrArg (fun z => Value.string (strOf z)) HT5.out)
      · intro t wq hbq hh K hK
        have e28 := hh.1
        simp only [pick] at e28
        replace e28 : t 28 = (.bool true) := e28
        have e42 := hh.2.1
        simp only [pick] at e42
        replace e42 : t 42 = (.string (strOf U)) := e42
        have e50 := hh.2.2.1
        simp only [pick] at e50
        replace e50 : t 50 = (.string (strOf U)) := e50
        clear hh
        simp only [filled, upd, Have, is, any, row, pick, Act.put, List.setIfInBounds_toArray, List.set_cons_zero, List.set_cons_succ, Nat.reduceAdd, Nat.reduceEqDiff, reduceIte] at hK ⊢
        simp only [e28, e42, e50] at hK ⊢
        go_simp
        exact hK _ _ (Below.refl _ _) (by simp)
      · intro t wq hbq hh K hK
        have e28 := hh.1
        simp only [pick] at e28
        replace e28 : t 28 = (.bool true) := e28
        have e51 := hh.2.1
        simp only [pick] at e51
        replace e51 : t 51 = (.bool true) := e51
        clear hh
        simp only [filled, upd, Have, is, any, row, pick, Act.put, List.setIfInBounds_toArray, List.set_cons_zero, List.set_cons_succ, Nat.reduceAdd, Nat.reduceEqDiff, reduceIte] at hK ⊢
        simp only [e28, e51] at hK ⊢
        go_simp
        exact hK _ _ (Below.refl _ _) rfl
      · intro t wq hbq hh K hK
        have e52 := hh.1
        simp only [pick] at e52
        replace e52 : t 52 = (.bool true) := e52
        clear hh
        simp only [filled, upd, Have, is, any, row, pick, Act.put, List.setIfInBounds_toArray, List.set_cons_zero, List.set_cons_succ, Nat.reduceAdd, Nat.reduceEqDiff, reduceIte] at hK ⊢
        simp only [e52] at hK ⊢
        go_simp
        exact hK _ _ (Below.refl _ _) rfl
    · intro t wq hbq hh
      have f53 := have_get hh 53 (by decide)
      simp only [pick] at f53
      replace f53 : t 53 = (.bool true) := f53
      clear hh
      simp only [filled, upd, Have, is, any, row, pick, Act.put, List.setIfInBounds_toArray, List.set_cons_zero, List.set_cons_succ, Nat.reduceAdd, Nat.reduceEqDiff, reduceIte]
      simp only [f53]
      go_wp2
      go_ret
      exact ⟨rfl, hbAll.trans (hbq.mono hbAll.size)⟩
  · have p1 : (300 : Int) < (s.size : Int) := by omega
    go_enter Tryd.func7, Tryd.ntmps7
    go_wp2_with fail
    refine (TokW.awake_any _).mono ?_
    rintro e w1 ⟨rfl, hb1⟩
    go_wp2_with fail
    refine (TokW.awake_any _).mono ?_
    rintro e w2 ⟨rfl, hb2⟩
    go_wp2_with fail
    go_ret
    exact ⟨rfl, bel hb1 hb2⟩
end Go.Proofs.YtnaeamnbdljcaaaDoor.Laws
