/- The law AnswerReads. -/
import Derived.Test.YthbpjkgbnmllkaaAnsI
namespace Go.Proofs.Ythbpjkgbnmllkaa.Laws
open Go.RowKit Go.Proofs.Ythbpjkgbnmllkaa.Base Go.Proofs.Ythbpjkgbnmllkaa.Base2 Go.Proofs.Ythbpjkgbnmllkaa.Base3 Go.Proofs.Ythbpjkgbnmllkaa.Regs Go.Proofs.Ythbpjkgbnmllkaa.AnsP Go.Proofs.Ythbpjkgbnmllkaa.AnsB Go.Proofs.Ythbpjkgbnmllkaa.AnsD Go.Proofs.Ythbpjkgbnmllkaa.AnsI

theorem wrap8 (n : Nat) (h : n < 256) : IntKind.u8.wrap (n : Int) = (n : Int) := by rw [IntKind.wrap_u8']; omega
theorem wrap32u (n : Nat) (h : n < 4294967296) : IntKind.u32.wrap (n : Int) = (n : Int) := by rw [IntKind.wrap_u32]; omega
set_option linter.unusedSimpArgs false in
set_option maxRecDepth 100000 in
set_option maxHeartbeats 8000000 in
/-- The walk of the law AnswerReads. -/
theorem AnswerReads_any (A : Option Addr) (n cap : Nat) (L : List UInt8) (w : World) (r : Rds w A n (bcells L)) (_c : n ≤ cap) (z : cap * 1 ≤ 140737488351232) :
    Calls Try.prog 4 #[.slice A n cap] w fun e w' => e = .returned (.bool true) ∧ Below w.heap.size w w' := by
  have hLn : L.length = n := by rw [← length_bcells]; exact r.1
  have HLn := hid hLn
  have HR := hid r
  have hni : (n : Int) ≤ 140737488351232 := by omega
  clear r hLn _c z
  by_cases h : n ≤ 1000
  · have hi : ¬ (1000 : Int) < (n : Int) := by omega
    go_enter Try.func4, Try.ntmps4
    go_wp2_with fail
    refine (awake_any _).mono ?_
    rintro e w1 ⟨rfl, hb1⟩
    have HR1 := hid (HR.out.below hb1)
    have HB1 := hid hb1
    clear hb1
    go_wp2_with fail
    refine (decode_any A n cap L _ HR1.out (by omega)).mono ?_
    rintro e w2 ⟨hb2, hm⟩
    have HR2 := hid (HR1.out.below hb2)
    have HB2 := hid (bel HB1.out hb2)
    clear hb2
    cases hd : dec L with
    | none =>
      rw [hd] at hm
      subst hm
      have HD := hid hd
      have hs := run_string_of (P := Try.prog) 22 9 5 Try.underlying22 Try.underlying5 Try.underlying9 _ cap (HR2.out.below ((Below.refl _ _).alloc (Nat.le_refl _) (.cells #[.int .i64 0, .int .i64 0, .int .i64 0, .int .i64 0, .string ⟨#[]⟩, .slice none 0 0] 24)))
      have hb3 : Below w2.heap.size w2 (w2.alloc (.cells #[.int .i64 0, .int .i64 0, .int .i64 0, .int .i64 0, .string ⟨#[]⟩, .slice none 0 0] 24)) := (Below.refl _ _).alloc (Nat.le_refl _) _
      have HX : Hid (B6 24 (w2.alloc (.cells #[.int .i64 0, .int .i64 0, .int .i64 0, .int .i64 0, .string ⟨#[]⟩, .slice none 0 0] 24)) w2.heap.size (.int .i64 0) (.int .i64 0) (.int .i64 0) (.int .i64 0) (.string ⟨#[]⟩) (.slice none 0 0)) := heap_alloc_new w2 _
      have HB3 := hid (bel HB2.out hb3)
      clear hb3 hd
      go_wp2_with fail
      refine (AnsH.decode_any (strOf L) _ (by rw [size_strOf, HLn.out]; omega)).mono ?_
      rintro e w4 ⟨hb4, hm⟩
      rw [show (strOf L).data.toList = L from rfl, HD.out] at hm
      subst hm
      have HX4 := hid (HX.out.below hb4 HX.out.lt)
      have HB4 := hid (bel HB3.out hb4)
      have hb5 : Below w4.heap.size w4 (w4.alloc (.cells #[.int .i64 0, .int .i64 0, .int .i64 0, .int .i64 0, .string ⟨#[]⟩, .string ⟨#[]⟩] 33)) := (Below.refl _ _).alloc (Nat.le_refl _) _
      have HB5 := hid (bel HB4.out hb5)
      obtain ⟨k0, k1, k2, k3, k4, k5⟩ := HX4.out.facts
      obtain ⟨d0, d1, d2, d3, d4, d5⟩ := (HX4.out.below hb5 HX4.out.lt).facts
      clear hb4 hb5 hs
      go_wp2_with fail
      refine (same_any 0 0 0 0 ⟨#[]⟩ none 0 0 [] 0 0 0 0 ⟨#[]⟩ none 0 0 [] _ (Rds.nil _) (Rds.nil _)).mono ?_
      rintro e w6 ⟨rfl, hb6⟩
      have hsame : same6 0 0 0 0 (⟨#[]⟩ : ByteArray).data.toList [] 0 0 0 0 (⟨#[]⟩ : ByteArray).data.toList [] = true := by decide
      rw [hsame]
      go_wp2
      go_ret
      exact ⟨rfl, bel HB5.out hb6⟩
    | some a =>
      rw [hd] at hm
      obtain ⟨A3, c3, rfl, hr3⟩ := hm
      obtain ⟨hLe, hF⟩ := dec_some hd
      have HD := hid hd
      have HF := hid hF
      have hal : a.kind.length ≤ 1000 ∧ a.body.length ≤ 1000 := by
        have := length_enc a
        rw [← hLe, HLn.out] at this
        omega
      have hs := run_string_of (P := Try.prog) 22 9 5 Try.underlying22 Try.underlying5 Try.underlying9 _ cap (HR2.out.below ((Below.refl _ _).alloc (Nat.le_refl _) (.cells #[.int .i64 (a.sort : Int), .int .i64 (a.status : Int), .int .i64 (AnsW.sg a.first), .int .i64 (AnsW.sg a.total), .string (strOf a.kind), .slice A3 a.body.length c3] 24)))
      have hb3 : Below w2.heap.size w2 (w2.alloc (.cells #[.int .i64 (a.sort : Int), .int .i64 (a.status : Int), .int .i64 (AnsW.sg a.first), .int .i64 (AnsW.sg a.total), .string (strOf a.kind), .slice A3 a.body.length c3] 24)) := (Below.refl _ _).alloc (Nat.le_refl _) _
      have HX3 : Hid (B6 24 (w2.alloc (.cells #[.int .i64 (a.sort : Int), .int .i64 (a.status : Int), .int .i64 (AnsW.sg a.first), .int .i64 (AnsW.sg a.total), .string (strOf a.kind), .slice A3 a.body.length c3] 24)) w2.heap.size (.int .i64 (a.sort : Int)) (.int .i64 (a.status : Int)) (.int .i64 (AnsW.sg a.first)) (.int .i64 (AnsW.sg a.total)) (.string (strOf a.kind)) (.slice A3 a.body.length c3)) := heap_alloc_new w2 _
      have HB3 := hid (bel HB2.out hb3)
      have HR3' := hid (hr3.below hb3)
      have HRL3 := hid (HR2.out.below hb3)
      have HAL := hid hal
      have HLE := hid hLe
      clear hb3 hd hr3 hLe hF hal
      go_wp2_with fail
      refine (AnsH.decode_any (strOf L) _ (by rw [size_strOf, HLn.out]; omega)).mono ?_
      rintro e w4 ⟨hb4, hm⟩
      rw [show (strOf L).data.toList = L from rfl, HD.out] at hm
      subst hm
      have hb5 : Below w4.heap.size w4 (w4.alloc (.cells #[.int .i64 (a.sort : Int), .int .i64 (a.status : Int), .int .i64 (AnsW.sg a.first), .int .i64 (AnsW.sg a.total), .string (strOf a.kind), .string (strOf a.body)] 33)) := (Below.refl _ _).alloc (Nat.le_refl _) _
      have hb45 := bel hb4 hb5
      have HY : Hid (B6 33 (w4.alloc (.cells #[.int .i64 (a.sort : Int), .int .i64 (a.status : Int), .int .i64 (AnsW.sg a.first), .int .i64 (AnsW.sg a.total), .string (strOf a.kind), .string (strOf a.body)] 33)) w4.heap.size (.int .i64 (a.sort : Int)) (.int .i64 (a.status : Int)) (.int .i64 (AnsW.sg a.first)) (.int .i64 (AnsW.sg a.total)) (.string (strOf a.kind)) (.string (strOf a.body))) := heap_alloc_new w4 _
      have HX := hid (HX3.out.below hb45 HX3.out.lt)
      have HB := hid (bel HB3.out hb45)
      have HR3 := hid (HR3'.out.below hb45)
      have HRL0 := hid (HRL3.out.below hb45)
      have HRL : Hid (Rds _ A n (bcells (enc a))) := HLE.out ▸ HRL0.out
      have HSM : Hid (same6 (a.sort : Int) (a.status : Int) (AnsW.sg a.first) (AnsW.sg a.total) a.kind a.body (a.sort : Int) (a.status : Int) (AnsW.sg a.first) (AnsW.sg a.total) a.kind a.body = true) := by show _ = _; simp [same6]
      have HISA : Hid (∀ W, Rds W A3 a.body.length (bcells a.body) → IsA a (a.sort : Int) (a.status : Int) (strOf a.kind) W A3 a.body.length c3) := fun W hW =>
        ⟨wrap8 _ HF.out.sort, wrap32u _ HF.out.status, rfl, hW, by rw [size_strOf]; have := HAL.out; omega, by have := HAL.out; omega, HF.out⟩
      clear hb4 hb5 hb45 hs
      go_wp2_with fail
      refine wp_region_rel (by kernel_rfl) [is (.int .i64 0), is (.bool true), is (.bool true), is (.agg #[.int .i64 (a.sort : Int), .int .i64 (a.status : Int), .int .i64 (AnsW.sg a.first), .int .i64 (AnsW.sg a.total), .string (strOf a.kind), .slice A3 a.body.length c3]), is (.agg #[.int .i64 (a.sort : Int), .int .i64 (a.status : Int), .int .i64 (AnsW.sg a.first), .int .i64 (AnsW.sg a.total), .string (strOf a.kind), .string (strOf a.body)]), is (.agg #[.int .i64 (a.sort : Int), .int .i64 (a.status : Int), .int .i64 (AnsW.sg a.first), .int .i64 (AnsW.sg a.total), .string (strOf a.kind), .string (strOf a.body)]), is (.bool true), is (.bool true), is (.bool true), is (.agg #[.int .i64 (a.sort : Int), .int .i64 (a.status : Int), .int .i64 (AnsW.sg a.first), .int .i64 (AnsW.sg a.total), .string (strOf a.kind), .slice A3 a.body.length c3]), row (enc a).length (bcells (enc a)), is (.string (strOf (enc a))), is (.slice A n cap), is (.string (strOf (enc a))), is (.bool true), is (.bool true), is (.bool true)] [[], [0], [1], [2], [2, 3], [2], [2, 4, 5], [2, 6], [7], [8], [8, 9], [8, 10], [8], [8, 12], [8, 11, 13], [8, 14], [15]] (by kernel_rfl) ?_ ?_
      · refine ⟨?_, ?_, ?_, ?_, ?_, ?_, ?_, ?_, ?_, ?_, ?_, ?_, ?_, ?_, ?_, ?_, ?_, trivial⟩
        · intro t wq hbq hh K hK
          clear hh
          simp only [filled, upd, Have, is, any, row, pick, Act.put, List.setIfInBounds_toArray, List.set_cons_zero, List.set_cons_succ, Nat.reduceAdd, Nat.reduceEqDiff, reduceIte] at hK ⊢
          go_simp
          exact hK _ _ (Below.refl _ _) rfl
        · intro t wq hbq hh K hK
          have e0 := hh.1
          simp only [pick] at e0
          replace e0 : t 0 = (.int .i64 0) := e0
          clear hh
          simp only [filled, upd, Have, is, any, row, pick, Act.put, List.setIfInBounds_toArray, List.set_cons_zero, List.set_cons_succ, Nat.reduceAdd, Nat.reduceEqDiff, reduceIte] at hK ⊢
          simp only [e0] at hK ⊢
          go_simp
          first | exact hK _ _ (Below.refl _ _) rfl | exact hK _ _ (Below.refl _ _) (int_wrap (by omega) (by omega))
        · intro t wq hbq hh K hK
          have e1 := hh.1
          simp only [pick] at e1
          replace e1 : t 1 = (.bool true) := e1
          clear hh
          simp only [filled, upd, Have, is, any, row, pick, Act.put, List.setIfInBounds_toArray, List.set_cons_zero, List.set_cons_succ, Nat.reduceAdd, Nat.reduceEqDiff, reduceIte] at hK ⊢
          simp only [e1] at hK ⊢
          go_simp
          exact hK _ _ (Below.refl _ _) rfl
        · intro t wq hbq hh K hK
          have e2 := hh.1
          simp only [pick] at e2
          replace e2 : t 2 = (.bool true) := e2
          clear hh
          simp only [filled, upd, Have, is, any, row, pick, Act.put, List.setIfInBounds_toArray, List.set_cons_zero, List.set_cons_succ, Nat.reduceAdd, Nat.reduceEqDiff, reduceIte] at hK ⊢
          simp only [e2] at hK ⊢
          obtain ⟨k0, k1, k2, k3, k4, k5⟩ := (HX.out.below hbq HX.out.lt).facts
          go_simp
          exact hK _ _ (Below.refl _ _) rfl
        · intro t wq hbq hh K hK
          have e2 := hh.1
          simp only [pick] at e2
          replace e2 : t 2 = (.bool true) := e2
          have e3 := hh.2.1
          simp only [pick] at e3
          replace e3 : t 3 = (.agg #[.int .i64 (a.sort : Int), .int .i64 (a.status : Int), .int .i64 (AnsW.sg a.first), .int .i64 (AnsW.sg a.total), .string (strOf a.kind), .slice A3 a.body.length c3]) := e3
          clear hh
          simp only [filled, upd, Have, is, any, row, pick, Act.put, List.setIfInBounds_toArray, List.set_cons_zero, List.set_cons_succ, Nat.reduceAdd, Nat.reduceEqDiff, reduceIte] at hK ⊢
          simp only [e2, e3] at hK ⊢
          go_simp
          go_simp
          refine (of_any _ _ _ _ _ A3 _ c3 a.body _ (HR3.out.below hbq)).mono ?_
          rintro e w9 ⟨rfl, hb9⟩
          exact hK _ _ hb9 rfl
        · intro t wq hbq hh K hK
          have e2 := hh.1
          simp only [pick] at e2
          replace e2 : t 2 = (.bool true) := e2
          clear hh
          simp only [filled, upd, Have, is, any, row, pick, Act.put, List.setIfInBounds_toArray, List.set_cons_zero, List.set_cons_succ, Nat.reduceAdd, Nat.reduceEqDiff, reduceIte] at hK ⊢
          simp only [e2] at hK ⊢
          obtain ⟨k0, k1, k2, k3, k4, k5⟩ := (HY.out.below hbq HY.out.lt).facts
          go_simp
          exact hK _ _ (Below.refl _ _) rfl
        · intro t wq hbq hh K hK
          have e2 := hh.1
          simp only [pick] at e2
          replace e2 : t 2 = (.bool true) := e2
          have e4 := hh.2.1
          simp only [pick] at e4
          replace e4 : t 4 = (.agg #[.int .i64 (a.sort : Int), .int .i64 (a.status : Int), .int .i64 (AnsW.sg a.first), .int .i64 (AnsW.sg a.total), .string (strOf a.kind), .string (strOf a.body)]) := e4
          have e5 := hh.2.2.1
          simp only [pick] at e5
          replace e5 : t 5 = (.agg #[.int .i64 (a.sort : Int), .int .i64 (a.status : Int), .int .i64 (AnsW.sg a.first), .int .i64 (AnsW.sg a.total), .string (strOf a.kind), .string (strOf a.body)]) := e5
          clear hh
          simp only [filled, upd, Have, is, any, row, pick, Act.put, List.setIfInBounds_toArray, List.set_cons_zero, List.set_cons_succ, Nat.reduceAdd, Nat.reduceEqDiff, reduceIte] at hK ⊢
          simp only [e2, e4, e5] at hK ⊢
          have heq := eq33 (a.sort : Int) (a.status : Int) (AnsW.sg a.first) (AnsW.sg a.total) (a.sort : Int) (a.status : Int) (AnsW.sg a.first) (AnsW.sg a.total) a.kind a.body a.kind a.body wq
          rw [HSM.out] at heq
          go_simp
          exact hK _ _ (Below.refl _ _) rfl
        · intro t wq hbq hh K hK
          have e2 := hh.1
          simp only [pick] at e2
          replace e2 : t 2 = (.bool true) := e2
          have e6 := hh.2.1
          simp only [pick] at e6
          replace e6 : t 6 = (.bool true) := e6
          clear hh
          simp only [filled, upd, Have, is, any, row, pick, Act.put, List.setIfInBounds_toArray, List.set_cons_zero, List.set_cons_succ, Nat.reduceAdd, Nat.reduceEqDiff, reduceIte] at hK ⊢
          simp only [e2, e6] at hK ⊢
          go_simp
          exact hK _ _ (Below.refl _ _) rfl
        · intro t wq hbq hh K hK
          have e7 := hh.1
          simp only [pick] at e7
          replace e7 : t 7 = (.bool true) := e7
          clear hh
          simp only [filled, upd, Have, is, any, row, pick, Act.put, List.setIfInBounds_toArray, List.set_cons_zero, List.set_cons_succ, Nat.reduceAdd, Nat.reduceEqDiff, reduceIte] at hK ⊢
          simp only [e7] at hK ⊢
          go_simp
          exact hK _ _ (Below.refl _ _) rfl
        · intro t wq hbq hh K hK
          have e8 := hh.1
          simp only [pick] at e8
          replace e8 : t 8 = (.bool true) := e8
          clear hh
          simp only [filled, upd, Have, is, any, row, pick, Act.put, List.setIfInBounds_toArray, List.set_cons_zero, List.set_cons_succ, Nat.reduceAdd, Nat.reduceEqDiff, reduceIte] at hK ⊢
          simp only [e8] at hK ⊢
          obtain ⟨k0, k1, k2, k3, k4, k5⟩ := (HX.out.below hbq HX.out.lt).facts
          go_simp
          exact hK _ _ (Below.refl _ _) rfl
        · intro t wq hbq hh K hK
          have e8 := hh.1
          simp only [pick] at e8
          replace e8 : t 8 = (.bool true) := e8
          have e9 := hh.2.1
          simp only [pick] at e9
          replace e9 : t 9 = (.agg #[.int .i64 (a.sort : Int), .int .i64 (a.status : Int), .int .i64 (AnsW.sg a.first), .int .i64 (AnsW.sg a.total), .string (strOf a.kind), .slice A3 a.body.length c3]) := e9
          clear hh
          simp only [filled, upd, Have, is, any, row, pick, Act.put, List.setIfInBounds_toArray, List.set_cons_zero, List.set_cons_succ, Nat.reduceAdd, Nat.reduceEqDiff, reduceIte] at hK ⊢
          simp only [e8, e9] at hK ⊢
          go_simp
          go_simp
          refine (encode_any' a _ _ _ _ _ _ A3 _ c3 (HISA.out wq (HR3.out.below hbq)) rfl rfl).mono ?_
          rintro e w9 ⟨v, rfl, hown, hb9⟩
          obtain ⟨A9, c9, rfl, hc9, hm9, hr9⟩ := owns_form hown
          exact hK _ _ hb9 ⟨_, _, rfl, hc9, hm9, hr9⟩
        · intro t wq hbq hh K hK
          have e8 := hh.1
          simp only [pick] at e8
          replace e8 : t 8 = (.bool true) := e8
          have e10 := hh.2.1
          simp only [pick] at e10
          clear hh
          simp only [filled, upd, Have, is, any, row, pick, Act.put, List.setIfInBounds_toArray, List.set_cons_zero, List.set_cons_succ, Nat.reduceAdd, Nat.reduceEqDiff, reduceIte] at hK ⊢
          obtain ⟨A10, c10, e10, hc10, hm10, hr10⟩ := e10
          simp only [e8, e10] at hK ⊢
          have hs := run_string_of (P := Try.prog) 22 9 5 Try.underlying22 Try.underlying5 Try.underlying9 _ c10 hr10
          go_simp
          exact hK _ _ (Below.refl _ _) rfl
        · intro t wq hbq hh K hK
          have e8 := hh.1
          simp only [pick] at e8
          replace e8 : t 8 = (.bool true) := e8
          clear hh
          simp only [filled, upd, Have, is, any, row, pick, Act.put, List.setIfInBounds_toArray, List.set_cons_zero, List.set_cons_succ, Nat.reduceAdd, Nat.reduceEqDiff, reduceIte] at hK ⊢
          simp only [e8] at hK ⊢
          go_simp
          exact hK _ _ (Below.refl _ _) rfl
        · intro t wq hbq hh K hK
          have e8 := hh.1
          simp only [pick] at e8
          replace e8 : t 8 = (.bool true) := e8
          have e12 := hh.2.1
          simp only [pick] at e12
          replace e12 : t 12 = (.slice A n cap) := e12
          clear hh
          simp only [filled, upd, Have, is, any, row, pick, Act.put, List.setIfInBounds_toArray, List.set_cons_zero, List.set_cons_succ, Nat.reduceAdd, Nat.reduceEqDiff, reduceIte] at hK ⊢
          simp only [e8, e12] at hK ⊢
          have hs := run_string_of (P := Try.prog) 22 9 5 Try.underlying22 Try.underlying5 Try.underlying9 _ cap (HRL.out.below hbq)
          go_simp
          exact hK _ _ (Below.refl _ _) rfl
        · intro t wq hbq hh K hK
          have e8 := hh.1
          simp only [pick] at e8
          replace e8 : t 8 = (.bool true) := e8
          have e11 := hh.2.1
          simp only [pick] at e11
          replace e11 : t 11 = (.string (strOf (enc a))) := e11
          have e13 := hh.2.2.1
          simp only [pick] at e13
          replace e13 : t 13 = (.string (strOf (enc a))) := e13
          clear hh
          simp only [filled, upd, Have, is, any, row, pick, Act.put, List.setIfInBounds_toArray, List.set_cons_zero, List.set_cons_succ, Nat.reduceAdd, Nat.reduceEqDiff, reduceIte] at hK ⊢
          simp only [e8, e11, e13] at hK ⊢
          have hbe : ((strOf (enc a)).toList == (strOf (enc a)).toList) = true := by rw [Regs.str_beq]; simp
          go_simp
          exact hK _ _ (Below.refl _ _) rfl
        · intro t wq hbq hh K hK
          have e8 := hh.1
          simp only [pick] at e8
          replace e8 : t 8 = (.bool true) := e8
          have e14 := hh.2.1
          simp only [pick] at e14
          replace e14 : t 14 = (.bool true) := e14
          clear hh
          simp only [filled, upd, Have, is, any, row, pick, Act.put, List.setIfInBounds_toArray, List.set_cons_zero, List.set_cons_succ, Nat.reduceAdd, Nat.reduceEqDiff, reduceIte] at hK ⊢
          simp only [e8, e14] at hK ⊢
          go_simp
          exact hK _ _ (Below.refl _ _) rfl
        · intro t wq hbq hh K hK
          have e15 := hh.1
          simp only [pick] at e15
          replace e15 : t 15 = (.bool true) := e15
          clear hh
          simp only [filled, upd, Have, is, any, row, pick, Act.put, List.setIfInBounds_toArray, List.set_cons_zero, List.set_cons_succ, Nat.reduceAdd, Nat.reduceEqDiff, reduceIte] at hK ⊢
          simp only [e15] at hK ⊢
          go_simp
          exact hK _ _ (Below.refl _ _) rfl
      · intro t wq hbq hh
        have f16 := have_get hh 16 (by decide)
        simp only [pick] at f16
        replace f16 : t 16 = (.bool true) := f16
        clear hh
        simp only [filled, upd, Have, is, any, row, pick, Act.put, List.setIfInBounds_toArray, List.set_cons_zero, List.set_cons_succ, Nat.reduceAdd, Nat.reduceEqDiff, reduceIte]
        simp only [f16]
        go_wp2
        go_ret
        exact ⟨rfl, HB.out.trans (hbq.mono HB.out.size)⟩
  · have hi : (1000 : Int) < (n : Int) := by omega
    go_enter Try.func4, Try.ntmps4
    go_wp2_with fail
    refine (awake_any _).mono ?_
    rintro e w1 ⟨rfl, hb1⟩
    have HB1 := hid hb1
    clear hb1
    go_wp2_with fail
    refine (awake_any _).mono ?_
    rintro e w2 ⟨rfl, hb2⟩
    have HB2 := hid (bel HB1.out hb2)
    clear hb2
    go_wp2
    go_ret
    exact ⟨rfl, HB2.out⟩
end Go.Proofs.Ythbpjkgbnmllkaa.Laws
