/- Scripts: the document's Encode. -/
import Derived.Test.YtafnekilnbhhlaaScrE
import Derived.Test.YtafnekilnbhhlaaAnsG
namespace Go.Proofs.Ytafnekilnbhhlaa.ScrF
open Go.RowKit Go.Proofs.Ytafnekilnbhhlaa.Base Go.Proofs.Ytafnekilnbhhlaa.Base2 Go.Proofs.Ytafnekilnbhhlaa.Base3 Go.Proofs.Ytafnekilnbhhlaa.Regs Go.Proofs.Ytafnekilnbhhlaa.AnsP Go.Proofs.Ytafnekilnbhhlaa.ScrP Go.Proofs.Ytafnekilnbhhlaa.ScrB Go.Proofs.Ytafnekilnbhhlaa.ScrW Go.Proofs.Ytafnekilnbhhlaa.ScrE

theorem _root_.Go.Proofs.Ytafnekilnbhhlaa.ScrB.OB.rds {T : TypeId} {w : World} {g : Nat} {o : O} (h : OB T w g o) (hr : o.r.length = 16) : Rds w (some ⟨g, 11, none⟩) 16 (bcells o.r) :=
  Rds.of_spot (by rw [length_bcells, hr]) h.lt fun j hj => by
    rw [cell_of_row w g (11 + j) _ _ _ h, List.getElem?_toArray, Nat.add_comm 11 j]
    exact List.getElem?_eq_getElem hj
theorem kf (o : O) (hk : o.k < 256) (hf : o.f < 256) : [Value.int .u8 (o.k : Int), .int .u8 (o.f : Int)] = bcells (be o.k 1 ++ be o.f 1) := by
  have e1 : (UInt8.ofNat o.k).toNat = o.k := by simp; omega
  have e2 : (UInt8.ofNat o.f).toNat = o.f := by simp; omega
  simp [be, bcells, e1, e2]
set_option linter.unusedSimpArgs false in
set_option maxRecDepth 100000 in
set_option maxHeartbeats 16000000 in
theorem encode_any (A : Option Addr) (n c : Nat) (l : List O) (w : World) (h : Ops w A n l) (hs : ∀ o ∈ l, Small o) (hn : n ≤ 100) :
    Calls Try.prog 11 #[.slice A n c] w fun e w' => e = .returned (.string (strOf (encs l))) ∧ Below w.heap.size w w' := by
  have hln := h.1
  have HLN := hid hln
  have HO0 := hid h
  have HS := hid hs
  have HLE : Hid ((encs l).length ≤ 400010000) := by have := encs_small l hs; rw [hln] at this; show _ ≤ _; omega
  clear h hs hln
  go_enter Try.func11, Try.ntmps11
  go_wp2
  go_loopw [3, 4, 5, 8] (fun v3 _ _ vk wr => ∃ (k : Nat) (X : List UInt8), k ≤ n ∧ vk = .int .i64 (k : Int) ∧ v3 = .string (strOf X) ∧ Hid (X = encs (l.take k)) ∧ Hid (Ops wr A n l) ∧ Hid (Below w.heap.size w wr)) (fun _ _ _ vk _ => n - (intOf vk).toNat)
  case atStart => exact ⟨0, [], Nat.zero_le _, rfl, rfl, rfl, HO0.out, Below.refl _ _⟩
  case round =>
    clear HO0
    obtain ⟨k, X, hk, rfl, rfl, HX, HOS, HB⟩ := hrel
    by_cases hlt : k < n
    · have hkl : k < l.length := by rw [HLN.out]; exact hlt
      obtain ⟨b, off, rfl, hbl⟩ := HOS.out.spot (by omega)
      have hld := HOS.out.load k hkl (S := 40) Try.underlying40 (by kernel_rfl)
      obtain ⟨o, ho⟩ : ∃ o, o = l[k] := ⟨_, rfl⟩
      rw [← ho] at hld
      have HSA := HS
      have HSO : Hid (Small o) := HSA.out o (by rw [ho]; exact List.getElem_mem hkl)
      have HX2 : Hid (X ++ enco o = encs (l.take (k + 1))) := by show _ = _; rw [HX.out, ho, List.take_succ_eq_append_getElem hkl, encs_append]; simp [encs]
      have HXL : Hid (X.length ≤ 400010000) := by
        have h1 : encs l = encs (l.take k) ++ encs (l.drop k) := by rw [← encs_append, List.take_append_drop]
        have := congrArg List.length h1
        have h2 := HLE.out
        rw [List.length_append, ← HX.out] at this
        show _ ≤ _
        omega
      clear ho hkl HS
      have HS := HSO
      clear HSO
      have HLD := hid hld
      clear hld
      go_upto_region 6 with (first | refine load_as HLD.out (.tmp 13) rfl rfl rfl ?_ | refine store_op (heap_alloc_new _ _) rfl o HS.out.fits.r (.tmp 5) (.tmp 14) rfl rfl rfl rfl (by kernel_rfl) ?_)
      obtain ⟨gb, hgb⟩ : ∃ gb, gb = wr.heap.size := ⟨_, rfl⟩
      generalize hW : World.setRow _ _ _ = W1
      have h1 : OB 40 W1 wr.heap.size o ∧ Below wr.heap.size wr W1 := by
        subst hW
        exact fresh _ _ _ _
      have HO6 := hid h1.1
      have HB6 := hid (HB.out.trans (h1.2.mono HB.out.size))
      have HP6 := hid (HOS.out.below h1.2)
      rw [← hgb] at HO6 ⊢
      clear h1 hW HLD hgb HB HOS hbl
      obtain ⟨KF, hKF⟩ : ∃ KF, KF = be o.k 1 ++ be o.f 1 := ⟨_, rfl⟩
      have HKF : Hid ([Value.int .u8 (o.k : Int), .int .u8 (o.f : Int)] = bcells KF) := by rw [hKF]; exact kf o HS.out.fits.k HS.out.fits.f
      have HKL : Hid (KF = be o.k 1 ++ be o.f 1) := hKF
      have HXL0 := HXL
      clear hKF HXL
      have HXL : Hid (X.length + KF.length ≤ 400010002) := by have := HXL0.out; show _ ≤ _; rw [HKL.out, List.length_append, length_be, length_be]; omega
      have HO := HO6
      have HLT : Hid (gb < W1.heap.size) := HO.out.lt
      refine wp_region_rel_tail (by kernel_rfl) 23 [is (.string (strOf X)), is (.pointer (some ⟨gb, 0, none⟩)), is (.int .u8 (o.k : Int)), is (.pointer (some ⟨gb, 1, none⟩)), is (.int .u8 (o.f : Int)), row 2 (bcells KF), is (.string (strOf KF)), is (.string (strOf (X ++ KF))), is (.pointer (some ⟨gb, 2, none⟩)), is (.int .i64 (AnsW.sg o.h)), is (.int .u64 (o.h : Int)), is (.string (strOf (be o.h 8))), is (.string (strOf (X ++ (KF ++ (be o.h 8))))), is (.pointer (some ⟨gb, 3, none⟩)), is (.int .i64 (AnsW.sg o.a)), is (.int .u64 (o.a : Int)), is (.string (strOf (be o.a 8))), is (.string (strOf (X ++ (KF ++ ((be o.h 8) ++ (be o.a 8)))))), is (.pointer (some ⟨gb, 4, none⟩)), is (.int .i64 (AnsW.sg o.b)), is (.int .u64 (o.b : Int)), is (.string (strOf (be o.b 8))), is (.string (strOf (X ++ (KF ++ ((be o.h 8) ++ ((be o.a 8) ++ (be o.b 8)))))))] [[], [], [1], [], [3], [1, 2, 3, 4], [1, 2, 3, 4, 5], [0, 1, 2, 3, 4, 5, 6], [], [8], [8, 9], [8, 9, 10], [0, 1, 2, 3, 4, 5, 6, 7, 8, 9, 10, 11], [], [13], [13, 14], [13, 14, 15], [0, 1, 2, 3, 4, 5, 6, 7, 8, 9, 10, 11, 12, 13, 14, 15, 16], [], [18], [18, 19], [18, 19, 20], [0, 1, 2, 3, 4, 5, 6, 7, 8, 9, 10, 11, 12, 13, 14, 15, 16, 17, 18, 19, 20, 21], [0, 1, 2, 3, 4, 5, 6, 7, 8, 9, 10, 11, 12, 13, 14, 15, 16, 17, 18, 19, 20, 21, 22]] (by kernel_rfl) ?_ ?_
      · refine ⟨?_, ?_, ?_, ?_, ?_, ?_, ?_, ?_, ?_, ?_, ?_, ?_, ?_, ?_, ?_, ?_, ?_, ?_, ?_, ?_, ?_, ?_, ?_, trivial⟩
        · intro t wq hbq hh K hK
          clear hh
          simp only [filled, filledN, upd, Have, is, any, row, pick, Act.put, List.setIfInBounds_toArray, List.set_cons_zero, List.set_cons_succ, Nat.reduceAdd, Nat.reduceEqDiff, reduceIte] at hK ⊢
          go_simp
          exact hK _ _ (Below.refl _ _) rfl
        · intro t wq hbq hh K hK
          clear hh
          simp only [filled, filledN, upd, Have, is, any, row, pick, Act.put, List.setIfInBounds_toArray, List.set_cons_zero, List.set_cons_succ, Nat.reduceAdd, Nat.reduceEqDiff, reduceIte] at hK ⊢
          go_simp
          exact hK _ _ (Below.refl _ _) rfl
        · intro t wq hbq hh K hK
          have e1 := hh.1
          simp only [pick] at e1
          replace e1 : t 1 = (.pointer (some ⟨gb, 0, none⟩)) := e1
          clear hh
          simp only [filled, filledN, upd, Have, is, any, row, pick, Act.put, List.setIfInBounds_toArray, List.set_cons_zero, List.set_cons_succ, Nat.reduceAdd, Nat.reduceEqDiff, reduceIte] at hK ⊢
          simp only [e1] at hK ⊢
          have hq := (HO.out.under hbq HLT.out).cell 0 (v := .int .u8 (o.k : Int)) rfl
          go_simp
          exact hK _ _ (Below.refl _ _) rfl
        · intro t wq hbq hh K hK
          clear hh
          simp only [filled, filledN, upd, Have, is, any, row, pick, Act.put, List.setIfInBounds_toArray, List.set_cons_zero, List.set_cons_succ, Nat.reduceAdd, Nat.reduceEqDiff, reduceIte] at hK ⊢
          go_simp
          exact hK _ _ (Below.refl _ _) rfl
        · intro t wq hbq hh K hK
          have e3 := hh.1
          simp only [pick] at e3
          replace e3 : t 3 = (.pointer (some ⟨gb, 1, none⟩)) := e3
          clear hh
          simp only [filled, filledN, upd, Have, is, any, row, pick, Act.put, List.setIfInBounds_toArray, List.set_cons_zero, List.set_cons_succ, Nat.reduceAdd, Nat.reduceEqDiff, reduceIte] at hK ⊢
          simp only [e3] at hK ⊢
          have hq := (HO.out.under hbq HLT.out).cell 1 (v := .int .u8 (o.f : Int)) rfl
          go_simp
          exact hK _ _ (Below.refl _ _) rfl
        · intro t wq hbq hh K hK
          have e2 := hh.2.1
          simp only [pick] at e2
          replace e2 : t 2 = (.int .u8 (o.k : Int)) := e2
          have e4 := hh.2.2.2.1
          simp only [pick] at e4
          replace e4 : t 4 = (.int .u8 (o.f : Int)) := e4
          clear hh
          simp only [filled, filledN, upd, Have, is, any, row, pick, Act.put, List.setIfInBounds_toArray, List.set_cons_zero, List.set_cons_succ, Nat.reduceAdd, Nat.reduceEqDiff, reduceIte] at hK ⊢
          simp only [e2, e4] at hK ⊢
          go_simp
          go_simp
          exact hK _ _ ((Below.refl _ _).alloc (Nat.le_refl _) _) ⟨_, _, rfl, Nat.le_refl _, by decide, Rds.of_spot (by rw [← HKF.out]; rfl) (by simp) (fun j hj => by rw [Nat.zero_add, World.cell?_alloc_mark, List.getElem?_toArray]; have e := HKF.out; rw [e]; exact List.getElem?_eq_getElem hj)⟩
        · intro t wq hbq hh K hK
          have e5 := hh.2.2.2.2.1
          simp only [pick] at e5
          clear hh
          simp only [filled, filledN, upd, Have, is, any, row, pick, Act.put, List.setIfInBounds_toArray, List.set_cons_zero, List.set_cons_succ, Nat.reduceAdd, Nat.reduceEqDiff, reduceIte] at hK ⊢
          obtain ⟨A5, c5, e5, hc5, hm5, hr5⟩ := e5
          simp only [e5] at hK ⊢
          have hs := run_string_of (P := Try.prog) 25 9 5 Try.underlying25 Try.underlying5 Try.underlying9 KF c5 hr5
          go_simp
          exact hK _ _ (Below.refl _ _) rfl
        · intro t wq hbq hh K hK
          have e0 := hh.1
          simp only [pick] at e0
          replace e0 : t 0 = (.string (strOf X)) := e0
          have e6 := hh.2.2.2.2.2.2.1
          simp only [pick] at e6
          replace e6 : t 6 = (.string (strOf KF)) := e6
          clear hh
          simp only [filled, filledN, upd, Have, is, any, row, pick, Act.put, List.setIfInBounds_toArray, List.set_cons_zero, List.set_cons_succ, Nat.reduceAdd, Nat.reduceEqDiff, reduceIte] at hK ⊢
          simp only [e0, e6] at hK ⊢
          have hlen : X.length + KF.length ≤ 9223372036854775807 := by
            have := HXL.out; have := HS.out.s; have := HS.out.t; have := HS.out.c; have := HS.out.d; have := HS.out.fits.r
            try simp only [List.length_append, length_be, str]
            omega
          have hadd : (Op.stringOp .add (strOf X) (strOf KF)).run Try.prog wq = .ok (.string (strOf (X ++ KF))) wq := by have h := str_add (P := Try.prog) X KF wq hlen; simpa only [List.append_assoc] using h
          go_simp
          exact hK _ _ (Below.refl _ _) rfl
        · intro t wq hbq hh K hK
          clear hh
          simp only [filled, filledN, upd, Have, is, any, row, pick, Act.put, List.setIfInBounds_toArray, List.set_cons_zero, List.set_cons_succ, Nat.reduceAdd, Nat.reduceEqDiff, reduceIte] at hK ⊢
          go_simp
          exact hK _ _ (Below.refl _ _) rfl
        · intro t wq hbq hh K hK
          have e8 := hh.1
          simp only [pick] at e8
          replace e8 : t 8 = (.pointer (some ⟨gb, 2, none⟩)) := e8
          clear hh
          simp only [filled, filledN, upd, Have, is, any, row, pick, Act.put, List.setIfInBounds_toArray, List.set_cons_zero, List.set_cons_succ, Nat.reduceAdd, Nat.reduceEqDiff, reduceIte] at hK ⊢
          simp only [e8] at hK ⊢
          have hq := (HO.out.under hbq HLT.out).cell 2 (v := .int .i64 (AnsW.sg o.h)) rfl
          go_simp
          exact hK _ _ (Below.refl _ _) rfl
        · intro t wq hbq hh K hK
          have e9 := hh.2.1
          simp only [pick] at e9
          replace e9 : t 9 = (.int .i64 (AnsW.sg o.h)) := e9
          clear hh
          simp only [filled, filledN, upd, Have, is, any, row, pick, Act.put, List.setIfInBounds_toArray, List.set_cons_zero, List.set_cons_succ, Nat.reduceAdd, Nat.reduceEqDiff, reduceIte] at hK ⊢
          simp only [e9] at hK ⊢
          go_simp
          exact hK _ _ (Below.refl _ _) (int_eq (AnsW.wrap_sg _ HS.out.fits.h))
        · intro t wq hbq hh K hK
          have e10 := hh.2.2.1
          simp only [pick] at e10
          replace e10 : t 10 = (.int .u64 (o.h : Int)) := e10
          clear hh
          simp only [filled, filledN, upd, Have, is, any, row, pick, Act.put, List.setIfInBounds_toArray, List.set_cons_zero, List.set_cons_succ, Nat.reduceAdd, Nat.reduceEqDiff, reduceIte] at hK ⊢
          simp only [e10] at hK ⊢
          go_simp
          refine (AnsF.number_any o.h 8 _ (by have := HS.out.fits.h; omega) (by omega)).mono ?_
          rintro e w5 ⟨rfl, hb5⟩
          exact hK _ _ hb5 rfl
        · intro t wq hbq hh K hK
          have e7 := hh.2.2.2.2.2.2.2.1
          simp only [pick] at e7
          replace e7 : t 7 = (.string (strOf (X ++ KF))) := e7
          have e11 := hh.2.2.2.2.2.2.2.2.2.2.2.1
          simp only [pick] at e11
          replace e11 : t 11 = (.string (strOf (be o.h 8))) := e11
          clear hh
          simp only [filled, filledN, upd, Have, is, any, row, pick, Act.put, List.setIfInBounds_toArray, List.set_cons_zero, List.set_cons_succ, Nat.reduceAdd, Nat.reduceEqDiff, reduceIte] at hK ⊢
          simp only [e7, e11] at hK ⊢
          have hlen : (X ++ KF).length + (be o.h 8).length ≤ 9223372036854775807 := by
            have := HXL.out; have := HS.out.s; have := HS.out.t; have := HS.out.c; have := HS.out.d; have := HS.out.fits.r
            try simp only [List.length_append, length_be, str]
            omega
          have hadd : (Op.stringOp .add (strOf (X ++ KF)) (strOf (be o.h 8))).run Try.prog wq = .ok (.string (strOf (X ++ (KF ++ (be o.h 8))))) wq := by have h := str_add (P := Try.prog) (X ++ KF) (be o.h 8) wq hlen; simpa only [List.append_assoc] using h
          go_simp
          exact hK _ _ (Below.refl _ _) rfl
        · intro t wq hbq hh K hK
          clear hh
          simp only [filled, filledN, upd, Have, is, any, row, pick, Act.put, List.setIfInBounds_toArray, List.set_cons_zero, List.set_cons_succ, Nat.reduceAdd, Nat.reduceEqDiff, reduceIte] at hK ⊢
          go_simp
          exact hK _ _ (Below.refl _ _) rfl
        · intro t wq hbq hh K hK
          have e13 := hh.1
          simp only [pick] at e13
          replace e13 : t 13 = (.pointer (some ⟨gb, 3, none⟩)) := e13
          clear hh
          simp only [filled, filledN, upd, Have, is, any, row, pick, Act.put, List.setIfInBounds_toArray, List.set_cons_zero, List.set_cons_succ, Nat.reduceAdd, Nat.reduceEqDiff, reduceIte] at hK ⊢
          simp only [e13] at hK ⊢
          have hq := (HO.out.under hbq HLT.out).cell 3 (v := .int .i64 (AnsW.sg o.a)) rfl
          go_simp
          exact hK _ _ (Below.refl _ _) rfl
        · intro t wq hbq hh K hK
          have e14 := hh.2.1
          simp only [pick] at e14
          replace e14 : t 14 = (.int .i64 (AnsW.sg o.a)) := e14
          clear hh
          simp only [filled, filledN, upd, Have, is, any, row, pick, Act.put, List.setIfInBounds_toArray, List.set_cons_zero, List.set_cons_succ, Nat.reduceAdd, Nat.reduceEqDiff, reduceIte] at hK ⊢
          simp only [e14] at hK ⊢
          go_simp
          exact hK _ _ (Below.refl _ _) (int_eq (AnsW.wrap_sg _ HS.out.fits.a))
        · intro t wq hbq hh K hK
          have e15 := hh.2.2.1
          simp only [pick] at e15
          replace e15 : t 15 = (.int .u64 (o.a : Int)) := e15
          clear hh
          simp only [filled, filledN, upd, Have, is, any, row, pick, Act.put, List.setIfInBounds_toArray, List.set_cons_zero, List.set_cons_succ, Nat.reduceAdd, Nat.reduceEqDiff, reduceIte] at hK ⊢
          simp only [e15] at hK ⊢
          go_simp
          refine (AnsF.number_any o.a 8 _ (by have := HS.out.fits.a; omega) (by omega)).mono ?_
          rintro e w5 ⟨rfl, hb5⟩
          exact hK _ _ hb5 rfl
        · intro t wq hbq hh K hK
          have e12 := hh.2.2.2.2.2.2.2.2.2.2.2.2.1
          simp only [pick] at e12
          replace e12 : t 12 = (.string (strOf (X ++ (KF ++ (be o.h 8))))) := e12
          have e16 := hh.2.2.2.2.2.2.2.2.2.2.2.2.2.2.2.2.1
          simp only [pick] at e16
          replace e16 : t 16 = (.string (strOf (be o.a 8))) := e16
          clear hh
          simp only [filled, filledN, upd, Have, is, any, row, pick, Act.put, List.setIfInBounds_toArray, List.set_cons_zero, List.set_cons_succ, Nat.reduceAdd, Nat.reduceEqDiff, reduceIte] at hK ⊢
          simp only [e12, e16] at hK ⊢
          have hlen : (X ++ (KF ++ (be o.h 8))).length + (be o.a 8).length ≤ 9223372036854775807 := by
            have := HXL.out; have := HS.out.s; have := HS.out.t; have := HS.out.c; have := HS.out.d; have := HS.out.fits.r
            try simp only [List.length_append, length_be, str]
            omega
          have hadd : (Op.stringOp .add (strOf (X ++ (KF ++ (be o.h 8)))) (strOf (be o.a 8))).run Try.prog wq = .ok (.string (strOf (X ++ (KF ++ ((be o.h 8) ++ (be o.a 8)))))) wq := by have h := str_add (P := Try.prog) (X ++ (KF ++ (be o.h 8))) (be o.a 8) wq hlen; simpa only [List.append_assoc] using h
          go_simp
          exact hK _ _ (Below.refl _ _) rfl
        · intro t wq hbq hh K hK
          clear hh
          simp only [filled, filledN, upd, Have, is, any, row, pick, Act.put, List.setIfInBounds_toArray, List.set_cons_zero, List.set_cons_succ, Nat.reduceAdd, Nat.reduceEqDiff, reduceIte] at hK ⊢
          go_simp
          exact hK _ _ (Below.refl _ _) rfl
        · intro t wq hbq hh K hK
          have e18 := hh.1
          simp only [pick] at e18
          replace e18 : t 18 = (.pointer (some ⟨gb, 4, none⟩)) := e18
          clear hh
          simp only [filled, filledN, upd, Have, is, any, row, pick, Act.put, List.setIfInBounds_toArray, List.set_cons_zero, List.set_cons_succ, Nat.reduceAdd, Nat.reduceEqDiff, reduceIte] at hK ⊢
          simp only [e18] at hK ⊢
          have hq := (HO.out.under hbq HLT.out).cell 4 (v := .int .i64 (AnsW.sg o.b)) rfl
          go_simp
          exact hK _ _ (Below.refl _ _) rfl
        · intro t wq hbq hh K hK
          have e19 := hh.2.1
          simp only [pick] at e19
          replace e19 : t 19 = (.int .i64 (AnsW.sg o.b)) := e19
          clear hh
          simp only [filled, filledN, upd, Have, is, any, row, pick, Act.put, List.setIfInBounds_toArray, List.set_cons_zero, List.set_cons_succ, Nat.reduceAdd, Nat.reduceEqDiff, reduceIte] at hK ⊢
          simp only [e19] at hK ⊢
          go_simp
          exact hK _ _ (Below.refl _ _) (int_eq (AnsW.wrap_sg _ HS.out.fits.b))
        · intro t wq hbq hh K hK
          have e20 := hh.2.2.1
          simp only [pick] at e20
          replace e20 : t 20 = (.int .u64 (o.b : Int)) := e20
          clear hh
          simp only [filled, filledN, upd, Have, is, any, row, pick, Act.put, List.setIfInBounds_toArray, List.set_cons_zero, List.set_cons_succ, Nat.reduceAdd, Nat.reduceEqDiff, reduceIte] at hK ⊢
          simp only [e20] at hK ⊢
          go_simp
          refine (AnsF.number_any o.b 8 _ (by have := HS.out.fits.b; omega) (by omega)).mono ?_
          rintro e w5 ⟨rfl, hb5⟩
          exact hK _ _ hb5 rfl
        · intro t wq hbq hh K hK
          have e17 := hh.2.2.2.2.2.2.2.2.2.2.2.2.2.2.2.2.2.1
          simp only [pick] at e17
          replace e17 : t 17 = (.string (strOf (X ++ (KF ++ ((be o.h 8) ++ (be o.a 8)))))) := e17
          have e21 := hh.2.2.2.2.2.2.2.2.2.2.2.2.2.2.2.2.2.2.2.2.2.1
          simp only [pick] at e21
          replace e21 : t 21 = (.string (strOf (be o.b 8))) := e21
          clear hh
          simp only [filled, filledN, upd, Have, is, any, row, pick, Act.put, List.setIfInBounds_toArray, List.set_cons_zero, List.set_cons_succ, Nat.reduceAdd, Nat.reduceEqDiff, reduceIte] at hK ⊢
          simp only [e17, e21] at hK ⊢
          have hlen : (X ++ (KF ++ ((be o.h 8) ++ (be o.a 8)))).length + (be o.b 8).length ≤ 9223372036854775807 := by
            have := HXL.out; have := HS.out.s; have := HS.out.t; have := HS.out.c; have := HS.out.d; have := HS.out.fits.r
            try simp only [List.length_append, length_be, str]
            omega
          have hadd : (Op.stringOp .add (strOf (X ++ (KF ++ ((be o.h 8) ++ (be o.a 8))))) (strOf (be o.b 8))).run Try.prog wq = .ok (.string (strOf (X ++ (KF ++ ((be o.h 8) ++ ((be o.a 8) ++ (be o.b 8))))))) wq := by have h := str_add (P := Try.prog) (X ++ (KF ++ ((be o.h 8) ++ (be o.a 8)))) (be o.b 8) wq hlen; simpa only [List.append_assoc] using h
          go_simp
          exact hK _ _ (Below.refl _ _) rfl
      · intro t wq hbq hh
        have f22 := have_get hh 22 (by decide)
        simp only [pick] at f22
        replace f22 : t 22 = (.string (strOf (X ++ (KF ++ ((be o.h 8) ++ ((be o.a 8) ++ (be o.b 8))))))) := f22
        clear hh
        simp only [filled, filledN, upd, Have, is, any, row, pick, Act.put, List.setIfInBounds_toArray, List.set_cons_zero, List.set_cons_succ, Nat.reduceAdd, Nat.reduceEqDiff, reduceIte]
        simp only [f22]
        obtain ⟨X6, hX6⟩ : ∃ x, x = (X ++ (KF ++ ((be o.h 8) ++ ((be o.a 8) ++ (be o.b 8))))) := ⟨_, rfl⟩
        rw [← hX6]
        have HX6 : Hid (X6 = X ++ (be o.k 1 ++ be o.f 1 ++ be o.h 8 ++ be o.a 8 ++ be o.b 8)) := by show _ = _; rw [hX6, HKL.out]; simp only [List.append_assoc]
        have HXL6 : Hid (X6.length ≤ 400010100) := by have := HXL0.out; show _ ≤ _; rw [HX6.out]; simp only [List.length_append, length_be]; omega
        have HO7 := hid (HO6.out.under hbq HLT.out)
        have HB7 := hid (HB6.out.trans (hbq.mono HB6.out.size))
        have HP7 := hid (HP6.out.below hbq)
        clear hX6 hbq HO6 HB6 HP6 HXL HO HLT
        have HO := HO7
        have HXL := HXL6
        have HLT : Hid (gb < wq.heap.size) := HO.out.lt
        go_upto_region 7 with (fail)
        refine wp_region_rel_tail (by kernel_rfl) 19 [is (.string (strOf X6)), is (.pointer (some ⟨gb, 5, none⟩)), is (.string (strOf o.s)), is (.string (strOf (str o.s))), is (.string (strOf (X6 ++ (str o.s)))), is (.pointer (some ⟨gb, 6, none⟩)), is (.string (strOf o.t)), is (.string (strOf (str o.t))), is (.string (strOf (X6 ++ ((str o.s) ++ (str o.t))))), is (.pointer (some ⟨gb, 7, none⟩)), is (.pointer (some ⟨gb, 7, none⟩)), is (.string (strOf o.c)), is (.string (strOf (str o.c))), is (.string (strOf (X6 ++ ((str o.s) ++ ((str o.t) ++ (str o.c)))))), is (.pointer (some ⟨gb, 7, none⟩)), is (.pointer (some ⟨gb, 8, none⟩)), is (.string (strOf o.d)), is (.string (strOf (str o.d))), is (.string (strOf (X6 ++ ((str o.s) ++ ((str o.t) ++ ((str o.c) ++ (str o.d)))))))] [[], [], [1], [1, 2], [0, 1, 2, 3], [], [5], [5, 6], [0, 1, 2, 3, 4, 5, 6, 7], [], [9], [9, 10], [9, 10, 11], [0, 1, 2, 3, 4, 5, 6, 7, 8, 9, 10, 11, 12], [], [14], [14, 15], [14, 15, 16], [0, 1, 2, 3, 4, 5, 6, 7, 8, 9, 10, 11, 12, 13, 14, 15, 16, 17], [0, 1, 2, 3, 4, 5, 6, 7, 8, 9, 10, 11, 12, 13, 14, 15, 16, 17, 18]] (by kernel_rfl) ?_ ?_
        · refine ⟨?_, ?_, ?_, ?_, ?_, ?_, ?_, ?_, ?_, ?_, ?_, ?_, ?_, ?_, ?_, ?_, ?_, ?_, ?_, trivial⟩
          · intro t wq hbq hh K hK
            clear hh
            simp only [filled, filledN, upd, Have, is, any, row, pick, Act.put, List.setIfInBounds_toArray, List.set_cons_zero, List.set_cons_succ, Nat.reduceAdd, Nat.reduceEqDiff, reduceIte] at hK ⊢
            go_simp
            exact hK _ _ (Below.refl _ _) rfl
          · intro t wq hbq hh K hK
            clear hh
            simp only [filled, filledN, upd, Have, is, any, row, pick, Act.put, List.setIfInBounds_toArray, List.set_cons_zero, List.set_cons_succ, Nat.reduceAdd, Nat.reduceEqDiff, reduceIte] at hK ⊢
            go_simp
            exact hK _ _ (Below.refl _ _) rfl
          · intro t wq hbq hh K hK
            have e1 := hh.1
            simp only [pick] at e1
            replace e1 : t 1 = (.pointer (some ⟨gb, 5, none⟩)) := e1
            clear hh
            simp only [filled, filledN, upd, Have, is, any, row, pick, Act.put, List.setIfInBounds_toArray, List.set_cons_zero, List.set_cons_succ, Nat.reduceAdd, Nat.reduceEqDiff, reduceIte] at hK ⊢
            simp only [e1] at hK ⊢
            have hq := (HO.out.under hbq HLT.out).cell 5 (v := .string (strOf o.s)) rfl
            go_simp
            exact hK _ _ (Below.refl _ _) rfl
          · intro t wq hbq hh K hK
            have e2 := hh.2.1
            simp only [pick] at e2
            replace e2 : t 2 = (.string (strOf o.s)) := e2
            clear hh
            simp only [filled, filledN, upd, Have, is, any, row, pick, Act.put, List.setIfInBounds_toArray, List.set_cons_zero, List.set_cons_succ, Nat.reduceAdd, Nat.reduceEqDiff, reduceIte] at hK ⊢
            simp only [e2] at hK ⊢
            go_simp
            refine (AnsF.string_any (strOf o.s) _ (by rw [size_strOf]; exact HS.out.s)).mono ?_
            rintro e w5 ⟨rfl, hb5⟩
            exact hK _ _ hb5 rfl
          · intro t wq hbq hh K hK
            have e0 := hh.1
            simp only [pick] at e0
            replace e0 : t 0 = (.string (strOf X6)) := e0
            have e3 := hh.2.2.2.1
            simp only [pick] at e3
            replace e3 : t 3 = (.string (strOf (str o.s))) := e3
            clear hh
            simp only [filled, filledN, upd, Have, is, any, row, pick, Act.put, List.setIfInBounds_toArray, List.set_cons_zero, List.set_cons_succ, Nat.reduceAdd, Nat.reduceEqDiff, reduceIte] at hK ⊢
            simp only [e0, e3] at hK ⊢
            have hlen : X6.length + (str o.s).length ≤ 9223372036854775807 := by
              have := HXL.out; have := HS.out.s; have := HS.out.t; have := HS.out.c; have := HS.out.d; have := HS.out.fits.r
              try simp only [List.length_append, length_be, str]
              omega
            have hadd : (Op.stringOp .add (strOf X6) (strOf (str o.s))).run Try.prog wq = .ok (.string (strOf (X6 ++ (str o.s)))) wq := by have h := str_add (P := Try.prog) X6 (str o.s) wq hlen; simpa only [List.append_assoc] using h
            go_simp
            exact hK _ _ (Below.refl _ _) rfl
          · intro t wq hbq hh K hK
            clear hh
            simp only [filled, filledN, upd, Have, is, any, row, pick, Act.put, List.setIfInBounds_toArray, List.set_cons_zero, List.set_cons_succ, Nat.reduceAdd, Nat.reduceEqDiff, reduceIte] at hK ⊢
            go_simp
            exact hK _ _ (Below.refl _ _) rfl
          · intro t wq hbq hh K hK
            have e5 := hh.1
            simp only [pick] at e5
            replace e5 : t 5 = (.pointer (some ⟨gb, 6, none⟩)) := e5
            clear hh
            simp only [filled, filledN, upd, Have, is, any, row, pick, Act.put, List.setIfInBounds_toArray, List.set_cons_zero, List.set_cons_succ, Nat.reduceAdd, Nat.reduceEqDiff, reduceIte] at hK ⊢
            simp only [e5] at hK ⊢
            have hq := (HO.out.under hbq HLT.out).cell 6 (v := .string (strOf o.t)) rfl
            go_simp
            exact hK _ _ (Below.refl _ _) rfl
          · intro t wq hbq hh K hK
            have e6 := hh.2.1
            simp only [pick] at e6
            replace e6 : t 6 = (.string (strOf o.t)) := e6
            clear hh
            simp only [filled, filledN, upd, Have, is, any, row, pick, Act.put, List.setIfInBounds_toArray, List.set_cons_zero, List.set_cons_succ, Nat.reduceAdd, Nat.reduceEqDiff, reduceIte] at hK ⊢
            simp only [e6] at hK ⊢
            go_simp
            refine (AnsF.string_any (strOf o.t) _ (by rw [size_strOf]; exact HS.out.t)).mono ?_
            rintro e w5 ⟨rfl, hb5⟩
            exact hK _ _ hb5 rfl
          · intro t wq hbq hh K hK
            have e4 := hh.2.2.2.2.1
            simp only [pick] at e4
            replace e4 : t 4 = (.string (strOf (X6 ++ (str o.s)))) := e4
            have e7 := hh.2.2.2.2.2.2.2.1
            simp only [pick] at e7
            replace e7 : t 7 = (.string (strOf (str o.t))) := e7
            clear hh
            simp only [filled, filledN, upd, Have, is, any, row, pick, Act.put, List.setIfInBounds_toArray, List.set_cons_zero, List.set_cons_succ, Nat.reduceAdd, Nat.reduceEqDiff, reduceIte] at hK ⊢
            simp only [e4, e7] at hK ⊢
            have hlen : (X6 ++ (str o.s)).length + (str o.t).length ≤ 9223372036854775807 := by
              have := HXL.out; have := HS.out.s; have := HS.out.t; have := HS.out.c; have := HS.out.d; have := HS.out.fits.r
              try simp only [List.length_append, length_be, str]
              omega
            have hadd : (Op.stringOp .add (strOf (X6 ++ (str o.s))) (strOf (str o.t))).run Try.prog wq = .ok (.string (strOf (X6 ++ ((str o.s) ++ (str o.t))))) wq := by have h := str_add (P := Try.prog) (X6 ++ (str o.s)) (str o.t) wq hlen; simpa only [List.append_assoc] using h
            go_simp
            exact hK _ _ (Below.refl _ _) rfl
          · intro t wq hbq hh K hK
            clear hh
            simp only [filled, filledN, upd, Have, is, any, row, pick, Act.put, List.setIfInBounds_toArray, List.set_cons_zero, List.set_cons_succ, Nat.reduceAdd, Nat.reduceEqDiff, reduceIte] at hK ⊢
            go_simp
            exact hK _ _ (Below.refl _ _) rfl
          · intro t wq hbq hh K hK
            have e9 := hh.1
            simp only [pick] at e9
            replace e9 : t 9 = (.pointer (some ⟨gb, 7, none⟩)) := e9
            clear hh
            simp only [filled, filledN, upd, Have, is, any, row, pick, Act.put, List.setIfInBounds_toArray, List.set_cons_zero, List.set_cons_succ, Nat.reduceAdd, Nat.reduceEqDiff, reduceIte] at hK ⊢
            simp only [e9] at hK ⊢
            go_simp
            exact hK _ _ (Below.refl _ _) rfl
          · intro t wq hbq hh K hK
            have e10 := hh.2.1
            simp only [pick] at e10
            replace e10 : t 10 = (.pointer (some ⟨gb, 7, none⟩)) := e10
            clear hh
            simp only [filled, filledN, upd, Have, is, any, row, pick, Act.put, List.setIfInBounds_toArray, List.set_cons_zero, List.set_cons_succ, Nat.reduceAdd, Nat.reduceEqDiff, reduceIte] at hK ⊢
            simp only [e10] at hK ⊢
            have hq := (HO.out.under hbq HLT.out).cell 7 (v := .string (strOf o.c)) rfl
            go_simp
            exact hK _ _ (Below.refl _ _) rfl
          · intro t wq hbq hh K hK
            have e11 := hh.2.2.1
            simp only [pick] at e11
            replace e11 : t 11 = (.string (strOf o.c)) := e11
            clear hh
            simp only [filled, filledN, upd, Have, is, any, row, pick, Act.put, List.setIfInBounds_toArray, List.set_cons_zero, List.set_cons_succ, Nat.reduceAdd, Nat.reduceEqDiff, reduceIte] at hK ⊢
            simp only [e11] at hK ⊢
            go_simp
            refine (AnsF.string_any (strOf o.c) _ (by rw [size_strOf]; exact HS.out.c)).mono ?_
            rintro e w5 ⟨rfl, hb5⟩
            exact hK _ _ hb5 rfl
          · intro t wq hbq hh K hK
            have e8 := hh.2.2.2.2.2.2.2.2.1
            simp only [pick] at e8
            replace e8 : t 8 = (.string (strOf (X6 ++ ((str o.s) ++ (str o.t))))) := e8
            have e12 := hh.2.2.2.2.2.2.2.2.2.2.2.2.1
            simp only [pick] at e12
            replace e12 : t 12 = (.string (strOf (str o.c))) := e12
            clear hh
            simp only [filled, filledN, upd, Have, is, any, row, pick, Act.put, List.setIfInBounds_toArray, List.set_cons_zero, List.set_cons_succ, Nat.reduceAdd, Nat.reduceEqDiff, reduceIte] at hK ⊢
            simp only [e8, e12] at hK ⊢
            have hlen : (X6 ++ ((str o.s) ++ (str o.t))).length + (str o.c).length ≤ 9223372036854775807 := by
              have := HXL.out; have := HS.out.s; have := HS.out.t; have := HS.out.c; have := HS.out.d; have := HS.out.fits.r
              try simp only [List.length_append, length_be, str]
              omega
            have hadd : (Op.stringOp .add (strOf (X6 ++ ((str o.s) ++ (str o.t)))) (strOf (str o.c))).run Try.prog wq = .ok (.string (strOf (X6 ++ ((str o.s) ++ ((str o.t) ++ (str o.c)))))) wq := by have h := str_add (P := Try.prog) (X6 ++ ((str o.s) ++ (str o.t))) (str o.c) wq hlen; simpa only [List.append_assoc] using h
            go_simp
            exact hK _ _ (Below.refl _ _) rfl
          · intro t wq hbq hh K hK
            clear hh
            simp only [filled, filledN, upd, Have, is, any, row, pick, Act.put, List.setIfInBounds_toArray, List.set_cons_zero, List.set_cons_succ, Nat.reduceAdd, Nat.reduceEqDiff, reduceIte] at hK ⊢
            go_simp
            exact hK _ _ (Below.refl _ _) rfl
          · intro t wq hbq hh K hK
            have e14 := hh.1
            simp only [pick] at e14
            replace e14 : t 14 = (.pointer (some ⟨gb, 7, none⟩)) := e14
            clear hh
            simp only [filled, filledN, upd, Have, is, any, row, pick, Act.put, List.setIfInBounds_toArray, List.set_cons_zero, List.set_cons_succ, Nat.reduceAdd, Nat.reduceEqDiff, reduceIte] at hK ⊢
            simp only [e14] at hK ⊢
            go_simp
            exact hK _ _ (Below.refl _ _) rfl
          · intro t wq hbq hh K hK
            have e15 := hh.2.1
            simp only [pick] at e15
            replace e15 : t 15 = (.pointer (some ⟨gb, 8, none⟩)) := e15
            clear hh
            simp only [filled, filledN, upd, Have, is, any, row, pick, Act.put, List.setIfInBounds_toArray, List.set_cons_zero, List.set_cons_succ, Nat.reduceAdd, Nat.reduceEqDiff, reduceIte] at hK ⊢
            simp only [e15] at hK ⊢
            have hq := (HO.out.under hbq HLT.out).cell 8 (v := .string (strOf o.d)) rfl
            go_simp
            exact hK _ _ (Below.refl _ _) rfl
          · intro t wq hbq hh K hK
            have e16 := hh.2.2.1
            simp only [pick] at e16
            replace e16 : t 16 = (.string (strOf o.d)) := e16
            clear hh
            simp only [filled, filledN, upd, Have, is, any, row, pick, Act.put, List.setIfInBounds_toArray, List.set_cons_zero, List.set_cons_succ, Nat.reduceAdd, Nat.reduceEqDiff, reduceIte] at hK ⊢
            simp only [e16] at hK ⊢
            go_simp
            refine (AnsF.string_any (strOf o.d) _ (by rw [size_strOf]; exact HS.out.d)).mono ?_
            rintro e w5 ⟨rfl, hb5⟩
            exact hK _ _ hb5 rfl
          · intro t wq hbq hh K hK
            have e13 := hh.2.2.2.2.2.2.2.2.2.2.2.2.2.1
            simp only [pick] at e13
            replace e13 : t 13 = (.string (strOf (X6 ++ ((str o.s) ++ ((str o.t) ++ (str o.c)))))) := e13
            have e17 := hh.2.2.2.2.2.2.2.2.2.2.2.2.2.2.2.2.2.1
            simp only [pick] at e17
            replace e17 : t 17 = (.string (strOf (str o.d))) := e17
            clear hh
            simp only [filled, filledN, upd, Have, is, any, row, pick, Act.put, List.setIfInBounds_toArray, List.set_cons_zero, List.set_cons_succ, Nat.reduceAdd, Nat.reduceEqDiff, reduceIte] at hK ⊢
            simp only [e13, e17] at hK ⊢
            have hlen : (X6 ++ ((str o.s) ++ ((str o.t) ++ (str o.c)))).length + (str o.d).length ≤ 9223372036854775807 := by
              have := HXL.out; have := HS.out.s; have := HS.out.t; have := HS.out.c; have := HS.out.d; have := HS.out.fits.r
              try simp only [List.length_append, length_be, str]
              omega
            have hadd : (Op.stringOp .add (strOf (X6 ++ ((str o.s) ++ ((str o.t) ++ (str o.c))))) (strOf (str o.d))).run Try.prog wq = .ok (.string (strOf (X6 ++ ((str o.s) ++ ((str o.t) ++ ((str o.c) ++ (str o.d))))))) wq := by have h := str_add (P := Try.prog) (X6 ++ ((str o.s) ++ ((str o.t) ++ (str o.c)))) (str o.d) wq hlen; simpa only [List.append_assoc] using h
            go_simp
            exact hK _ _ (Below.refl _ _) rfl
        · intro t wq hbq hh
          have f18 := have_get hh 18 (by decide)
          simp only [pick] at f18
          replace f18 : t 18 = (.string (strOf (X6 ++ ((str o.s) ++ ((str o.t) ++ ((str o.c) ++ (str o.d))))))) := f18
          clear hh
          simp only [filled, filledN, upd, Have, is, any, row, pick, Act.put, List.setIfInBounds_toArray, List.set_cons_zero, List.set_cons_succ, Nat.reduceAdd, Nat.reduceEqDiff, reduceIte]
          simp only [f18]
          obtain ⟨X7, hX7⟩ : ∃ x, x = (X6 ++ ((str o.s) ++ ((str o.t) ++ ((str o.c) ++ (str o.d))))) := ⟨_, rfl⟩
          rw [← hX7]
          have HX7 : Hid (X7 = X6 ++ (str o.s ++ str o.t ++ str o.c ++ str o.d)) := by show _ = _; rw [hX7]; simp only [List.append_assoc]
          have HXL7 : Hid (X7.length ≤ 404010200) := by have := HXL6.out; have := HS.out.s; have := HS.out.t; have := HS.out.c; have := HS.out.d; show _ ≤ _; rw [HX7.out]; simp only [List.length_append, length_be, str]; omega
          have HO8 := hid (HO7.out.under hbq HLT.out)
          have HB8 := hid (HB7.out.trans (hbq.mono HB7.out.size))
          have HP8 := hid (HP7.out.below hbq)
          clear hX7 hbq HO7 HB7 HP7 HXL HO HLT
          have HO := HO8
          have HXL := HXL7
          have HLT : Hid (gb < wq.heap.size) := HO.out.lt
          go_upto_region 8 with (fail)
          refine wp_region_rel_tail (by kernel_rfl) 17 [is (.string (strOf X7)), is (.pointer (some ⟨gb, 7, none⟩)), is (.pointer (some ⟨gb, 9, none⟩)), is (.int .i64 (AnsW.sg o.p)), is (.int .u64 (o.p : Int)), is (.string (strOf (be o.p 8))), is (.string (strOf (X7 ++ (be o.p 8)))), is (.pointer (some ⟨gb, 7, none⟩)), is (.pointer (some ⟨gb, 10, none⟩)), is (.int .i64 (AnsW.sg o.n)), is (.int .u64 (o.n : Int)), is (.string (strOf (be o.n 8))), is (.string (strOf (X7 ++ ((be o.p 8) ++ (be o.n 8))))), is (.pointer (some ⟨gb, 11, none⟩)), is (.slice (some ⟨gb, 11, none⟩) 16 16), is (.string (strOf o.r)), is (.string (strOf (X7 ++ ((be o.p 8) ++ ((be o.n 8) ++ o.r)))))] [[], [], [1], [1, 2], [1, 2, 3], [1, 2, 3, 4], [0, 1, 2, 3, 4, 5], [], [7], [7, 8], [7, 8, 9], [7, 8, 9, 10], [0, 1, 2, 3, 4, 5, 6, 7, 8, 9, 10, 11], [], [13], [13, 14], [0, 1, 2, 3, 4, 5, 6, 7, 8, 9, 10, 11, 12, 13, 14, 15], [0, 1, 2, 3, 4, 5, 6, 7, 8, 9, 10, 11, 12, 13, 14, 15, 16]] (by kernel_rfl) ?_ ?_
          · refine ⟨?_, ?_, ?_, ?_, ?_, ?_, ?_, ?_, ?_, ?_, ?_, ?_, ?_, ?_, ?_, ?_, ?_, trivial⟩
            · intro t wq hbq hh K hK
              clear hh
              simp only [filled, filledN, upd, Have, is, any, row, pick, Act.put, List.setIfInBounds_toArray, List.set_cons_zero, List.set_cons_succ, Nat.reduceAdd, Nat.reduceEqDiff, reduceIte] at hK ⊢
              go_simp
              exact hK _ _ (Below.refl _ _) rfl
            · intro t wq hbq hh K hK
              clear hh
              simp only [filled, filledN, upd, Have, is, any, row, pick, Act.put, List.setIfInBounds_toArray, List.set_cons_zero, List.set_cons_succ, Nat.reduceAdd, Nat.reduceEqDiff, reduceIte] at hK ⊢
              go_simp
              exact hK _ _ (Below.refl _ _) rfl
            · intro t wq hbq hh K hK
              have e1 := hh.1
              simp only [pick] at e1
              replace e1 : t 1 = (.pointer (some ⟨gb, 7, none⟩)) := e1
              clear hh
              simp only [filled, filledN, upd, Have, is, any, row, pick, Act.put, List.setIfInBounds_toArray, List.set_cons_zero, List.set_cons_succ, Nat.reduceAdd, Nat.reduceEqDiff, reduceIte] at hK ⊢
              simp only [e1] at hK ⊢
              go_simp
              exact hK _ _ (Below.refl _ _) rfl
            · intro t wq hbq hh K hK
              have e2 := hh.2.1
              simp only [pick] at e2
              replace e2 : t 2 = (.pointer (some ⟨gb, 9, none⟩)) := e2
              clear hh
              simp only [filled, filledN, upd, Have, is, any, row, pick, Act.put, List.setIfInBounds_toArray, List.set_cons_zero, List.set_cons_succ, Nat.reduceAdd, Nat.reduceEqDiff, reduceIte] at hK ⊢
              simp only [e2] at hK ⊢
              have hq := (HO.out.under hbq HLT.out).cell 9 (v := .int .i64 (AnsW.sg o.p)) rfl
              go_simp
              exact hK _ _ (Below.refl _ _) rfl
            · intro t wq hbq hh K hK
              have e3 := hh.2.2.1
              simp only [pick] at e3
              replace e3 : t 3 = (.int .i64 (AnsW.sg o.p)) := e3
              clear hh
              simp only [filled, filledN, upd, Have, is, any, row, pick, Act.put, List.setIfInBounds_toArray, List.set_cons_zero, List.set_cons_succ, Nat.reduceAdd, Nat.reduceEqDiff, reduceIte] at hK ⊢
              simp only [e3] at hK ⊢
              go_simp
              exact hK _ _ (Below.refl _ _) (int_eq (AnsW.wrap_sg _ HS.out.fits.p))
            · intro t wq hbq hh K hK
              have e4 := hh.2.2.2.1
              simp only [pick] at e4
              replace e4 : t 4 = (.int .u64 (o.p : Int)) := e4
              clear hh
              simp only [filled, filledN, upd, Have, is, any, row, pick, Act.put, List.setIfInBounds_toArray, List.set_cons_zero, List.set_cons_succ, Nat.reduceAdd, Nat.reduceEqDiff, reduceIte] at hK ⊢
              simp only [e4] at hK ⊢
              go_simp
              refine (AnsF.number_any o.p 8 _ (by have := HS.out.fits.p; omega) (by omega)).mono ?_
              rintro e w5 ⟨rfl, hb5⟩
              exact hK _ _ hb5 rfl
            · intro t wq hbq hh K hK
              have e0 := hh.1
              simp only [pick] at e0
              replace e0 : t 0 = (.string (strOf X7)) := e0
              have e5 := hh.2.2.2.2.2.1
              simp only [pick] at e5
              replace e5 : t 5 = (.string (strOf (be o.p 8))) := e5
              clear hh
              simp only [filled, filledN, upd, Have, is, any, row, pick, Act.put, List.setIfInBounds_toArray, List.set_cons_zero, List.set_cons_succ, Nat.reduceAdd, Nat.reduceEqDiff, reduceIte] at hK ⊢
              simp only [e0, e5] at hK ⊢
              have hlen : X7.length + (be o.p 8).length ≤ 9223372036854775807 := by
                have := HXL.out; have := HS.out.s; have := HS.out.t; have := HS.out.c; have := HS.out.d; have := HS.out.fits.r
                try simp only [List.length_append, length_be, str]
                omega
              have hadd : (Op.stringOp .add (strOf X7) (strOf (be o.p 8))).run Try.prog wq = .ok (.string (strOf (X7 ++ (be o.p 8)))) wq := by have h := str_add (P := Try.prog) X7 (be o.p 8) wq hlen; simpa only [List.append_assoc] using h
              go_simp
              exact hK _ _ (Below.refl _ _) rfl
            · intro t wq hbq hh K hK
              clear hh
              simp only [filled, filledN, upd, Have, is, any, row, pick, Act.put, List.setIfInBounds_toArray, List.set_cons_zero, List.set_cons_succ, Nat.reduceAdd, Nat.reduceEqDiff, reduceIte] at hK ⊢
              go_simp
              exact hK _ _ (Below.refl _ _) rfl
            · intro t wq hbq hh K hK
              have e7 := hh.1
              simp only [pick] at e7
              replace e7 : t 7 = (.pointer (some ⟨gb, 7, none⟩)) := e7
              clear hh
              simp only [filled, filledN, upd, Have, is, any, row, pick, Act.put, List.setIfInBounds_toArray, List.set_cons_zero, List.set_cons_succ, Nat.reduceAdd, Nat.reduceEqDiff, reduceIte] at hK ⊢
              simp only [e7] at hK ⊢
              go_simp
              exact hK _ _ (Below.refl _ _) rfl
            · intro t wq hbq hh K hK
              have e8 := hh.2.1
              simp only [pick] at e8
              replace e8 : t 8 = (.pointer (some ⟨gb, 10, none⟩)) := e8
              clear hh
              simp only [filled, filledN, upd, Have, is, any, row, pick, Act.put, List.setIfInBounds_toArray, List.set_cons_zero, List.set_cons_succ, Nat.reduceAdd, Nat.reduceEqDiff, reduceIte] at hK ⊢
              simp only [e8] at hK ⊢
              have hq := (HO.out.under hbq HLT.out).cell 10 (v := .int .i64 (AnsW.sg o.n)) rfl
              go_simp
              exact hK _ _ (Below.refl _ _) rfl
            · intro t wq hbq hh K hK
              have e9 := hh.2.2.1
              simp only [pick] at e9
              replace e9 : t 9 = (.int .i64 (AnsW.sg o.n)) := e9
              clear hh
              simp only [filled, filledN, upd, Have, is, any, row, pick, Act.put, List.setIfInBounds_toArray, List.set_cons_zero, List.set_cons_succ, Nat.reduceAdd, Nat.reduceEqDiff, reduceIte] at hK ⊢
              simp only [e9] at hK ⊢
              go_simp
              exact hK _ _ (Below.refl _ _) (int_eq (AnsW.wrap_sg _ HS.out.fits.n))
            · intro t wq hbq hh K hK
              have e10 := hh.2.2.2.1
              simp only [pick] at e10
              replace e10 : t 10 = (.int .u64 (o.n : Int)) := e10
              clear hh
              simp only [filled, filledN, upd, Have, is, any, row, pick, Act.put, List.setIfInBounds_toArray, List.set_cons_zero, List.set_cons_succ, Nat.reduceAdd, Nat.reduceEqDiff, reduceIte] at hK ⊢
              simp only [e10] at hK ⊢
              go_simp
              refine (AnsF.number_any o.n 8 _ (by have := HS.out.fits.n; omega) (by omega)).mono ?_
              rintro e w5 ⟨rfl, hb5⟩
              exact hK _ _ hb5 rfl
            · intro t wq hbq hh K hK
              have e6 := hh.2.2.2.2.2.2.1
              simp only [pick] at e6
              replace e6 : t 6 = (.string (strOf (X7 ++ (be o.p 8)))) := e6
              have e11 := hh.2.2.2.2.2.2.2.2.2.2.2.1
              simp only [pick] at e11
              replace e11 : t 11 = (.string (strOf (be o.n 8))) := e11
              clear hh
              simp only [filled, filledN, upd, Have, is, any, row, pick, Act.put, List.setIfInBounds_toArray, List.set_cons_zero, List.set_cons_succ, Nat.reduceAdd, Nat.reduceEqDiff, reduceIte] at hK ⊢
              simp only [e6, e11] at hK ⊢
              have hlen : (X7 ++ (be o.p 8)).length + (be o.n 8).length ≤ 9223372036854775807 := by
                have := HXL.out; have := HS.out.s; have := HS.out.t; have := HS.out.c; have := HS.out.d; have := HS.out.fits.r
                try simp only [List.length_append, length_be, str]
                omega
              have hadd : (Op.stringOp .add (strOf (X7 ++ (be o.p 8))) (strOf (be o.n 8))).run Try.prog wq = .ok (.string (strOf (X7 ++ ((be o.p 8) ++ (be o.n 8))))) wq := by have h := str_add (P := Try.prog) (X7 ++ (be o.p 8)) (be o.n 8) wq hlen; simpa only [List.append_assoc] using h
              go_simp
              exact hK _ _ (Below.refl _ _) rfl
            · intro t wq hbq hh K hK
              clear hh
              simp only [filled, filledN, upd, Have, is, any, row, pick, Act.put, List.setIfInBounds_toArray, List.set_cons_zero, List.set_cons_succ, Nat.reduceAdd, Nat.reduceEqDiff, reduceIte] at hK ⊢
              go_simp
              exact hK _ _ (Below.refl _ _) rfl
            · intro t wq hbq hh K hK
              have e13 := hh.1
              simp only [pick] at e13
              replace e13 : t 13 = (.pointer (some ⟨gb, 11, none⟩)) := e13
              clear hh
              simp only [filled, filledN, upd, Have, is, any, row, pick, Act.put, List.setIfInBounds_toArray, List.set_cons_zero, List.set_cons_succ, Nat.reduceAdd, Nat.reduceEqDiff, reduceIte] at hK ⊢
              simp only [e13] at hK ⊢
              go_simp
              exact hK _ _ (Below.refl _ _) rfl
            · intro t wq hbq hh K hK
              have e14 := hh.2.1
              simp only [pick] at e14
              replace e14 : t 14 = (.slice (some ⟨gb, 11, none⟩) 16 16) := e14
              clear hh
              simp only [filled, filledN, upd, Have, is, any, row, pick, Act.put, List.setIfInBounds_toArray, List.set_cons_zero, List.set_cons_succ, Nat.reduceAdd, Nat.reduceEqDiff, reduceIte] at hK ⊢
              simp only [e14] at hK ⊢
              have hs := run_string_of (P := Try.prog) 25 9 5 Try.underlying25 Try.underlying5 Try.underlying9 o.r 16 ((HO.out.under hbq HLT.out).rds HS.out.fits.r)
              go_simp
              exact hK _ _ (Below.refl _ _) rfl
            · intro t wq hbq hh K hK
              have e12 := hh.2.2.2.2.2.2.2.2.2.2.2.2.1
              simp only [pick] at e12
              replace e12 : t 12 = (.string (strOf (X7 ++ ((be o.p 8) ++ (be o.n 8))))) := e12
              have e15 := hh.2.2.2.2.2.2.2.2.2.2.2.2.2.2.2.1
              simp only [pick] at e15
              replace e15 : t 15 = (.string (strOf o.r)) := e15
              clear hh
              simp only [filled, filledN, upd, Have, is, any, row, pick, Act.put, List.setIfInBounds_toArray, List.set_cons_zero, List.set_cons_succ, Nat.reduceAdd, Nat.reduceEqDiff, reduceIte] at hK ⊢
              simp only [e12, e15] at hK ⊢
              have hlen : (X7 ++ ((be o.p 8) ++ (be o.n 8))).length + o.r.length ≤ 9223372036854775807 := by
                have := HXL.out; have := HS.out.s; have := HS.out.t; have := HS.out.c; have := HS.out.d; have := HS.out.fits.r
                try simp only [List.length_append, length_be, str]
                omega
              have hadd : (Op.stringOp .add (strOf (X7 ++ ((be o.p 8) ++ (be o.n 8)))) (strOf o.r)).run Try.prog wq = .ok (.string (strOf (X7 ++ ((be o.p 8) ++ ((be o.n 8) ++ o.r))))) wq := by have h := str_add (P := Try.prog) (X7 ++ ((be o.p 8) ++ (be o.n 8))) o.r wq hlen; simpa only [List.append_assoc] using h
              go_simp
              exact hK _ _ (Below.refl _ _) rfl
          · intro t wq hbq hh
            have f16 := have_get hh 16 (by decide)
            simp only [pick] at f16
            replace f16 : t 16 = (.string (strOf (X7 ++ ((be o.p 8) ++ ((be o.n 8) ++ o.r))))) := f16
            clear hh
            simp only [filled, filledN, upd, Have, is, any, row, pick, Act.put, List.setIfInBounds_toArray, List.set_cons_zero, List.set_cons_succ, Nat.reduceAdd, Nat.reduceEqDiff, reduceIte]
            simp only [f16]
            obtain ⟨X8, hX8⟩ : ∃ x, x = (X7 ++ ((be o.p 8) ++ ((be o.n 8) ++ o.r))) := ⟨_, rfl⟩
            rw [← hX8]
            have HX8 : Hid (X8 = encs (l.take (k + 1))) := by show _ = _; rw [← HX2.out, hX8, HX7.out, HX6.out]; unfold enco; simp only [List.append_assoc]
            have HB9 := hid (HB8.out.trans (hbq.mono HB8.out.size))
            have HP9 := hid (HP8.out.below hbq)
            clear hX8 hbq HO8 HB8 HP8 HXL HO HLT
            go_wp2
            go_roundw
            case rel => exact ⟨k + 1, X8, by omega, by go_num, rfl, HX8.out, HP9.out, HB9.out⟩
            case measure => simp [intOf]; omega
    · obtain rfl : k = n := by omega
      have HXE : Hid (X = encs l) := by show _ = _; rw [HX.out, ← HLN.out, List.take_length]
      go_wp2
      go_ret
      exact ⟨by rw [← HXE.out]; rfl, HB.out⟩
end Go.Proofs.Ytafnekilnbhhlaa.ScrF
