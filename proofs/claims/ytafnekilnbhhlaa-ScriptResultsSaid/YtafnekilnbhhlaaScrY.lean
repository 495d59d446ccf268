/- Scripts: results' bytes, by the code and by the document. -/
import Derived.Test.YtafnekilnbhhlaaScrX
import Derived.Test.YtafnekilnbhhlaaRegg
namespace Go.Proofs.Ytafnekilnbhhlaa.ScrY
open Go.RowKit Go.Proofs.Ytafnekilnbhhlaa.Base Go.Proofs.Ytafnekilnbhhlaa.Base2 Go.Proofs.Ytafnekilnbhhlaa.Base3 Go.Proofs.Ytafnekilnbhhlaa.Regs Go.Proofs.Ytafnekilnbhhlaa.AnsP Go.Proofs.Ytafnekilnbhhlaa.AnsB

/-- The answer that these values are. -/
def ans (so st f t0 : Int) (KK L : List UInt8) : Ans := ⟨(so % 256).toNat, (st % 4294967296).toNat, (f % 18446744073709551616).toNat, (t0 % 18446744073709551616).toNat, KK, L⟩
def I64 (z : Int) : Prop := -9223372036854775808 ≤ z ∧ z ≤ 9223372036854775807
def un (z : Int) : Nat := (z % 18446744073709551616).toNat
theorem sg_un (f : Int) (h : I64 f) : f = AnsW.sg (un f) := by
  unfold I64 at h
  unfold AnsW.sg un
  split <;> omega
theorem un_lt (f : Int) : un f < 18446744073709551616 := by unfold un; omega
theorem wrap_un (f : Int) : IntKind.u64.wrap f = (un f : Int) := by rw [IntKind.wrap_u64]; unfold un; omega
theorem fits_ans (so st f t0 : Int) (KK L : List UInt8) (hk : KK.length ≤ 1000000) (hl : L.length ≤ 1000000) : Fits (ans so st f t0 KK L) := ⟨by simp only [ans]; omega, by simp only [ans]; omega, by simp only [ans]; omega, by simp only [ans]; omega, by simp only [ans]; omega, by simp only [ans]; omega⟩
theorem ans_is (so st f t0 : Int) (KK L : List UInt8) (w : World) (A : Option Addr) (n c : Nat) (hr : Rds w A n (bcells L)) (hk : KK.length ≤ 1000000) (hn : n ≤ 1000000) : IsA (ans so st f t0 KK L) so st (strOf KK) w A n c := by
  have hL : L.length = n := by rw [← length_bcells]; exact hr.1
  refine ⟨?_, ?_, rfl, hr, by rw [size_strOf]; exact hk, hn, fits_ans _ _ _ _ _ _ hk (by omega)⟩
  · rw [IntKind.wrap_u8']; simp only [ans]; omega
  · rw [IntKind.wrap_u32]; simp only [ans]; omega
def encR (er hz : Int) (S : List UInt8) (a : Ans) : List UInt8 := be (un er) 1 ++ (be (un hz) 8 ++ (str S ++ str (enc a)))
/-- Nine cells. -/
def B9 (T : TypeId) (w : World) (g : Nat) (C : Array Value) : Prop := w.heap[g]? = some (.cells C T (0, 0))
theorem B9.below {T : TypeId} {w w' : World} {g B : Nat} {C : Array Value} (h : B9 T w g C) (hb : Below B w w') (hg : g < B) : B9 T w' g C := (hb.block g hg).trans h
theorem B9.cell {T : TypeId} {w : World} {g : Nat} {C : Array Value} (h : B9 T w g C) (i : Nat) {v : Value} (e : C[i]? = some v) : w.cell? ⟨g, i, none⟩ = some v := (cell_of_row w g i _ _ _ h).trans e
theorem two_new {T S : TypeId} {C D : Array Value} (w : World) : B9 T ((w.alloc (.cells C T)).alloc (.cells D S)) w.heap.size C ∧ B9 S ((w.alloc (.cells C T)).alloc (.cells D S)) (w.heap.size + 1) D ∧ Below w.heap.size w ((w.alloc (.cells C T)).alloc (.cells D S)) := by
  have hs : (w.alloc (.cells C T)).heap.size = w.heap.size + 1 := by simp
  have h2 := heap_alloc_new (w.alloc (.cells C T)) (.cells D S)
  rw [hs] at h2
  exact ⟨B9.below (B := w.heap.size + 1) (heap_alloc_new w _) ((Below.refl _ _).alloc (by simp) _) (by omega), h2, ((Below.refl _ _).alloc (Nat.le_refl _) _).alloc (by simp) _⟩
set_option maxRecDepth 100000 in
set_option maxHeartbeats 8000000 in
theorem bytes_any (er hz so st f t0 : Int) (S KK L : List UInt8) (A : Option Addr) (n c : Nat) (w : World) (h1 : I64 er) (h2 : I64 hz) (h3 : I64 f) (h4 : I64 t0) (hr : Rds w A n (bcells L)) (hs : S.length ≤ 1000) (hk : KK.length ≤ 1000) (hn : n ≤ 1000) :
    Calls Try.prog 14 #[.agg #[.int .i64 er, .int .i64 hz, .string (strOf S), .int .i64 so, .int .i64 st, .int .i64 f, .int .i64 t0, .string (strOf KK), .slice A n c]] w fun e w' => ∃ v, e = .returned v ∧ w'.ownsRow w.heap.size 5 1 v (encR er hz S (ans so st f t0 KK L)).length (bcells (encR er hz S (ans so st f t0 KK L))) ∧ Below w.heap.size w w' := by
  have HLN : Hid (L.length ≤ 1000) := by have := hr.1; rw [length_bcells] at this; show _ ≤ _; omega
  have HR := hid hr
  have HS : Hid (S.length ≤ 1000) := hs
  have HKL : Hid (KK.length ≤ 1000) := hk
  have HHH := hid (sg_un hz h2)
  have HF := hid (sg_un f h3)
  have HT := hid (sg_un t0 h4)
  have HN : Hid (n ≤ 1000) := hn
  have hwe : IntKind.u8.wrap er = ((un er % 256 : Nat) : Int) := by rw [IntKind.wrap_u8']; unfold un; omega
  have HBE : Hid (be (un er % 256) 1 = be (un er) 1) := be_mod (un er) 1 1 (Nat.le_refl _)
  have HTN := hid (two_new (T := 45) (S := 57) (C := #[.int .i64 er, .int .i64 hz, .string (strOf S), .int .i64 so, .int .i64 st, .int .i64 f, .int .i64 t0, .string (strOf KK), .slice A n c]) (D := #[.slice none 0 0]) w)
  obtain ⟨a, ha⟩ : ∃ a, a = ans so st f t0 KK L := ⟨_, rfl⟩
  have HA : Hid (a = ans so st f t0 KK L) := ha
  have HEL : Hid ((enc a).length ≤ 3000) := by have h5 := HLN.out; show _ ≤ _; rw [length_enc, ha]; simp only [ans]; omega
  rw [← ha]
  clear hr hs hk h1 h2 h3 h4 hn ha
  go_enter Try.func14, Try.ntmps14
  go_upto_region 2 with (fail)
  clear hwe
  generalize hw : World.alloc (World.alloc w _) _ = W0
  have h1 : B9 45 W0 w.heap.size #[.int .i64 er, .int .i64 hz, .string (strOf S), .int .i64 so, .int .i64 st, .int .i64 f, .int .i64 t0, .string (strOf KK), .slice A n c] ∧ B9 57 W0 (w.heap.size + 1) #[.slice none 0 0] ∧ Below w.heap.size w W0 := by subst hw; exact HTN.out
  have HX0 := hid h1.1
  have HI0 : Hid (AnsW.IsW (w.heap.size + 1) (w.heap.size + 1) [] W0) := ⟨.slice none 0 0, h1.2.1, World.ownsRow_nil _ _ _ _, Nat.le_refl _⟩
  have HB0 := hid h1.2.2
  have HR0 := hid (HR.out.below h1.2.2)
  have hwe : IntKind.u8.wrap er = ((un er % 256 : Nat) : Int) := by rw [IntKind.wrap_u8']; unfold un; omega
  clear h1 hw HTN
  have c0 := HX0.out.cell 0 (v := .int .i64 er) rfl
  go_wp2_with fail
  clear c0 hwe
  refine (AnsW.u8w_any (w.heap.size + 1) (w.heap.size + 1) (un er % 256) [] _ HI0.out (by omega) (by simp)).mono ?_
  rintro e w1 ⟨rfl, hI, hb⟩
  rw [HBE.out, List.nil_append] at hI
  have HI1 := hid hI
  have HX1 := hid (HX0.out.below hb (by omega))
  have HB1 := hid (HB0.out.trans (hb.mono (Nat.le_succ _)))
  clear hI hb
  have c0 := HX1.out.cell 1 (v := .int .i64 hz) rfl
  go_wp2_with fail
  clear c0
  rw [show Value.int .i64 hz = .int .i64 (AnsW.sg (un hz)) by rw [← HHH.out]]
  refine (AnsW.i64w_any (w.heap.size + 1) (w.heap.size + 1) (un hz) (be (un er) 1) _ HI1.out (un_lt hz) (by rw [length_be]; omega)).mono ?_
  rintro e w2 ⟨rfl, hI, hb⟩
  have HI2 := hid hI
  have HX2 := hid (HX1.out.below hb (by omega))
  have HB2 := hid (HB1.out.trans (hb.mono (Nat.le_succ _)))
  clear hI hb
  have c0 := HX2.out.cell 2 (v := .string (strOf S)) rfl
  go_wp2_with fail
  clear c0
  refine (AnsW.strw_any (w.heap.size + 1) (w.heap.size + 1) (be (un er) 1 ++ be (un hz) 8) (strOf S) _ HI2.out (by rw [List.length_append, length_be, length_be]; omega) (by rw [size_strOf]; have := HS.out; omega)).mono ?_
  rw [show (strOf S).data.toList = S from rfl]
  rintro e w3 ⟨rfl, hI, hb⟩
  have HI3 := hid hI
  have HX3 := hid (HX2.out.below hb (by omega))
  have HB3 := hid (HB2.out.trans (hb.mono (Nat.le_succ _)))
  clear hI hb
  have c3 := HX3.out.cell 3 (v := (.int .i64 so)) rfl
  have c4 := HX3.out.cell 4 (v := (.int .i64 st)) rfl
  have c5 := HX3.out.cell 5 (v := (.int .i64 f)) rfl
  have c6 := HX3.out.cell 6 (v := (.int .i64 t0)) rfl
  have c7 := HX3.out.cell 7 (v := (.string (strOf KK))) rfl
  have c8 := HX3.out.cell 8 (v := .slice A n c) rfl
  go_wp2_with fail
  clear c3 c4 c5 c6 c7 c8
  have HR3 := hid (HR.out.below HB3.out)
  have HIA := hid (ans_is so st f t0 KK L _ A n c HR3.out (by have := HKL.out; omega) (by have := HN.out; omega))
  refine (AnsI.encode_any' (ans so st f t0 KK L) so st f t0 (strOf KK) _ A n c HIA.out HF.out HT.out).mono ?_
  rw [← HA.out]
  rintro e w4 ⟨v, rfl, hown, hb⟩
  obtain ⟨A4, c4, rfl, hc4, hm4, hr4⟩ := owns_form hown
  have hs := run_string_of (P := Try.prog) 25 9 5 Try.underlying25 Try.underlying5 Try.underlying9 (enc a) c4 hr4
  have HI4 := hid (HI3.out.below hb)
  have HB4 := hid (bel HB3.out hb)
  clear hown hr4 hb hc4 hm4
  go_wp2_with fail
  clear hs
  refine (AnsW.strw_any (w.heap.size + 1) (w.heap.size + 1) (be (un er) 1 ++ be (un hz) 8 ++ str S) (strOf (enc a)) _ HI4.out (by have := HS.out; unfold str; simp only [List.length_append, length_be]; omega) (by rw [size_strOf]; have := HEL.out; omega)).mono ?_
  rw [show (strOf (enc a)).data.toList = enc a from rfl]
  rintro e w5 ⟨rfl, hI, hb⟩
  have hX : be (un er) 1 ++ be (un hz) 8 ++ str S ++ str (enc a) = encR er hz S a := by unfold encR; simp only [List.append_assoc]
  rw [hX] at hI
  have HI5 := hid hI
  have HB5 := hid (HB4.out.trans (hb.mono (Nat.le_succ _)))
  have HXL : Hid ((encR er hz S a).length ≤ 10000) := by have := HS.out; have := HEL.out; show _ ≤ _; unfold encR str; simp only [List.length_append, length_be]; omega
  clear hI hb hX
  go_wp2_with fail
  refine (AnsW.bytesw_any (w.heap.size + 1) (w.heap.size + 1) (encR er hz S a) _ HI5.out (by have := HXL.out; omega)).mono ?_
  rintro e w6 ⟨v, rfl, hown, hb⟩
  have HOW := hid (owns_base hown HB5.out.size)
  have HB6 := hid (bel HB5.out hb)
  clear hown hb
  go_wp2
  go_ret
  exact ⟨_, rfl, HOW.out, HB6.out⟩
set_option linter.unusedSimpArgs false in
set_option maxRecDepth 100000 in
set_option maxHeartbeats 8000000 in
theorem rbytes_any (er hz so st f t0 : Int) (S KK L : List UInt8) (w : World) (hs : S.length ≤ 1000) (hk : KK.length ≤ 1000) (hl : L.length ≤ 1000) :
    Calls Try.prog 15 #[.agg #[.int .i64 er, .int .i64 hz, .string (strOf S), .int .i64 so, .int .i64 st, .int .i64 f, .int .i64 t0, .string (strOf KK), .string (strOf L)]] w fun e w' => e = .returned (.string (strOf (encR er hz S (ans so st f t0 KK L)))) ∧ Below w.heap.size w w' := by
  have HS : Hid (S.length ≤ 1000) := hs
  have HKL : Hid (KK.length ≤ 1000) := hk
  have HLN : Hid (L.length ≤ 1000) := hl
  obtain ⟨a, ha⟩ : ∃ a, a = ans so st f t0 KK L := ⟨_, rfl⟩
  have HENC : Hid (be (un so) 1 ++ (be (un st) 4 ++ (be (un f) 8 ++ (be (un t0) 8 ++ (str KK ++ str L)))) = enc a) := by
    show _ = _
    have e1 : be (un so) 1 = be (ans so st f t0 KK L).sort 1 := by
      rw [← be_mod (un so) 1 1 (Nat.le_refl _)]
      congr 1
      simp only [ans, un]
      omega
    have e2 : be (un st) 4 = be (ans so st f t0 KK L).status 4 := by
      rw [← be_mod (un st) 4 4 (Nat.le_refl _)]
      congr 1
      simp only [ans, un]
      omega
    rw [ha, e1, e2]
    rfl
  have HEL : Hid ((enc a).length ≤ 3000) := by show _ ≤ _; rw [length_enc, ha]; simp only [ans]; omega
  rw [← ha]
  have HB : Hid (Below w.heap.size w (w.alloc (.cells #[.int .i64 er, .int .i64 hz, .string (strOf S), .int .i64 so, .int .i64 st, .int .i64 f, .int .i64 t0, .string (strOf KK), .string (strOf L)] 51))) := (Below.refl _ _).alloc (Nat.le_refl _) _
  have HX : Hid (B9 51 (w.alloc (.cells #[.int .i64 er, .int .i64 hz, .string (strOf S), .int .i64 so, .int .i64 st, .int .i64 f, .int .i64 t0, .string (strOf KK), .string (strOf L)] 51)) w.heap.size #[.int .i64 er, .int .i64 hz, .string (strOf S), .int .i64 so, .int .i64 st, .int .i64 f, .int .i64 t0, .string (strOf KK), .string (strOf L)]) := heap_alloc_new w _
  have HLT : Hid (w.heap.size < (w.alloc (.cells #[.int .i64 er, .int .i64 hz, .string (strOf S), .int .i64 so, .int .i64 st, .int .i64 f, .int .i64 t0, .string (strOf KK), .string (strOf L)] 51)).heap.size) := by show _ < _; simp
  clear hs hk hl ha
  go_enter Try.func15, Try.ntmps15
  go_wp2_with fail
  refine wp_region_rel (by kernel_rfl) [is (.pointer (some ⟨w.heap.size, 0, none⟩)), is (.int .i64 er), is (.int .u64 (un er : Int)), is (.string (strOf (be (un er) 1))), is (.pointer (some ⟨w.heap.size, 1, none⟩)), is (.int .i64 hz), is (.int .u64 (un hz : Int)), is (.string (strOf (be (un hz) 8))), is (.string (strOf ((be (un er) 1) ++ (be (un hz) 8)))), is (.pointer (some ⟨w.heap.size, 2, none⟩)), is (.string (strOf S)), is (.string (strOf (str S))), is (.string (strOf ((be (un er) 1) ++ ((be (un hz) 8) ++ (str S))))), is (.pointer (some ⟨w.heap.size, 3, none⟩)), is (.agg #[.int .i64 so, .int .i64 st, .int .i64 f, .int .i64 t0, .string (strOf KK), .string (strOf L)]), is (.string (strOf (enc a))), is (.string (strOf (str (enc a)))), is (.string (strOf ((be (un er) 1) ++ ((be (un hz) 8) ++ ((str S) ++ (str (enc a))))))), is (.string (strOf ((be (un er) 1) ++ ((be (un hz) 8) ++ ((str S) ++ (str (enc a)))))))] [[], [0], [1], [2], [], [4], [5], [6], [3, 7], [], [9], [10], [8, 11], [], [13], [14], [15], [12, 16], [17]] (by kernel_rfl) ?_ ?_
  · refine ⟨?_, ?_, ?_, ?_, ?_, ?_, ?_, ?_, ?_, ?_, ?_, ?_, ?_, ?_, ?_, ?_, ?_, ?_, ?_, trivial⟩
    · intro t wq hbq hh K hK
      clear hh
      simp only [filled, upd, Have, is, any, row, pick, Act.put, List.setIfInBounds_toArray, List.set_cons_zero, List.set_cons_succ, Nat.reduceAdd, Nat.reduceEqDiff, reduceIte] at hK ⊢
      go_simp
      exact hK _ _ (Below.refl _ _) rfl
    · intro t wq hbq hh K hK
      have e0 := hh.1
      simp only [pick] at e0
      replace e0 : t 0 = (.pointer (some ⟨w.heap.size, 0, none⟩)) := e0
      clear hh
      simp only [filled, upd, Have, is, any, row, pick, Act.put, List.setIfInBounds_toArray, List.set_cons_zero, List.set_cons_succ, Nat.reduceAdd, Nat.reduceEqDiff, reduceIte] at hK ⊢
      simp only [e0] at hK ⊢
      have hq := (HX.out.below hbq HLT.out).cell 0 (v := .int .i64 er) rfl
      go_simp
      exact hK _ _ (Below.refl _ _) rfl
    · intro t wq hbq hh K hK
      have e1 := hh.1
      simp only [pick] at e1
      replace e1 : t 1 = (.int .i64 er) := e1
      clear hh
      simp only [filled, upd, Have, is, any, row, pick, Act.put, List.setIfInBounds_toArray, List.set_cons_zero, List.set_cons_succ, Nat.reduceAdd, Nat.reduceEqDiff, reduceIte] at hK ⊢
      simp only [e1] at hK ⊢
      go_simp
      exact hK _ _ (Below.refl _ _) (int_eq (wrap_un er))
    · intro t wq hbq hh K hK
      have e2 := hh.1
      simp only [pick] at e2
      replace e2 : t 2 = (.int .u64 (un er : Int)) := e2
      clear hh
      simp only [filled, upd, Have, is, any, row, pick, Act.put, List.setIfInBounds_toArray, List.set_cons_zero, List.set_cons_succ, Nat.reduceAdd, Nat.reduceEqDiff, reduceIte] at hK ⊢
      simp only [e2] at hK ⊢
      go_simp
      go_simp
      refine (AnsF.number_any (un er) 1 _ (un_lt er) (by omega)).mono ?_
      rintro e w9 ⟨rfl, hb9⟩
      exact hK _ _ hb9 rfl
    · intro t wq hbq hh K hK
      clear hh
      simp only [filled, upd, Have, is, any, row, pick, Act.put, List.setIfInBounds_toArray, List.set_cons_zero, List.set_cons_succ, Nat.reduceAdd, Nat.reduceEqDiff, reduceIte] at hK ⊢
      go_simp
      exact hK _ _ (Below.refl _ _) rfl
    · intro t wq hbq hh K hK
      have e4 := hh.1
      simp only [pick] at e4
      replace e4 : t 4 = (.pointer (some ⟨w.heap.size, 1, none⟩)) := e4
      clear hh
      simp only [filled, upd, Have, is, any, row, pick, Act.put, List.setIfInBounds_toArray, List.set_cons_zero, List.set_cons_succ, Nat.reduceAdd, Nat.reduceEqDiff, reduceIte] at hK ⊢
      simp only [e4] at hK ⊢
      have hq := (HX.out.below hbq HLT.out).cell 1 (v := .int .i64 hz) rfl
      go_simp
      exact hK _ _ (Below.refl _ _) rfl
    · intro t wq hbq hh K hK
      have e5 := hh.1
      simp only [pick] at e5
      replace e5 : t 5 = (.int .i64 hz) := e5
      clear hh
      simp only [filled, upd, Have, is, any, row, pick, Act.put, List.setIfInBounds_toArray, List.set_cons_zero, List.set_cons_succ, Nat.reduceAdd, Nat.reduceEqDiff, reduceIte] at hK ⊢
      simp only [e5] at hK ⊢
      go_simp
      exact hK _ _ (Below.refl _ _) (int_eq (wrap_un hz))
    · intro t wq hbq hh K hK
      have e6 := hh.1
      simp only [pick] at e6
      replace e6 : t 6 = (.int .u64 (un hz : Int)) := e6
      clear hh
      simp only [filled, upd, Have, is, any, row, pick, Act.put, List.setIfInBounds_toArray, List.set_cons_zero, List.set_cons_succ, Nat.reduceAdd, Nat.reduceEqDiff, reduceIte] at hK ⊢
      simp only [e6] at hK ⊢
      go_simp
      go_simp
      refine (AnsF.number_any (un hz) 8 _ (un_lt hz) (by omega)).mono ?_
      rintro e w9 ⟨rfl, hb9⟩
      exact hK _ _ hb9 rfl
    · intro t wq hbq hh K hK
      have e3 := hh.1
      simp only [pick] at e3
      replace e3 : t 3 = (.string (strOf (be (un er) 1))) := e3
      have e7 := hh.2.1
      simp only [pick] at e7
      replace e7 : t 7 = (.string (strOf (be (un hz) 8))) := e7
      clear hh
      simp only [filled, upd, Have, is, any, row, pick, Act.put, List.setIfInBounds_toArray, List.set_cons_zero, List.set_cons_succ, Nat.reduceAdd, Nat.reduceEqDiff, reduceIte] at hK ⊢
      simp only [e3, e7] at hK ⊢
      have hadd : (Op.stringOp .add (strOf (be (un er) 1)) (strOf (be (un hz) 8))).run Try.prog wq = .ok (.string (strOf ((be (un er) 1) ++ (be (un hz) 8)))) wq := by
        have h := str_add (P := Try.prog) (be (un er) 1) (be (un hz) 8) wq (by have := HS.out; have := HEL.out; simp only [List.length_append, length_be, str]; omega)
        simpa only [List.append_assoc] using h
      go_simp
      exact hK _ _ (Below.refl _ _) rfl
    · intro t wq hbq hh K hK
      clear hh
      simp only [filled, upd, Have, is, any, row, pick, Act.put, List.setIfInBounds_toArray, List.set_cons_zero, List.set_cons_succ, Nat.reduceAdd, Nat.reduceEqDiff, reduceIte] at hK ⊢
      go_simp
      exact hK _ _ (Below.refl _ _) rfl
    · intro t wq hbq hh K hK
      have e9 := hh.1
      simp only [pick] at e9
      replace e9 : t 9 = (.pointer (some ⟨w.heap.size, 2, none⟩)) := e9
      clear hh
      simp only [filled, upd, Have, is, any, row, pick, Act.put, List.setIfInBounds_toArray, List.set_cons_zero, List.set_cons_succ, Nat.reduceAdd, Nat.reduceEqDiff, reduceIte] at hK ⊢
      simp only [e9] at hK ⊢
      have hq := (HX.out.below hbq HLT.out).cell 2 (v := .string (strOf S)) rfl
      go_simp
      exact hK _ _ (Below.refl _ _) rfl
    · intro t wq hbq hh K hK
      have e10 := hh.1
      simp only [pick] at e10
      replace e10 : t 10 = (.string (strOf S)) := e10
      clear hh
      simp only [filled, upd, Have, is, any, row, pick, Act.put, List.setIfInBounds_toArray, List.set_cons_zero, List.set_cons_succ, Nat.reduceAdd, Nat.reduceEqDiff, reduceIte] at hK ⊢
      simp only [e10] at hK ⊢
      go_simp
      go_simp
      refine (AnsF.string_any (strOf S) _ (by rw [size_strOf]; have := HS.out; omega)).mono ?_
      rintro e w9 ⟨rfl, hb9⟩
      exact hK _ _ hb9 rfl
    · intro t wq hbq hh K hK
      have e8 := hh.1
      simp only [pick] at e8
      replace e8 : t 8 = (.string (strOf ((be (un er) 1) ++ (be (un hz) 8)))) := e8
      have e11 := hh.2.1
      simp only [pick] at e11
      replace e11 : t 11 = (.string (strOf (str S))) := e11
      clear hh
      simp only [filled, upd, Have, is, any, row, pick, Act.put, List.setIfInBounds_toArray, List.set_cons_zero, List.set_cons_succ, Nat.reduceAdd, Nat.reduceEqDiff, reduceIte] at hK ⊢
      simp only [e8, e11] at hK ⊢
      have hadd : (Op.stringOp .add (strOf ((be (un er) 1) ++ (be (un hz) 8))) (strOf (str S))).run Try.prog wq = .ok (.string (strOf ((be (un er) 1) ++ ((be (un hz) 8) ++ (str S))))) wq := by
        have h := str_add (P := Try.prog) ((be (un er) 1) ++ (be (un hz) 8)) (str S) wq (by have := HS.out; have := HEL.out; simp only [List.length_append, length_be, str]; omega)
        simpa only [List.append_assoc] using h
      go_simp
      exact hK _ _ (Below.refl _ _) rfl
    · intro t wq hbq hh K hK
      clear hh
      simp only [filled, upd, Have, is, any, row, pick, Act.put, List.setIfInBounds_toArray, List.set_cons_zero, List.set_cons_succ, Nat.reduceAdd, Nat.reduceEqDiff, reduceIte] at hK ⊢
      go_simp
      exact hK _ _ (Below.refl _ _) rfl
    · intro t wq hbq hh K hK
      have e13 := hh.1
      simp only [pick] at e13
      replace e13 : t 13 = (.pointer (some ⟨w.heap.size, 3, none⟩)) := e13
      clear hh
      simp only [filled, upd, Have, is, any, row, pick, Act.put, List.setIfInBounds_toArray, List.set_cons_zero, List.set_cons_succ, Nat.reduceAdd, Nat.reduceEqDiff, reduceIte] at hK ⊢
      simp only [e13] at hK ⊢
      have q0 := (HX.out.below hbq HLT.out).cell 3 (v := (.int .i64 so)) rfl
      have q1 := (HX.out.below hbq HLT.out).cell 4 (v := (.int .i64 st)) rfl
      have q2 := (HX.out.below hbq HLT.out).cell 5 (v := (.int .i64 f)) rfl
      have q3 := (HX.out.below hbq HLT.out).cell 6 (v := (.int .i64 t0)) rfl
      have q4 := (HX.out.below hbq HLT.out).cell 7 (v := (.string (strOf KK))) rfl
      have q5 := (HX.out.below hbq HLT.out).cell 8 (v := (.string (strOf L))) rfl
      go_simp
      exact hK _ _ (Below.refl _ _) rfl
    · intro t wq hbq hh K hK
      have e14 := hh.1
      simp only [pick] at e14
      replace e14 : t 14 = (.agg #[.int .i64 so, .int .i64 st, .int .i64 f, .int .i64 t0, .string (strOf KK), .string (strOf L)]) := e14
      clear hh
      simp only [filled, upd, Have, is, any, row, pick, Act.put, List.setIfInBounds_toArray, List.set_cons_zero, List.set_cons_succ, Nat.reduceAdd, Nat.reduceEqDiff, reduceIte] at hK ⊢
      simp only [e14] at hK ⊢
      go_simp
      go_simp
      refine (AnsG.encode_any so st f t0 (un so) (un st) (un f) (un t0) KK L _ (wrap_un so) (wrap_un st) (wrap_un f) (wrap_un t0) ⟨by have := HKL.out; omega, by have := HLN.out; omega⟩ (un_lt so) (un_lt st) (un_lt f) (un_lt t0)).mono ?_
      rintro e w9 ⟨rfl, hb9⟩
      exact hK _ _ hb9 (congrArg (fun x => Value.string (strOf x)) HENC.out)
    · intro t wq hbq hh K hK
      have e15 := hh.1
      simp only [pick] at e15
      replace e15 : t 15 = (.string (strOf (enc a))) := e15
      clear hh
      simp only [filled, upd, Have, is, any, row, pick, Act.put, List.setIfInBounds_toArray, List.set_cons_zero, List.set_cons_succ, Nat.reduceAdd, Nat.reduceEqDiff, reduceIte] at hK ⊢
      simp only [e15] at hK ⊢
      go_simp
      go_simp
      refine (AnsF.string_any (strOf (enc a)) _ (by rw [size_strOf]; have := HEL.out; omega)).mono ?_
      rintro e w9 ⟨rfl, hb9⟩
      exact hK _ _ hb9 rfl
    · intro t wq hbq hh K hK
      have e12 := hh.1
      simp only [pick] at e12
      replace e12 : t 12 = (.string (strOf ((be (un er) 1) ++ ((be (un hz) 8) ++ (str S))))) := e12
      have e16 := hh.2.1
      simp only [pick] at e16
      replace e16 : t 16 = (.string (strOf (str (enc a)))) := e16
      clear hh
      simp only [filled, upd, Have, is, any, row, pick, Act.put, List.setIfInBounds_toArray, List.set_cons_zero, List.set_cons_succ, Nat.reduceAdd, Nat.reduceEqDiff, reduceIte] at hK ⊢
      simp only [e12, e16] at hK ⊢
      have hadd : (Op.stringOp .add (strOf ((be (un er) 1) ++ ((be (un hz) 8) ++ (str S)))) (strOf (str (enc a)))).run Try.prog wq = .ok (.string (strOf ((be (un er) 1) ++ ((be (un hz) 8) ++ ((str S) ++ (str (enc a))))))) wq := by
        have h := str_add (P := Try.prog) ((be (un er) 1) ++ ((be (un hz) 8) ++ (str S))) (str (enc a)) wq (by have := HS.out; have := HEL.out; simp only [List.length_append, length_be, str]; omega)
        simpa only [List.append_assoc] using h
      go_simp
      exact hK _ _ (Below.refl _ _) rfl
    · intro t wq hbq hh K hK
      have e17 := hh.1
      simp only [pick] at e17
      replace e17 : t 17 = (.string (strOf ((be (un er) 1) ++ ((be (un hz) 8) ++ ((str S) ++ (str (enc a))))))) := e17
      clear hh
      simp only [filled, upd, Have, is, any, row, pick, Act.put, List.setIfInBounds_toArray, List.set_cons_zero, List.set_cons_succ, Nat.reduceAdd, Nat.reduceEqDiff, reduceIte] at hK ⊢
      simp only [e17] at hK ⊢
      go_simp
      exact hK _ _ (Below.refl _ _) rfl
  · intro t wq hbq hh
    have f18 := have_get hh 18 (by decide)
    simp only [pick] at f18
    replace f18 : t 18 = (.string (strOf ((be (un er) 1) ++ ((be (un hz) 8) ++ ((str S) ++ (str (enc a))))))) := f18
    clear hh
    simp only [filled, upd, Have, is, any, row, pick, Act.put, List.setIfInBounds_toArray, List.set_cons_zero, List.set_cons_succ, Nat.reduceAdd, Nat.reduceEqDiff, reduceIte]
    simp only [f18]
    go_wp2
    go_ret
    exact ⟨ret_str rfl, HB.out.trans (hbq.mono HB.out.size)⟩
end Go.Proofs.Ytafnekilnbhhlaa.ScrY
