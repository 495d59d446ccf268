/- The law AnswerWrites. -/
import Derived.Test.YthbpjkgbnmllkaaLaw25b
namespace Go.Proofs.Ythbpjkgbnmllkaa.Laws
open Go.RowKit Go.Proofs.Ythbpjkgbnmllkaa.Base Go.Proofs.Ythbpjkgbnmllkaa.Base2 Go.Proofs.Ythbpjkgbnmllkaa.Base3 Go.Proofs.Ythbpjkgbnmllkaa.Regs Go.Proofs.Ythbpjkgbnmllkaa.AnsP Go.Proofs.Ythbpjkgbnmllkaa.AnsB Go.Proofs.Ythbpjkgbnmllkaa.AnsD Go.Proofs.Ythbpjkgbnmllkaa.AnsI

theorem i64_and255 (n : Int) : bits .and .i64 n 255 = n % 256 := by
  have h : (BitVec.ofInt 64 255).toNat = 2 ^ 8 - 1 := by decide
  have key : (BitVec.ofInt 64 n &&& BitVec.ofInt 64 255).toNat = (n % ((2 ^ 64 : Nat) : Int)).toNat % 2 ^ 8 := by
    rw [BitVec.toNat_and, BitVec.toNat_ofInt, h, Nat.and_two_pow_sub_one_eq_mod]
  show IntKind.i64.wrap ((BitVec.ofInt 64 n &&& BitVec.ofInt 64 255).toNat : Nat) = n % 256
  rw [key, IntKind.wrap_i64]
  omega
theorem i64_and32 (n : Int) : bits .and .i64 n 4294967295 = n % 4294967296 := by
  have h : (BitVec.ofInt 64 4294967295).toNat = 2 ^ 32 - 1 := by decide
  have key : (BitVec.ofInt 64 n &&& BitVec.ofInt 64 4294967295).toNat = (n % ((2 ^ 64 : Nat) : Int)).toNat % 2 ^ 32 := by
    rw [BitVec.toNat_and, BitVec.toNat_ofInt, h, Nat.and_two_pow_sub_one_eq_mod]
  show IntKind.i64.wrap ((BitVec.ofInt 64 n &&& BitVec.ofInt 64 4294967295).toNat : Nat) = n % 4294967296
  rw [key, IntKind.wrap_i64]
  omega
theorem rds_b6 {w : World} {g i n : Nat} {A : Option Addr} {a b c d : Int} {k : ByteArray} {B : Option Addr} {m q : Nat} {x : Value} {L : List UInt8} (h : B6 24 w g (.int .i64 a) (.int .i64 b) (.int .i64 c) (.int .i64 d) (.string k) (.slice B m q)) (hr : Rds w A n (bcells L)) : Rds (w.setCell ⟨g, i, none⟩ x) A n (bcells L) := by
  refine ⟨hr.1, fun j hj => ?_⟩
  obtain ⟨e, off, rfl, hk, hc⟩ := hr.2 j hj
  have hne : e ≠ g := by
    rintro rfl
    rw [cell_of_row w e (off + j) _ _ _ h] at hc
    have hj' : j < L.length := by rw [length_bcells] at hj; exact hj
    rcases hq : off + j with _ | _ | _ | _ | _ | _ | q
    all_goals (rw [hq] at hc; simp [bcells] at hc)
  exact ⟨e, off, rfl, by simpa [World.setCell] using hk, (World.cell?_of_block (heap_setCell_other w ⟨g, i, none⟩ e x hne)).trans hc⟩
/-- The answer that these values are. -/
def ans (so st f t0 : Int) (KK L : List UInt8) : Ans := ⟨(so % 256).toNat, (st % 4294967296).toNat, (f % 18446744073709551616).toNat, (t0 % 18446744073709551616).toNat, KK, L⟩
theorem sg_mod (f : Int) (h : -9223372036854775808 ≤ f ∧ f ≤ 9223372036854775807) : f = AnsW.sg (f % 18446744073709551616).toNat := by
  unfold AnsW.sg
  split <;> omega
theorem ans_is (so st f t0 : Int) (KK L : List UInt8) (w : World) (A : Option Addr) (n c : Nat) (hr : Rds w A n (bcells L)) (hk : KK.length ≤ 1000000) (hn : n ≤ 1000000) : IsA (ans so st f t0 KK L) so st (strOf KK) w A n c := by
  have hL : L.length = n := by rw [← length_bcells]; exact hr.1
  refine ⟨?_, ?_, rfl, hr, by rw [size_strOf]; exact hk, hn, ⟨?_, ?_, ?_, ?_, ?_, ?_⟩⟩
  · rw [IntKind.wrap_u8']; simp only [ans]; omega
  · rw [IntKind.wrap_u32]; simp only [ans]; omega
  all_goals (simp only [ans]; omega)
set_option linter.unusedSimpArgs false in
set_option maxRecDepth 100000 in
set_option maxHeartbeats 8000000 in
/-- The walk of the law AnswerWrites. -/
theorem AnswerWrites_any (so st f t0 : Int) (k : ByteArray) (A : Option Addr) (n cap : Nat) (L : List UInt8) (w : World) (_b1 : -9223372036854775808 ≤ so ∧ so ≤ 9223372036854775807) (_b2 : -9223372036854775808 ≤ st ∧ st ≤ 9223372036854775807) (b3 : -9223372036854775808 ≤ f ∧ f ≤ 9223372036854775807) (b4 : -9223372036854775808 ≤ t0 ∧ t0 ≤ 9223372036854775807) (zk : k.size ≤ 140737488351232)
    (r : Rds w A n (bcells L)) (_c : n ≤ cap) (z : cap * 1 ≤ 140737488351232) :
    Calls Try.prog 3 #[.agg #[.int .i64 so, .int .i64 st, .int .i64 f, .int .i64 t0, .string k, .slice A n cap]] w fun e w' => e = .returned (.bool true) ∧ Below w.heap.size w w' := by
  obtain ⟨KK, rfl⟩ : ∃ KK, k = strOf KK := ⟨_, (strOf_toList k).symm⟩
  rw [size_strOf] at zk
  have hn47 : n ≤ 140737488351232 := by omega
  have hks : (strOf KK).size = KK.length := size_strOf KK
  have hw1 : Below w.heap.size w (w.alloc (.cells #[.int .i64 so, .int .i64 st, .int .i64 f, .int .i64 t0, .string (strOf KK), .slice A n cap] 24)) := (Below.refl _ _).alloc (Nat.le_refl _) _
  have HX0 : Hid (B6 24 (w.alloc (.cells #[.int .i64 so, .int .i64 st, .int .i64 f, .int .i64 t0, .string (strOf KK), .slice A n cap] 24)) w.heap.size (.int .i64 so) (.int .i64 st) (.int .i64 f) (.int .i64 t0) (.string (strOf KK)) (.slice A n cap)) := heap_alloc_new w _
  have HR0 := hid (r.below hw1)
  have HB0 := hid hw1
  have HHF := hid (sg_mod f b3)
  have HHT := hid (sg_mod t0 b4)
  have HKS := hid hks
  clear r hw1 _b1 _b2 b3 b4 z _c hks
  by_cases h : KK.length + n ≤ 600
  · have hd : decide ((strOf KK).size + n ≤ 600) = true := decide_eq_true (by rw [size_strOf]; exact h)
    have HD := hid hd
    have HKL : Hid (KK.length ≤ 1000000 ∧ L.length ≤ 1000000) := ⟨by omega, by have := HR0.out.1; rw [length_bcells] at this; omega⟩
    obtain ⟨a, ha⟩ : ∃ a, a = ans so st f t0 KK L := ⟨_, rfl⟩
    have HISA : Hid (∀ W B m c, Rds W B m (bcells L) → m ≤ 1000000 → IsA a so st (strOf KK) W B m c) := fun W B m c hW hm => ha ▸ ans_is so st f t0 KK L W B m c hW (by omega) hm
    have HF : Hid (f = AnsW.sg a.first) := by rw [ha]; exact HHF.out
    have HT : Hid (t0 = AnsW.sg a.total) := by rw [ha]; exact HHT.out
    have HFITS : Hid (Fits a) := (HISA.out _ A n cap HR0.out (by omega)).fits
    have HDEC : Hid (dec (enc a) = some a) := dec_enc a HFITS.out
    have HKIND : Hid (a.kind = KK ∧ a.body = L) := by rw [ha]; exact ⟨rfl, rfl⟩
    have HU1 : Hid (IntKind.u64.wrap (a.sort : Int) = (a.sort : Int)) := by have := HFITS.out.sort; show _ = _; rw [IntKind.wrap_u64]; omega
    have HU2 : Hid (IntKind.u64.wrap (a.status : Int) = (a.status : Int)) := by have := HFITS.out.status; show _ = _; rw [IntKind.wrap_u64]; omega
    have HU3 : Hid (IntKind.u64.wrap f = (a.first : Int)) := by show _ = _; rw [HF.out]; exact AnsW.wrap_sg _ HFITS.out.first
    have HU4 : Hid (IntKind.u64.wrap t0 = (a.total : Int)) := by show _ = _; rw [HT.out]; exact AnsW.wrap_sg _ HFITS.out.total
    have HU5 : Hid (a.sort < 18446744073709551616 ∧ a.status < 18446744073709551616 ∧ a.first < 18446744073709551616 ∧ a.total < 18446744073709551616) := ⟨by have := HFITS.out.sort; omega, by have := HFITS.out.status; omega, HFITS.out.first, HFITS.out.total⟩
    have HENC : Hid (be a.sort 1 ++ (be a.status 4 ++ (be a.first 8 ++ (be a.total 8 ++ (str KK ++ str L)))) = enc a) := by show _ = _; unfold enc; rw [HKIND.out.1, HKIND.out.2]
    have HSM : Hid (same6 (a.sort : Int) (a.status : Int) f t0 (strOf KK).data.toList L (a.sort : Int) (a.status : Int) f t0 (strOf KK).data.toList L = true) := by show _ = _; simp [same6]
    have hand1 : bits .and .i64 so 255 = (a.sort : Int) := by rw [i64_and255, ha]; simp only [ans]; omega
    have hand2 : bits .and .i64 st 4294967295 = (a.status : Int) := by rw [i64_and32, ha]; simp only [ans]; omega
    have HLN : Hid ((enc a).length ≤ 1000) := by show _ ≤ _; rw [length_enc, HKIND.out.1, HKIND.out.2]; have := HR0.out.1; rw [length_bcells] at this; omega
    have hLn : L.length = n := by have := HR0.out.1; rwa [length_bcells] at this
    have HLNN := hid hLn
    clear ha hd hLn
    go_enter Try.func3, Try.ntmps3
    go_wp2_with fail
    refine (awake_any _).mono ?_
    rintro e w1 ⟨rfl, hb⟩
    have HX1 := hid (HX0.out.below hb HX0.out.lt)
    have HR1 := hid (HR0.out.below hb)
    have HB1 := hid (bel HB0.out hb)
    obtain ⟨c0, c1, c2, c3, c4, c5⟩ := HX1.out.facts
    clear hb
    go_wp2_with fail
    refine (few_any so st f t0 (strOf KK) A n cap _ (by rw [HKS.out]; exact zk) hn47).mono ?_
    rw [HD.out]
    rintro e w2 ⟨rfl, hb⟩
    have HX2 := hid (HX1.out.below hb HX1.out.lt)
    have HR2 := hid (HR1.out.below hb)
    have HB2 := hid (bel HB1.out hb)
    clear hb c0 c1 c2 c3 c4 c5
    obtain ⟨c0, c1, c2, c3, c4, c5⟩ := HX2.out.facts
    go_wp2_with fail
    refine (encode_any' a so st f t0 (strOf KK) _ A n cap (HISA.out _ A n cap HR2.out (by omega)) HF.out HT.out).mono ?_
    rintro e w3 ⟨v, rfl, hown, hb⟩
    obtain ⟨A3, cc3, rfl, hc3, hm3, hr3⟩ := owns_form hown
    have HE3 := hid hr3
    have HX3 := hid (HX2.out.below hb HX2.out.lt)
    have HR3 := hid (HR2.out.below hb)
    have HB3 := hid (bel HB2.out hb)
    clear hb c0 c1 c2 c3 c4 c5 hown hr3
    go_wp2_with fail
    refine (decode_any A3 _ cc3 (enc a) _ HE3.out (by have := HLN.out; omega)).mono ?_
    rintro e w4 ⟨hb, hm⟩
    rw [HDEC.out] at hm
    simp only [HKIND.out.1, HKIND.out.2, ← HF.out, ← HT.out] at hm
    obtain ⟨A4, c4, rfl, hr4⟩ := hm
    rw [HLNN.out] at hr4
    have HX4 := hid (HX3.out.below hb HX3.out.lt)
    have HR4 := hid (HR3.out.below hb)
    have HE4 := hid (HE3.out.below hb)
    have HD4 := hid hr4
    have HB4 := hid (bel HB3.out hb)
    clear hb hr4
    have hb : Below w4.heap.size w4 (w4.alloc (.cells #[.int .i64 (a.sort : Int), .int .i64 (a.status : Int), .int .i64 f, .int .i64 t0, .string (strOf KK), .slice A4 n c4] 24)) := (Below.refl _ _).alloc (Nat.le_refl _) _
    have HX5 := hid (HX4.out.below hb HX4.out.lt)
    have HY5 : Hid (B6 24 (w4.alloc (.cells #[.int .i64 (a.sort : Int), .int .i64 (a.status : Int), .int .i64 f, .int .i64 t0, .string (strOf KK), .slice A4 n c4] 24)) w4.heap.size (.int .i64 (a.sort : Int)) (.int .i64 (a.status : Int)) (.int .i64 f) (.int .i64 t0) (.string (strOf KK)) (.slice A4 n c4)) := heap_alloc_new w4 _
    have HR5 := hid (HR4.out.below hb)
    have HE5 := hid (HE4.out.below hb)
    have HD5 := hid (HD4.out.below hb)
    have HB5 := hid (bel HB4.out hb)
    obtain ⟨d0, d1, d2, d3, d4, d5⟩ := HX5.out.facts
    obtain ⟨f0, f1, f2, f3, f4, f5⟩ := HX5.out.thaw
    rw [HLNN.out]
    have HXa := hid (HX5.out.set0 (.int .i64 (a.sort : Int)))
    have HX := hid (HXa.out.set1 (.int .i64 (a.status : Int)))
    have hne : w4.heap.size ≠ w.heap.size := by have := HX4.out.lt; omega
    have HY := hid ((HY5.out.other hne 0 (.int .i64 (a.sort : Int))).other hne 1 (.int .i64 (a.status : Int)))
    have HR := hid (rds_b6 (i := 1) (x := .int .i64 (a.status : Int)) HXa.out (rds_b6 (i := 0) (x := .int .i64 (a.sort : Int)) HX5.out HR5.out))
    have HE := hid (rds_b6 (i := 1) (x := .int .i64 (a.status : Int)) HXa.out (rds_b6 (i := 0) (x := .int .i64 (a.sort : Int)) HX5.out HE5.out))
    have HR4' := hid (rds_b6 (i := 1) (x := .int .i64 (a.status : Int)) HXa.out (rds_b6 (i := 0) (x := .int .i64 (a.sort : Int)) HX5.out HD5.out))
    have HB := hid ((HB5.out.setCell (p := ⟨w.heap.size, 0, none⟩) (Nat.le_refl _) (.int .i64 (a.sort : Int))).setCell (p := ⟨w.heap.size, 1, none⟩) (Nat.le_refl _) (.int .i64 (a.status : Int)))
    clear hb hne HR4
    have HR4 := HR4'
    go_wp2_with fail
    generalize hW : World.setCell (World.setCell _ _ _) _ _ = W at HX HY HR HE HR4 HB ⊢
    clear hW HXa HX5 HY5 HR5 HE5 HD5 HB5 d0 d1 d2 d3 d4 d5 f0 f1 f2 f3 f4 f5 HR4'
    refine wp_region_rel (by kernel_rfl) [is (.slice A3 (enc a).length cc3), is (.string (strOf (enc a))), is (.agg #[.int .i64 (a.sort : Int), .int .i64 (a.status : Int), .int .i64 f, .int .i64 t0, .string (strOf KK), .slice A n cap]), is (.agg #[.int .i64 (a.sort : Int), .int .i64 (a.status : Int), .int .i64 f, .int .i64 t0, .string (strOf KK), .string (strOf L)]), is (.string (strOf (enc a))), is (.bool true), is (.bool true), is (.int .i64 0), is (.bool true), is (.bool true), is (.bool true), is (.agg #[.int .i64 (a.sort : Int), .int .i64 (a.status : Int), .int .i64 f, .int .i64 t0, .string (strOf KK), .slice A n cap]), is (.agg #[.int .i64 (a.sort : Int), .int .i64 (a.status : Int), .int .i64 f, .int .i64 t0, .string (strOf KK), .slice A4 n c4]), is (.bool true), is (.bool true), is (.bool true)] [[], [0], [], [2], [3], [1, 4], [5], [6], [6, 7], [6, 8], [9], [10], [10], [10, 11, 12], [10, 13], [14]] (by kernel_rfl) ?_ ?_
    · refine ⟨?_, ?_, ?_, ?_, ?_, ?_, ?_, ?_, ?_, ?_, ?_, ?_, ?_, ?_, ?_, ?_, trivial⟩
      · intro t wq hbq hh K hK
        clear hh
        simp only [filled, upd, Have, is, any, row, pick, Act.put, List.setIfInBounds_toArray, List.set_cons_zero, List.set_cons_succ, Nat.reduceAdd, Nat.reduceEqDiff, reduceIte] at hK ⊢
        go_simp
        exact hK _ _ (Below.refl _ _) rfl
      · intro t wq hbq hh K hK
        have e0 := hh.1
        simp only [pick] at e0
        replace e0 : t 0 = (.slice A3 (enc a).length cc3) := e0
        clear hh
        simp only [filled, upd, Have, is, any, row, pick, Act.put, List.setIfInBounds_toArray, List.set_cons_zero, List.set_cons_succ, Nat.reduceAdd, Nat.reduceEqDiff, reduceIte] at hK ⊢
        simp only [e0] at hK ⊢
        have hs := run_string_of (P := Try.prog) 22 9 5 Try.underlying22 Try.underlying5 Try.underlying9 _ cc3 (HE.out.below hbq)
        go_simp
        exact hK _ _ (Below.refl _ _) rfl
      · intro t wq hbq hh K hK
        clear hh
        simp only [filled, upd, Have, is, any, row, pick, Act.put, List.setIfInBounds_toArray, List.set_cons_zero, List.set_cons_succ, Nat.reduceAdd, Nat.reduceEqDiff, reduceIte] at hK ⊢
        obtain ⟨k0, k1, k2, k3, k4, k5⟩ := (HX.out.below hbq HX.out.lt).facts
        go_simp
        exact hK _ _ (Below.refl _ _) rfl
      · intro t wq hbq hh K hK
        have e2 := hh.1
        simp only [pick] at e2
        replace e2 : t 2 = (.agg #[.int .i64 (a.sort : Int), .int .i64 (a.status : Int), .int .i64 f, .int .i64 t0, .string (strOf KK), .slice A n cap]) := e2
        clear hh
        simp only [filled, upd, Have, is, any, row, pick, Act.put, List.setIfInBounds_toArray, List.set_cons_zero, List.set_cons_succ, Nat.reduceAdd, Nat.reduceEqDiff, reduceIte] at hK ⊢
        simp only [e2] at hK ⊢
        go_simp
        go_simp
        refine (of_any _ _ _ _ _ A n cap L _ (HR.out.below hbq)).mono ?_
        rintro e w9 ⟨rfl, hb9⟩
        exact hK _ _ hb9 rfl
      · intro t wq hbq hh K hK
        have e3 := hh.1
        simp only [pick] at e3
        replace e3 : t 3 = (.agg #[.int .i64 (a.sort : Int), .int .i64 (a.status : Int), .int .i64 f, .int .i64 t0, .string (strOf KK), .string (strOf L)]) := e3
        clear hh
        simp only [filled, upd, Have, is, any, row, pick, Act.put, List.setIfInBounds_toArray, List.set_cons_zero, List.set_cons_succ, Nat.reduceAdd, Nat.reduceEqDiff, reduceIte] at hK ⊢
        simp only [e3] at hK ⊢
        go_simp
        go_simp
        refine (AnsG.encode_any _ _ _ _ a.sort a.status a.first a.total KK L _ HU1.out HU2.out HU3.out HU4.out HKL.out HU5.out.1 HU5.out.2.1 HU5.out.2.2.1 HU5.out.2.2.2).mono ?_
        rintro e w9 ⟨rfl, hb9⟩
        exact hK _ _ hb9 (congrArg (fun x => Value.string (strOf x)) HENC.out)
      · intro t wq hbq hh K hK
        have e1 := hh.1
        simp only [pick] at e1
        replace e1 : t 1 = (.string (strOf (enc a))) := e1
        have e4 := hh.2.1
        simp only [pick] at e4
        replace e4 : t 4 = (.string (strOf (enc a))) := e4
        clear hh
        simp only [filled, upd, Have, is, any, row, pick, Act.put, List.setIfInBounds_toArray, List.set_cons_zero, List.set_cons_succ, Nat.reduceAdd, Nat.reduceEqDiff, reduceIte] at hK ⊢
        simp only [e1, e4] at hK ⊢
        have hbe : ((strOf (enc a)).toList == (strOf (enc a)).toList) = true := by rw [Regs.str_beq]; simp
        go_simp
        exact hK _ _ (Below.refl _ _) rfl
      · intro t wq hbq hh K hK
        have e5 := hh.1
        simp only [pick] at e5
        replace e5 : t 5 = (.bool true) := e5
        clear hh
        simp only [filled, upd, Have, is, any, row, pick, Act.put, List.setIfInBounds_toArray, List.set_cons_zero, List.set_cons_succ, Nat.reduceAdd, Nat.reduceEqDiff, reduceIte] at hK ⊢
        simp only [e5] at hK ⊢
        go_simp
        exact hK _ _ (Below.refl _ _) rfl
      · intro t wq hbq hh K hK
        have e6 := hh.1
        simp only [pick] at e6
        replace e6 : t 6 = (.bool true) := e6
        clear hh
        simp only [filled, upd, Have, is, any, row, pick, Act.put, List.setIfInBounds_toArray, List.set_cons_zero, List.set_cons_succ, Nat.reduceAdd, Nat.reduceEqDiff, reduceIte] at hK ⊢
        simp only [e6] at hK ⊢
        go_simp
        exact hK _ _ (Below.refl _ _) rfl
      · intro t wq hbq hh K hK
        have e6 := hh.1
        simp only [pick] at e6
        replace e6 : t 6 = (.bool true) := e6
        have e7 := hh.2.1
        simp only [pick] at e7
        replace e7 : t 7 = (.int .i64 0) := e7
        clear hh
        simp only [filled, upd, Have, is, any, row, pick, Act.put, List.setIfInBounds_toArray, List.set_cons_zero, List.set_cons_succ, Nat.reduceAdd, Nat.reduceEqDiff, reduceIte] at hK ⊢
        simp only [e6, e7] at hK ⊢
        go_simp
        first | exact hK _ _ (Below.refl _ _) rfl | exact hK _ _ (Below.refl _ _) (int_wrap (by omega) (by omega))
      · intro t wq hbq hh K hK
        have e6 := hh.1
        simp only [pick] at e6
        replace e6 : t 6 = (.bool true) := e6
        have e8 := hh.2.1
        simp only [pick] at e8
        replace e8 : t 8 = (.bool true) := e8
        clear hh
        simp only [filled, upd, Have, is, any, row, pick, Act.put, List.setIfInBounds_toArray, List.set_cons_zero, List.set_cons_succ, Nat.reduceAdd, Nat.reduceEqDiff, reduceIte] at hK ⊢
        simp only [e6, e8] at hK ⊢
        go_simp
        exact hK _ _ (Below.refl _ _) rfl
      · intro t wq hbq hh K hK
        have e9 := hh.1
        simp only [pick] at e9
        replace e9 : t 9 = (.bool true) := e9
        clear hh
        simp only [filled, upd, Have, is, any, row, pick, Act.put, List.setIfInBounds_toArray, List.set_cons_zero, List.set_cons_succ, Nat.reduceAdd, Nat.reduceEqDiff, reduceIte] at hK ⊢
        simp only [e9] at hK ⊢
        go_simp
        exact hK _ _ (Below.refl _ _) rfl
      · intro t wq hbq hh K hK
        have e10 := hh.1
        simp only [pick] at e10
        replace e10 : t 10 = (.bool true) := e10
        clear hh
        simp only [filled, upd, Have, is, any, row, pick, Act.put, List.setIfInBounds_toArray, List.set_cons_zero, List.set_cons_succ, Nat.reduceAdd, Nat.reduceEqDiff, reduceIte] at hK ⊢
        simp only [e10] at hK ⊢
        obtain ⟨k0, k1, k2, k3, k4, k5⟩ := (HX.out.below hbq HX.out.lt).facts
        go_simp
        exact hK _ _ (Below.refl _ _) rfl
      · intro t wq hbq hh K hK
        have e10 := hh.1
        simp only [pick] at e10
        replace e10 : t 10 = (.bool true) := e10
        clear hh
        simp only [filled, upd, Have, is, any, row, pick, Act.put, List.setIfInBounds_toArray, List.set_cons_zero, List.set_cons_succ, Nat.reduceAdd, Nat.reduceEqDiff, reduceIte] at hK ⊢
        simp only [e10] at hK ⊢
        obtain ⟨k0, k1, k2, k3, k4, k5⟩ := (HY.out.below hbq HY.out.lt).facts
        go_simp
        exact hK _ _ (Below.refl _ _) rfl
      · intro t wq hbq hh K hK
        have e10 := hh.1
        simp only [pick] at e10
        replace e10 : t 10 = (.bool true) := e10
        have e11 := hh.2.1
        simp only [pick] at e11
        replace e11 : t 11 = (.agg #[.int .i64 (a.sort : Int), .int .i64 (a.status : Int), .int .i64 f, .int .i64 t0, .string (strOf KK), .slice A n cap]) := e11
        have e12 := hh.2.2.1
        simp only [pick] at e12
        replace e12 : t 12 = (.agg #[.int .i64 (a.sort : Int), .int .i64 (a.status : Int), .int .i64 f, .int .i64 t0, .string (strOf KK), .slice A4 n c4]) := e12
        clear hh
        simp only [filled, upd, Have, is, any, row, pick, Act.put, List.setIfInBounds_toArray, List.set_cons_zero, List.set_cons_succ, Nat.reduceAdd, Nat.reduceEqDiff, reduceIte] at hK ⊢
        simp only [e10, e11, e12] at hK ⊢
        go_simp
        go_simp
        refine (same_any _ _ _ _ _ A n cap L _ _ _ _ _ A4 n c4 L _ (HR.out.below hbq) (HR4.out.below hbq)).mono ?_
        rintro e w9 ⟨rfl, hb9⟩
        exact hK _ _ hb9 (congrArg Value.bool HSM.out)
      · intro t wq hbq hh K hK
        have e10 := hh.1
        simp only [pick] at e10
        replace e10 : t 10 = (.bool true) := e10
        have e13 := hh.2.1
        simp only [pick] at e13
        replace e13 : t 13 = (.bool true) := e13
        clear hh
        simp only [filled, upd, Have, is, any, row, pick, Act.put, List.setIfInBounds_toArray, List.set_cons_zero, List.set_cons_succ, Nat.reduceAdd, Nat.reduceEqDiff, reduceIte] at hK ⊢
        simp only [e10, e13] at hK ⊢
        go_simp
        exact hK _ _ (Below.refl _ _) rfl
      · intro t wq hbq hh K hK
        have e14 := hh.1
        simp only [pick] at e14
        replace e14 : t 14 = (.bool true) := e14
        clear hh
        simp only [filled, upd, Have, is, any, row, pick, Act.put, List.setIfInBounds_toArray, List.set_cons_zero, List.set_cons_succ, Nat.reduceAdd, Nat.reduceEqDiff, reduceIte] at hK ⊢
        simp only [e14] at hK ⊢
        go_simp
        exact hK _ _ (Below.refl _ _) rfl
    · intro t wq hbq hh
      have f15 := have_get hh 15 (by decide)
      simp only [pick] at f15
      replace f15 : t 15 = (.bool true) := f15
      clear hh
      simp only [filled, upd, Have, is, any, row, pick, Act.put, List.setIfInBounds_toArray, List.set_cons_zero, List.set_cons_succ, Nat.reduceAdd, Nat.reduceEqDiff, reduceIte]
      simp only [f15]
      go_wp2
      go_ret
      exact ⟨rfl, HB.out.trans (hbq.mono HB.out.size)⟩
  · have hd : decide ((strOf KK).size + n ≤ 600) = false := decide_eq_false (by rw [size_strOf]; exact h)
    have HD := hid hd
    clear hd
    go_enter Try.func3, Try.ntmps3
    go_wp2_with fail
    refine (awake_any _).mono ?_
    rintro e w1 ⟨rfl, hb⟩
    have HX1 := hid (HX0.out.below hb HX0.out.lt)
    have HB1 := hid (bel HB0.out hb)
    obtain ⟨c0, c1, c2, c3, c4, c5⟩ := HX1.out.facts
    clear hb
    go_wp2_with fail
    refine (few_any so st f t0 (strOf KK) A n cap _ (by rw [HKS.out]; exact zk) hn47).mono ?_
    rw [HD.out]
    rintro e w2 ⟨rfl, hb⟩
    have HB2 := hid (bel HB1.out hb)
    clear hb c0 c1 c2 c3 c4 c5
    go_wp2_with fail
    refine (awake_any _).mono ?_
    rintro e w3 ⟨rfl, hb⟩
    have HB3 := hid (bel HB2.out hb)
    clear hb
    go_wp2
    go_ret
    exact ⟨rfl, HB3.out⟩
end Go.Proofs.Ythbpjkgbnmllkaa.Laws
