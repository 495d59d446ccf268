/- The law AnswerCuts. -/
import Derived.Test.YthbpjkgbnmllkaaLaw25a
import Derived.Deep.Cut
namespace Go.Proofs.Ythbpjkgbnmllkaa.Laws
open Go.RowKit Go.Proofs.Ythbpjkgbnmllkaa.Base Go.Proofs.Ythbpjkgbnmllkaa.Base2 Go.Proofs.Ythbpjkgbnmllkaa.Base3 Go.Proofs.Ythbpjkgbnmllkaa.Regs Go.Proofs.Ythbpjkgbnmllkaa.AnsP Go.Proofs.Ythbpjkgbnmllkaa.AnsB Go.Proofs.Ythbpjkgbnmllkaa.AnsD Go.Proofs.Ythbpjkgbnmllkaa.AnsI

set_option linter.unusedSimpArgs false in
set_option maxRecDepth 100000 in
set_option maxHeartbeats 8000000 in
/-- The walk of the law AnswerCuts. -/
theorem AnswerCuts_any (so st f t0 : Int) (k : ByteArray) (A : Option Addr) (n cap : Nat) (L : List UInt8) (at0 : Int) (D : Option Addr) (m capm : Nat) (M : List UInt8) (w : World) (_b1 : -9223372036854775808 ≤ so ∧ so ≤ 9223372036854775807) (_b2 : -9223372036854775808 ≤ st ∧ st ≤ 9223372036854775807) (b3 : -9223372036854775808 ≤ f ∧ f ≤ 9223372036854775807) (b4 : -9223372036854775808 ≤ t0 ∧ t0 ≤ 9223372036854775807) (zk : k.size ≤ 140737488351232)
    (r : Rds w A n (bcells L)) (_c : n ≤ cap) (z : cap * 1 ≤ 140737488351232) (ba : 0 ≤ at0 ∧ at0 ≤ 65535) (rm : Rds w D m (bcells M)) (_cm : m ≤ capm) (zm : capm * 1 ≤ 140737488351232) :
    Calls Try.prog 7 #[.agg #[.int .i64 so, .int .i64 st, .int .i64 f, .int .i64 t0, .string k, .slice A n cap], .int .u16 at0, .slice D m capm] w fun e w' => e = .returned (.bool true) ∧ Below w.heap.size w w' := by
  obtain ⟨KK, rfl⟩ : ∃ KK, k = strOf KK := ⟨_, (strOf_toList k).symm⟩
  rw [size_strOf] at zk
  have hn47 : n ≤ 140737488351232 := by omega
  have hm47 : (m : Int) ≤ 140737488351232 := by omega
  have hks : (strOf KK).size = KK.length := size_strOf KK
  have hw1 : Below w.heap.size w (w.alloc (.cells #[.int .i64 so, .int .i64 st, .int .i64 f, .int .i64 t0, .string (strOf KK), .slice A n cap] 24)) := (Below.refl _ _).alloc (Nat.le_refl _) _
  have HX0 : Hid (B6 24 (w.alloc (.cells #[.int .i64 so, .int .i64 st, .int .i64 f, .int .i64 t0, .string (strOf KK), .slice A n cap] 24)) w.heap.size (.int .i64 so) (.int .i64 st) (.int .i64 f) (.int .i64 t0) (.string (strOf KK)) (.slice A n cap)) := heap_alloc_new w _
  have HR0 := hid (r.below hw1)
  have HM0 := hid (rm.below hw1)
  have HB0 := hid hw1
  have HHF := hid (sg_mod f b3)
  have HHT := hid (sg_mod t0 b4)
  have HKS := hid hks
  have hML : M.length = m := by have := rm.1; rwa [length_bcells] at this
  have HMLN := hid hML
  obtain ⟨i0, hi, hz0, hz1, hz2⟩ := info_parts info_u8
  obtain ⟨an, han⟩ : ∃ an : Nat, at0 = (an : Int) := ⟨at0.toNat, by omega⟩
  subst han
  clear r rm hw1 _b1 _b2 b3 b4 z _c hks zm _cm hML
  by_cases h : KK.length + n ≤ 600
  · have hd : decide ((strOf KK).size + n ≤ 600) = true := decide_eq_true (by rw [size_strOf]; exact h)
    have HD := hid hd
    clear hd
    by_cases hm : m ≤ 100
    · have hmi : ¬ (100 : Int) < (m : Int) := by omega
      obtain ⟨a, ha⟩ : ∃ a, a = ans so st f t0 KK L := ⟨_, rfl⟩
      have HISA : Hid (∀ W B m c, Rds W B m (bcells L) → m ≤ 1000000 → IsA a so st (strOf KK) W B m c) := fun W B m c hW hm => ha ▸ ans_is so st f t0 KK L W B m c hW (by omega) hm
      have HF : Hid (f = AnsW.sg a.first) := by rw [ha]; exact HHF.out
      have HT : Hid (t0 = AnsW.sg a.total) := by rw [ha]; exact HHT.out
      have HFITS : Hid (Fits a) := (HISA.out _ A n cap HR0.out (by omega)).fits
      obtain ⟨E, hE⟩ : ∃ E, E = enc a := ⟨_, rfl⟩
      obtain ⟨N, hN⟩ : ∃ N, N = E.length := ⟨_, rfl⟩
      have hlen : N = 29 + KK.length + n := by
        rw [hN, hE, length_enc, ha]
        have := HR0.out.1
        rw [length_bcells] at this
        show 29 + KK.length + L.length = _
        omega
      obtain ⟨q, hq⟩ : ∃ q, q = an % N := ⟨_, rfl⟩
      have hqN : q < N := by rw [hq]; exact Nat.mod_lt _ (by omega)
      have hqt : (an : Int).tmod (N : Int) = (q : Int) := by rw [Int.tmod_eq_emod_of_nonneg (by omega), hq]; simp
      have hN1 : ¬ (N : Int) < 29 := by omega
      have hN0 : ¬ (N : Int) = 0 := by omega
      have hNu : (N : Int) ≤ 700 := by omega
      have hNn : N ≤ 700 := by omega
      have HD1 : Hid (dec (E.take q) = none) := by rw [hE]; exact dec_cut a HFITS.out q (by rw [← hE, ← hN]; exact hqN)
      have HD2 : Hid (dec (E ++ M) = if M = [] then some a else none) := by rw [hE]; exact dec_enc_more a HFITS.out M
      have HE := hid hE
      have HN := hid hN
      clear hE hN hlen ha hq
      go_enter Try.func7, Try.ntmps7
      go_wp2_with fail
      refine (awake_any _).mono ?_
      rintro e w1 ⟨rfl, hb⟩
      have HX1 := hid (HX0.out.below hb HX0.out.lt)
      have HR1 := hid (HR0.out.below hb)
      have HM1 := hid (HM0.out.below hb)
      have HB1 := hid (bel HB0.out hb)
      obtain ⟨c0, c1, c2, c3, c4, c5⟩ := HX1.out.facts
      clear hb
      go_wp2_with fail
      refine (few_any so st f t0 (strOf KK) A n cap _ (by rw [HKS.out]; exact zk) hn47).mono ?_
      rw [HD.out]
      rintro e w2 ⟨rfl, hb⟩
      have HX2 := hid (HX1.out.below hb HX1.out.lt)
      have HR2 := hid (HR1.out.below hb)
      have HM2 := hid (HM1.out.below hb)
      have HB2 := hid (bel HB1.out hb)
      clear hb c0 c1 c2 c3 c4 c5
      obtain ⟨c0, c1, c2, c3, c4, c5⟩ := HX2.out.facts
      go_wp2_with fail
      refine (encode_any' a so st f t0 (strOf KK) _ A n cap (HISA.out _ A n cap HR2.out (by omega)) HF.out HT.out).mono ?_
      rw [← HE.out, ← HN.out]
      rintro e w3 ⟨v, rfl, hown, hb⟩
      obtain ⟨A3, cc3, rfl, hc3, hm3, hr3⟩ := owns_form hown
      obtain ⟨g3, o3, rfl, _, _⟩ := hr3.spot (by omega)
      have HE3 := hid hr3
      have HM3 := hid (HM2.out.below hb)
      have HB3 := hid (bel HB2.out hb)
      have HQ3 : Hid (Rds w3 (some ⟨g3, o3, none⟩) q (bcells (E.take q))) := by rw [bcells_take]; exact hr3.upto q (by omega)
      have hqc : q ≤ cc3 := by omega
      clear hb c0 c1 c2 c3 c4 c5 hown hr3 hm3
      go_wp2_with fail
      refine (decode_any _ q cc3 (E.take q) _ HQ3.out (by omega)).mono ?_
      rintro e w4 ⟨hb, hm⟩
      rw [HD1.out] at hm
      subst hm
      have HE4 := hid (HE3.out.below hb)
      have HM4 := hid (HM3.out.below hb)
      have HB4 := hid (bel HB3.out hb)
      clear hb
      have hb5 : Below w4.heap.size w4 (w4.alloc (.cells #[.int .i64 0, .int .i64 0, .int .i64 0, .int .i64 0, .string ⟨#[]⟩, .slice none 0 0] 24)) := (Below.refl _ _).alloc (Nat.le_refl _) _
      have HX5 : Hid (B6 24 (w4.alloc (.cells #[.int .i64 0, .int .i64 0, .int .i64 0, .int .i64 0, .string ⟨#[]⟩, .slice none 0 0] 24)) w4.heap.size (.int .i64 0) (.int .i64 0) (.int .i64 0) (.int .i64 0) (.string ⟨#[]⟩) (.slice none 0 0)) := heap_alloc_new w4 _
      obtain ⟨w5, hw5⟩ : ∃ w5, w5 = w4.alloc (.cells #[.int .i64 0, .int .i64 0, .int .i64 0, .int .i64 0, .string ⟨#[]⟩, .slice none 0 0] 24) := ⟨_, rfl⟩
      go_upto_region 7 with (fail)
      rw [← hw5] at hb5 HX5 ⊢
      have HE5 := hid (HE4.out.below hb5)
      have HM5 := hid (HM4.out.below hb5)
      have HB5 := hid (bel HB4.out hb5)
      have hownA : (w5.alloc (.cells #[] 5)).ownsRow w5.heap.size 5 1 (.slice (some ⟨w5.heap.size, 0, none⟩) 0 0) 0 [] := World.ownsRow_made w5 #[] 0 (Nat.le_refl _) (by decide) rfl
      have hbelA : Below w5.heap.size w5 (w5.alloc (.cells #[] 5)) := (Below.refl _ _).alloc (Nat.le_refl _) _
      have HRA := hid (HE5.out.below hbelA)
      clear hb5 hw5
      go_wp2_with (at_builtin; refine wpList_app_any rfl _ _ 22 rfl w5.heap.size 5 i0 (.int .u8 0) 1 Try.underlying22 hi hz0 hz1 hz2 rfl _ 0 [] rfl hownA hbelA hbelA.size (some ⟨g3, o3, none⟩) N cc3 (bcells E) rfl HRA.out (bcells_one _) (by unfold maxLen; omega) (by omega) ?_)
      intro v6 w6 hown6 hbel6
      have hown6' : w6.ownsRow w5.heap.size 5 1 v6 N (bcells E) := by simpa using hown6
      have HM6 := hid (HM5.out.below hbel6)
      clear hownA hbelA HRA hown6
      go_wp2_with (at_builtin; refine wpList_app_any rfl _ _ 22 rfl w5.heap.size 5 i0 (.int .u8 0) 1 Try.underlying22 hi hz0 hz1 hz2 rfl v6 N (bcells E) rfl hown6' hbel6 hbel6.size D m capm (bcells M) rfl HM6.out (bcells_one _) (by unfold maxLen; omega) (by omega) ?_)
      intro v7 w7 hown7 hbel7
      obtain ⟨A7, c7, rfl, hc7, hm7, hr7⟩ := owns_form hown7
      have HR7 : Hid (Rds w7 A7 (N + m) (bcells (E ++ M))) := by rw [bcells_append]; exact hr7
      have HX7 := hid (HX5.out.below hbel7 HX5.out.lt)
      have HB7 := hid (bel HB5.out hbel7)
      clear hown6' hbel6 hown7 hbel7 hr7
      go_wp2_with fail
      refine (decode_any A7 (N + m) c7 (E ++ M) _ HR7.out (by omega)).mono ?_
      rintro e w8 ⟨hb, hmm⟩
      rw [HD2.out] at hmm
      have HX8 := hid (HX7.out.below hb HX7.out.lt)
      have HB8 := hid (bel HB7.out hb)
      clear hb
      by_cases hM0 : M = []
      · rw [if_pos hM0] at hmm
        obtain ⟨A8, c8, rfl, hr8⟩ := hmm
        have hm0 : m = 0 := by rw [← HMLN.out, hM0]; rfl
        subst hm0
        clear hr8 hM0
        have hb9 : Below w8.heap.size w8 (w8.alloc (.cells #[.int .i64 (a.sort : Int), .int .i64 (a.status : Int), .int .i64 (AnsW.sg a.first), .int .i64 (AnsW.sg a.total), .string (strOf a.kind), .slice A8 a.body.length c8] 24)) := (Below.refl _ _).alloc (Nat.le_refl _) _
        have HB9 := hid (bel HB8.out hb9)
        obtain ⟨k0, k1, k2, k3, k4, k5⟩ := HX8.out.facts
        obtain ⟨d0, d1, d2, d3, d4, d5⟩ := (HX8.out.below hb9 HX8.out.lt).facts
        clear hb9
        go_wp2_with fail
        refine (same_any 0 0 0 0 ⟨#[]⟩ none 0 0 [] 0 0 0 0 ⟨#[]⟩ none 0 0 [] _ (Rds.nil _) (Rds.nil _)).mono ?_
        rintro e w10 ⟨rfl, hb10⟩
        have hsame : same6 0 0 0 0 (⟨#[]⟩ : ByteArray).data.toList [] 0 0 0 0 (⟨#[]⟩ : ByteArray).data.toList [] = true := by decide
        rw [hsame]
        go_wp2
        go_ret
        exact ⟨rfl, bel HB9.out hb10⟩
      · rw [if_neg hM0] at hmm
        subst hmm
        have hm1 : (0 : Int) < (m : Int) := by have := List.length_pos_iff.2 hM0; rw [HMLN.out] at this; omega
        have hmd : decide ((0 : Int) < (m : Int)) = true := decide_eq_true hm1
        have HMP : Hid (0 < m) := by show 0 < m; omega
        clear hm1
        have hb9 : Below w8.heap.size w8 (w8.alloc (.cells #[.int .i64 0, .int .i64 0, .int .i64 0, .int .i64 0, .string ⟨#[]⟩, .slice none 0 0] 24)) := (Below.refl _ _).alloc (Nat.le_refl _) _
        have HB9 := hid (bel HB8.out hb9)
        obtain ⟨k0, k1, k2, k3, k4, k5⟩ := HX8.out.facts
        obtain ⟨d0, d1, d2, d3, d4, d5⟩ := (HX8.out.below hb9 HX8.out.lt).facts
        clear hb9
        go_wp2_with fail
        refine (same_any 0 0 0 0 ⟨#[]⟩ none 0 0 [] 0 0 0 0 ⟨#[]⟩ none 0 0 [] _ (Rds.nil _) (Rds.nil _)).mono ?_
        rintro e w10 ⟨rfl, hb10⟩
        have hsame : same6 0 0 0 0 (⟨#[]⟩ : ByteArray).data.toList [] 0 0 0 0 (⟨#[]⟩ : ByteArray).data.toList [] = true := by decide
        rw [hsame]
        go_wp2
        go_ret
        refine ⟨?_, bel HB9.out hb10⟩
        simp
        exact HMP.out
    · have hmi : (100 : Int) < (m : Int) := by omega
      go_enter Try.func7, Try.ntmps7
      go_wp2_with fail
      refine (awake_any _).mono ?_
      rintro e w1 ⟨rfl, hb⟩
      have HX1 := hid (HX0.out.below hb HX0.out.lt)
      have HB1 := hid (bel HB0.out hb)
      obtain ⟨c0, c1, c2, c3, c4, c5⟩ := HX1.out.facts
      clear hb
      go_wp2_with fail
      refine (few_any so st f t0 (strOf KK) A n cap _ (by rw [HKS.out]; exact zk) hn47).mono ?_
      rw [HD.out]
      rintro e w2 ⟨rfl, hb⟩
      have HB2 := hid (bel HB1.out hb)
      clear hb c0 c1 c2 c3 c4 c5
      go_wp2_with fail
      refine (awake_any _).mono ?_
      rintro e w3 ⟨rfl, hb⟩
      have HB3 := hid (bel HB2.out hb)
      clear hb
      go_wp2
      go_ret
      exact ⟨rfl, HB3.out⟩
  · have hd : decide ((strOf KK).size + n ≤ 600) = false := decide_eq_false (by rw [size_strOf]; exact h)
    have HD := hid hd
    clear hd
    go_enter Try.func7, Try.ntmps7
    go_wp2_with fail
    refine (awake_any _).mono ?_
    rintro e w1 ⟨rfl, hb⟩
    have HX1 := hid (HX0.out.below hb HX0.out.lt)
    have HB1 := hid (bel HB0.out hb)
    obtain ⟨c0, c1, c2, c3, c4, c5⟩ := HX1.out.facts
    clear hb
    go_wp2_with fail
    refine (few_any so st f t0 (strOf KK) A n cap _ (by rw [HKS.out]; exact zk) hn47).mono ?_
    rw [HD.out]
    rintro e w2 ⟨rfl, hb⟩
    have HB2 := hid (bel HB1.out hb)
    clear hb c0 c1 c2 c3 c4 c5
    go_wp2_with fail
    refine (awake_any _).mono ?_
    rintro e w3 ⟨rfl, hb⟩
    have HB3 := hid (bel HB2.out hb)
    clear hb
    go_wp2
    go_ret
    exact ⟨rfl, HB3.out⟩
end Go.Proofs.Ythbpjkgbnmllkaa.Laws
