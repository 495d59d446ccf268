/- Types: what is printed of one, by the code. -/
import Derived.Test.YtlbgcibdpeaomaaDoorMimG
import Derived.Test.YtlbgcibdpeaomaaDoorBldK
import Derived.Test.YtlbgcibdpeaomaaDoorTokS
namespace Go.Proofs.YtlbgcibdpeaomaaDoor.MimH
open Go.RowKit Go.Proofs.YtlbgcibdpeaomaaDoor.Base Go.Proofs.YtlbgcibdpeaomaaDoor.Base2 Go.Proofs.YtlbgcibdpeaomaaDoor.UtfL Go.Proofs.YtlbgcibdpeaomaaDoor.TokP Go.Proofs.YtlbgcibdpeaomaaDoor.MimP Go.Proofs.YtlbgcibdpeaomaaDoor.MimA Go.Proofs.YtlbgcibdpeaomaaDoor.MimB Go.Proofs.YtlbgcibdpeaomaaDoor.MimC Go.Proofs.YtlbgcibdpeaomaaDoor.MimD Go.Proofs.YtlbgcibdpeaomaaDoor.MimE Go.Proofs.YtlbgcibdpeaomaaDoor.MimQ Go.Proofs.YtlbgcibdpeaomaaDoor.MimF Go.Proofs.YtlbgcibdpeaomaaDoor.Mim0 Go.Proofs.YtlbgcibdpeaomaaDoor.Mim1 Go.Proofs.YtlbgcibdpeaomaaDoor.BldA Go.Proofs.YtlbgcibdpeaomaaDoor.BldK

def PSL (l : List (ByteArray × ByteArray)) : PL := l.map fun p => (p.1.data.toList, p.2.data.toList)
theorem PSL_len (l : List (ByteArray × ByteArray)) : (PSL l).length = l.length := by simp [PSL]
theorem PSL_take (l : List (ByteArray × ByteArray)) (k : Nat) (h : k < l.length) : (PSL l).take (k + 1) = (PSL l).take k ++ [(l[k].1.data.toList, l[k].2.data.toList)] := by
  rw [List.take_succ_eq_append_getElem (by rw [PSL_len]; exact h)]
  simp [PSL]
theorem PSL_all (l : List (ByteArray × ByteArray)) : (PSL l).take l.length = PSL l := List.take_of_length_le (by rw [PSL_len]; exact Nat.le_refl _)
theorem dl (s : ByteArray) : s.data.toList.length = s.size := Array.length_toList
theorem pone_len (s1 s2 : ByteArray) (h : s1.size + s2.size ≤ 200) : (pone (s1.data.toList, s2.data.toList)).length ≤ 604 := by
  have := pval_len s2.data.toList
  rw [dl] at this
  unfold pone
  simp only [List.length_cons, List.length_append, dl]
  omega
theorem pps_len {l : List (ByteArray × ByteArray)} (h : ∀ p ∈ l, p.1.size + p.2.size ≤ 200) : ∀ k, k ≤ l.length → (pps ((PSL l).take k)).length ≤ 604 * k
  | 0, _ => by simp [pps]
  | k + 1, hk => by
    have ih := pps_len h k (by omega)
    have := pone_len l[k].1 l[k].2 (h _ (List.getElem_mem _))
    rw [PSL_take l k (by omega), pps_snoc, List.length_append]
    omega
theorem ess_len (T S : ByteArray) : (ess T.data.toList S.data.toList).length = T.size + S.size + 1 := by
  unfold ess
  simp only [List.length_cons, List.length_append, dl]
  omega
theorem hB3lt {B b : Nat} {l : List UInt8} {w : World} (h : IsB B b l w) : b < w.heap.size := by
  rcases h with ⟨_, v, h2, _⟩ | ⟨_, v, h2, _⟩
  · exact (Array.getElem?_eq_some_iff.1 h2).1
  · exact (Array.getElem?_eq_some_iff.1 h2).1
theorem print_step (P s1 v : List UInt8) (s2 : List UInt8) (h : v = pval s2) : P ++ ((59 :: s1) ++ [61]) ++ v = P ++ pone (s1, s2) := by
  subst h
  simp [pone]
set_option linter.unusedSimpArgs false in
set_option maxRecDepth 100000 in
set_option maxHeartbeats 4000000 in
theorem print_any (T S : ByteArray) (A : Option Addr) (n cap : Nat) (l : List (ByteArray × ByteArray)) (w : World) (hr : Prm w A n l) (hc : n ≤ cap) (hm : cap ≤ maxLen) (hF : FewB T S l) :
    Calls Tryd.prog 18 #[.agg #[.string T, .string S, .slice A n cap]] w fun e w' => e = .returned (.string (strOf (printM T.data.toList S.data.toList (PSL l)))) ∧ Below w.heap.size w w' := by
  unfold maxLen at hm
  obtain ⟨hf1, hf2, hf3⟩ := hF
  have hl : l.length = n := hr.1
  have HL := hid hl
  have HR := hid hr
  have HF := hid hf3
  have hn20 : n ≤ 20 := by omega
  obtain ⟨E, hE⟩ : ∃ E, E = ess T.data.toList S.data.toList := ⟨_, rfl⟩
  have hEl : E.length ≤ 201 := by rw [hE, ess_len]; omega
  have HE := hid (fun w => essence_any T S (.slice A n cap) w (by omega) (by omega))
  rw [← hE] at HE
  have HP : Hid (∀ k, k ≤ l.length → (E ++ pps ((PSL l).take k)).length ≤ 201 + 604 * k) := by
    intro k hk
    have := pps_len hf3 k hk
    rw [List.length_append]
    omega
  have HV : Hid (printM T.data.toList S.data.toList (PSL l) = E ++ pps ((PSL l).take n)) := by
    show _ = _
    rw [← hl, PSL_all, hE]
    rfl
  have HEL := hid hEl
  have HTY : Hid (40 ≠ 5) := by show _ ≠ _; decide
  clear hr hl hf1 hf2 hf3 hE hEl
  go_enter Tryd.func18, Tryd.ntmps18
  go_upto_region 1 with (fail)
  generalize hw1 : w.alloc _ = w1
  have hb1 : Below w.heap.size w w1 := by rw [← hw1]; exact (Below.refl _ _).alloc (Nat.le_refl _) _
  have hs1 : w1.heap.size = w.heap.size + 1 := by rw [← hw1]; simp
  have HX1 : Hid (B3 25 w1 w.heap.size (.string T) (.string S) (.slice A n cap)) := by
    show B3 _ _ _ _ _ _
    rw [← hw1]
    exact heap_alloc_new w _
  clear hw1
  go_upto_region 2 with (fail)
  have HB2 : Hid (IsB (w.heap.size + 1) (w.heap.size + 1) [] (w1.alloc (.cells #[.pointer none, .slice none 0 0] 54))) := by
    have h := Lib.fresh_isBuilder 54 5 w1
    rw [hs1] at h
    exact h
  have hb12 : Below (w.heap.size + 1) w1 (w1.alloc (.cells #[.pointer none, .slice none 0 0] 54)) := (Below.refl _ _).alloc (by rw [hs1]; exact Nat.le_refl _) _
  generalize hw2 : w1.alloc _ = w2 at HB2 hb12 ⊢
  clear hw2
  have hsz1 : w.heap.size + 1 ≤ w2.heap.size := by have := hb12.size; omega
  have hx2 : B3 25 w2 w.heap.size (.string T) (.string S) (.slice A n cap) := (hb12.block _ (by omega)).trans HX1.out
  have HX2 := hid hx2
  obtain ⟨c0, c1, c2⟩ := hx2.facts
  have HB02 : Hid (Below w.heap.size w w2) := hb1.trans (hb12.mono (by omega))
  have HS1 := hid hs1
  clear hx2 hs1 hb1 hb12 HX1
  go_wp2_with fail
  refine (HE.out _).mono ?_
  rintro e w3 ⟨rfl, hb3⟩
  have HB3 := hid (isB_below HB2.out hb3)
  have HB03 := hid (bel HB02.out hb3)
  have hsz3 : w.heap.size + 1 ≤ w3.heap.size := by have := hb3.size; omega
  have hx3 := HX2.out.below hb3
  have HX3 := hid hx3
  clear hb3 c0 c1 c2
  go_wp2_with fail
  refine (write_keep _ _ _ _ _ HB3.out (by rw [size_strOf]; have := HEL.out; simp; omega) hsz3).mono ?_
  rintro e w4 ⟨rfl, hB4, hb4, hk4⟩
  have HB4 : Hid (IsB (w.heap.size + 1) (w.heap.size + 1) (E ++ pps ((PSL l).take 0)) w4) := by
    show IsB _ _ _ _
    rw [show (E ++ pps ((PSL l).take 0)) = [] ++ (strOf E).data.toList by simp [pps, strOf]]
    exact hB4
  have hb34 : Below w.heap.size w3 w4 := hb4.mono (by omega)
  have HB04 : Hid (Below w.heap.size w w4) := HB03.out.trans hb34
  have hsz4 : w.heap.size + 1 ≤ w4.heap.size := by have := hb4.size; omega
  have hx4 : B3 25 w4 w.heap.size (.string T) (.string S) (.slice A n cap) := (hb4.block _ (by omega)).trans HX3.out
  obtain ⟨c0, c1, c2⟩ := hx4.facts
  clear hB4 hb4 hk4 hb34 hx4 hx3
  go_upto_region 4 with (fail)
  clear c0 c1 c2
  go_loopw [5, 12] (fun _ vk wr => ∃ k : Nat, k ≤ n ∧ vk = .int .i64 (k : Int) ∧ Hid (IsB (w.heap.size + 1) (w.heap.size + 1) (E ++ pps ((PSL l).take k)) wr) ∧ Hid (Below w.heap.size w wr) ∧ w.heap.size + 1 ≤ wr.heap.size) (fun _ vk _ => n - (intOf vk).toNat)
  case atStart => exact ⟨0, Nat.zero_le _, rfl, HB4.out, HB04.out, hsz4⟩
  case round =>
    obtain ⟨k, hk, rfl, HB, HBL, hsz⟩ := hrel
    by_cases hlt : k < n
    · have hkl : k < l.length := by rw [HL.out]; exact hlt
      obtain ⟨b, off, rfl, hb, h1, h2⟩ := (HR.out.under HBL.out (Nat.le_refl _)).2 k hkl
      have hz := HF.out l[k] (List.getElem_mem hkl)
      have hTk := PSL_take l k hkl
      have hPk := HP.out (k + 1) hkl
      obtain ⟨s1, hs1⟩ : ∃ s, s = l[k].1 := ⟨_, rfl⟩
      obtain ⟨s2, hs2⟩ : ∃ s, s = l[k].2 := ⟨_, rfl⟩
      rw [← hs1] at h1 hz hTk
      rw [← hs2] at h2 hz hTk
      have HTK := hid hTk
      obtain ⟨P, hP⟩ : ∃ P, P = E ++ pps ((PSL l).take k) := ⟨_, rfl⟩
      have HPN : Hid (E ++ pps ((PSL l).take (k + 1)) = P ++ pone (s1.data.toList, s2.data.toList)) := by
        show _ = _
        rw [hTk, pps_snoc, hP, List.append_assoc]
      have hPl : P.length ≤ 20000 := by rw [hP]; have := HP.out k (by omega); omega
      have HPL := hid hPl
      rw [← hP] at HB
      have hki : (k : Int) < (n : Int) := by omega
      obtain ⟨X, hX⟩ : ∃ X, X = 59 :: s1.data.toList := ⟨_, rfl⟩
      obtain ⟨Y, hY⟩ : ∃ Y, Y = X ++ [61] := ⟨_, rfl⟩
      have hYl : Y.length ≤ 202 := by rw [hY, hX]; simp only [List.length_append, List.length_cons, dl, List.length_nil]; omega
      have a1 : ∀ w : World, (Op.stringOp .add ⟨#[59]⟩ s1).run Tryd.prog w = .ok (.string (strOf X)) w := fun w => by rw [hX]; exact str_add' ⟨#[59]⟩ s1 w (by show 1 + s1.size ≤ _; omega)
      have a2 : ∀ w : World, (Op.stringOp .add (strOf X) ⟨#[61]⟩).run Tryd.prog w = .ok (.string (strOf Y)) w := fun w => by rw [hY]; exact str_add' _ ⟨#[61]⟩ w (by rw [size_strOf, hX]; simp only [List.length_cons, dl]; show _ + 1 ≤ _; omega)
      have HST : Hid (∀ v, v = pval s2.data.toList → P ++ Y ++ v = E ++ pps ((PSL l).take (k + 1))) := by
        intro v hv
        rw [HPN.out, hY, hX]
        exact print_step _ _ _ _ hv
      have HYL := hid hYl
      have HIS := hid (fun w => TokA.is_any s2 w (by omega))
      have HQU := hid (fun w => TokS.quote_any s2 w (by omega))
      have hs2z : s2.size ≤ 200 := by omega
      have hpv : pval s2.data.toList = if isTok s2.data.toList = true then s2.data.toList else qq s2.data.toList := rfl
      have hqq := qq_len s2.data.toList
      rw [dl] at hqq
      obtain ⟨t, ht⟩ : ∃ t, t = isTok s2.data.toList := ⟨_, rfl⟩
      rw [← ht] at HIS hpv
      obtain ⟨Q, hQ⟩ : ∃ Q : ByteArray, Q = strOf (qq s2.data.toList) := ⟨_, rfl⟩
      rw [← hQ] at HQU
      have hQd : Q.data.toList = qq s2.data.toList := by rw [hQ]; rfl
      have hQl : Q.size ≤ 402 := by rw [hQ, size_strOf]; omega
      rw [← hQd] at hpv
      have HPV := hid hpv
      have HQL := hid hQl
      clear hs1 hs2 hkl hTk hPk hP hPl hX hY hYl hpv hqq ht hQ hQd hQl hz
      go_upto_region 6 with (fail)
      generalize hwa : wr.alloc _ = wa
      have hba : Below wr.heap.size wr wa := by rw [← hwa]; exact (Below.refl _ _).alloc (Nat.le_refl _) _
      have hxa : B2 40 wa wr.heap.size (.string s1) (.string s2) := by show B2 _ _ _ _ _; rw [← hwa]; exact heap_alloc_new _ _
      have HBa := hid (isB_below HB.out hba)
      have HBLa := hid (bel HBL.out hba)
      have hsza : w.heap.size + 1 ≤ wa.heap.size := by have := hba.size; omega
      have HXa := hid hxa
      obtain ⟨k0, k1⟩ := hxa.facts
      have HNE : Hid (wr.heap.size ≠ w.heap.size + 1) := by
        show _ ≠ _
        intro e
        have h3 := hB3lt HB.out
        omega
      clear hwa hba hxa h1 h2
      go_wp2_with fail
      clear k0 k1 a1 a2
      refine (write_keep _ _ _ _ _ HBa.out (by rw [size_strOf]; have := HYL.out; have := HPL.out; simp; omega) hsza).mono ?_
      rintro e w5 ⟨rfl, hB5, hb5, hk5⟩
      have HB5 : Hid (IsB (w.heap.size + 1) (w.heap.size + 1) (P ++ Y) w5) := hB5
      have hb5' : Below w.heap.size wa w5 := hb5.mono (by omega)
      have HBL5 : Hid (Below w.heap.size w w5) := HBLa.out.trans hb5'
      have hsz5 : w.heap.size + 1 ≤ w5.heap.size := by have := hb5.size; omega
      have hx5 : B2 40 w5 wr.heap.size (.string s1) (.string s2) := hk5 _ _ _ _ HNE.out HTY.out HXa.out
      obtain ⟨k0, k1⟩ := hx5.facts
      clear hB5 hb5 hb5' hk5 hx5
      go_wp2_with fail
      refine (HIS.out _).mono ?_
      rintro e w6 ⟨rfl, hw6⟩
      subst hw6
      cases t with
      | true =>
        have HPV2 : Hid (s2.data.toList = pval s2.data.toList) := by show _ = _; rw [HPV.out, if_pos rfl]
        go_wp2_with fail
        clear k0 k1
        refine (write_keep _ _ _ _ _ HB5.out (by have := HYL.out; have := HPL.out; simp; omega) hsz5).mono ?_
        rintro e w7 ⟨rfl, hB7, hb7, _⟩
        have HB7 : Hid (IsB (w.heap.size + 1) (w.heap.size + 1) (E ++ pps ((PSL l).take (k + 1))) w7) := by
          show IsB _ _ _ _
          rw [← HST.out _ HPV2.out]
          exact hB7
        have hb7' : Below w.heap.size w5 w7 := hb7.mono (by omega)
        have hsz7 : w.heap.size + 1 ≤ w7.heap.size := by have := hb7.size; omega
        clear hB7 hb7
        go_wp2
        go_roundw
        case rel => exact ⟨k + 1, by omega, by go_num, HB7.out, HBL5.out.trans hb7', hsz7⟩
        case measure => simp [intOf]; omega
      | false =>
        have HPV2 : Hid (Q.data.toList = pval s2.data.toList) := by show _ = _; rw [HPV.out, if_neg (by simp)]
        go_wp2_with fail
        clear k0 k1
        refine (HQU.out _).mono ?_
        rintro e w6 ⟨rfl, hb6⟩
        have HB6 := hid (isB_below HB5.out hb6)
        have HBL6 := hid (bel HBL5.out hb6)
        have hsz6 : w.heap.size + 1 ≤ w6.heap.size := by have := hb6.size; omega
        clear hb6
        go_wp2_with fail
        refine (write_keep _ _ _ _ _ HB6.out (by have := HYL.out; have := HPL.out; have := HQL.out; simp; omega) hsz6).mono ?_
        rintro e w7 ⟨rfl, hB7, hb7, _⟩
        have HB7 : Hid (IsB (w.heap.size + 1) (w.heap.size + 1) (E ++ pps ((PSL l).take (k + 1))) w7) := by
          show IsB _ _ _ _
          rw [← HST.out _ HPV2.out]
          exact hB7
        have hb7' : Below w.heap.size w6 w7 := hb7.mono (by omega)
        have hsz7 : w.heap.size + 1 ≤ w7.heap.size := by have := hb7.size; omega
        clear hB7 hb7
        go_wp2
        go_roundw
        case rel => exact ⟨k + 1, by omega, by go_num, HB7.out, HBL6.out.trans hb7', hsz7⟩
        case measure => simp [intOf]; omega
    · obtain rfl : k = n := by omega
      rw [← HV.out] at HB
      go_wp2_with fail
      refine (string_any _ _ _ _ HB.out hsz).mono ?_
      rintro e w7 ⟨rfl, hb7⟩
      go_wp2
      go_ret
      exact ⟨rfl, HBL.out.trans (hb7.mono (by omega))⟩
end Go.Proofs.YtlbgcibdpeaomaaDoor.MimH
