/- The law ParseQueries, walked. -/
import Derived.Test.YtaooiggckcfanaaGreatDoorMS
import Derived.Test.YtaooiggckcfanaaGreatDoorMR
import Derived.Test.YtaooiggckcfanaaGreatDoorUlx
namespace Go.Proofs.YtaooiggckcfanaaGreatDoor.Laws
open Go.RowKit Go.Proofs.YtaooiggckcfanaaGreatDoor.Base Go.Proofs.YtaooiggckcfanaaGreatDoor.Base2 Go.Proofs.YtaooiggckcfanaaGreatDoor.UtfL Go.Proofs.YtaooiggckcfanaaGreatDoor.UrlA Go.Proofs.YtaooiggckcfanaaGreatDoor.UrlC Go.Proofs.YtaooiggckcfanaaGreatDoor.UrlF Go.Proofs.YtaooiggckcfanaaGreatDoor.HstC Go.Proofs.YtaooiggckcfanaaGreatDoor.PrsP Go.Proofs.YtaooiggckcfanaaGreatDoor.Ubx Go.Proofs.YtaooiggckcfanaaGreatDoor.PrsC Go.Proofs.YtaooiggckcfanaaGreatDoor.PrsD Go.Proofs.YtaooiggckcfanaaGreatDoor.SixG Go.Proofs.YtaooiggckcfanaaGreatDoor.Spl Go.Proofs.YtaooiggckcfanaaGreatDoor.PrsG Go.Proofs.YtaooiggckcfanaaGreatDoor.PrsR Go.Proofs.YtaooiggckcfanaaGreatDoor.PrsS Go.Proofs.YtaooiggckcfanaaGreatDoor.PrsV Go.Proofs.YtaooiggckcfanaaGreatDoor.PrsY Go.Proofs.YtaooiggckcfanaaGreatDoor.Ulw Go.Proofs.YtaooiggckcfanaaGreatDoor.PrsW Go.Proofs.YtaooiggckcfanaaGreatDoor.Ulx Go.Proofs.YtaooiggckcfanaaGreatDoor.PrsT Go.Proofs.YtaooiggckcfanaaGreatDoor.PrsU

set_option linter.unusedSimpArgs false in
set_option maxRecDepth 100000 in
set_option maxHeartbeats 8000000 in
theorem ParseQueries_any (s0 s1 : ByteArray) (w : World) (h0 : s0.size ≤ 140737488351232) (h1 : s1.size ≤ 140737488351232) (hT : Tab.Pow w) (hL : Lad w) (hM : Max w) (hU : Utab w) : Calls Tryz.prog 10 #[.string s0, .string s1] w fun e w' => e = .returned (.bool true) ∧ Below w.heap.size w w' := by
  have HE := hid (⟨hT, hL, hM, hU⟩ : Env w)
  have HAW : Hid (∀ w : World, Env w → Calls Tryz.prog 15 #[] w fun e w' => e = .returned (.bool true) ∧ Below w.heap.size w w') := fun w E => awake_any w E
  clear hT hL hM hU
  have hs1 : strOf s1.data.toList = s1 := strOf_toList _
  have HS1 := hid hs1
  clear hs1
  by_cases hl0 : s0.size ≤ 1000
  · have hli0 : ¬ (1000 : Int) < (s0.size : Int) := by omega
    by_cases hl1 : s1.size ≤ 100
    · have hli1 : ¬ (100 : Int) < (s1.size : Int) := by omega
      obtain ⟨u0, hu0⟩ : ∃ u0, u0 = U0 := ⟨_, rfl⟩
      have HU0 := hid hu0
      clear hu0
      obtain ⟨J0, hJ0⟩ : ∃ J, J = strOf (s0.data.toList ++ [63]) := ⟨_, rfl⟩
      obtain ⟨J, hJ⟩ : ∃ J, J = strOf (s0.data.toList ++ [63] ++ s1.data.toList) := ⟨_, rfl⟩
      have hJd : J.data.toList = s0.data.toList ++ [63] ++ s1.data.toList := by rw [hJ]; rfl
      have hJs : J.size ≤ 65536 := by rw [hJ, size_strOf, List.length_append, List.length_append, Ulw.dl, Ulw.dl]; simp only [List.length_cons, List.length_nil]; omega
      have a1 : ∀ w, (Op.stringOp .add s0 ⟨#[63]⟩).run Tryz.prog w = .ok (.string J0) w := fun w => by rw [hJ0]; exact str_add' s0 ⟨#[63]⟩ w (by show s0.size + 1 ≤ _; omega)
      have a2 : ∀ w, (Op.stringOp .add J0 s1).run Tryz.prog w = .ok (.string J) w := fun w => by
        have h := str_add' (P := Tryz.prog) J0 s1 w (by rw [hJ0, size_strOf, List.length_append, Ulw.dl]; simp only [List.length_cons, List.length_nil]; omega)
        rw [h, hJ, hJ0]
        rfl
      have HJD := hid hJd
      have HJS := hid hJs
      clear hJd hJs hJ hJ0 h0 h1
      go_enter Tryz.func10, Tryz.ntmps10
      go_wp2_with fail
      refine (HAW.out _ HE.out).mono ?_
      rintro e w1 ⟨rfl, hb⟩
      have HB1 := hid hb
      have E_1 := hid (HE.out.below hb)
      clear hb
      go_wp2
      go_loopw [5, 26] (fun _ vk wra => ∃ j : Nat, j ≤ s0.size ∧ vk = .int .i64 (j : Int) ∧ wra = w1 ∧ Hid (∀ i (h : i < s0.data.toList.length), i < j → s0.data.toList[i] ≠ 63 ∧ s0.data.toList[i] ≠ 35 ∧ 32 < (s0.data.toList[i]).toNat)) (fun _ vk _ => s0.size - (intOf vk).toNat)
      case atStart => exact ⟨0, Nat.zero_le _, rfl, rfl, fun i _ h => by omega⟩
      case round =>
        obtain ⟨j, hj, rfl, hwr, HNOa⟩ := hrel
        subst hwr
        by_cases hlt : j < s0.size
        · obtain ⟨x, hx⟩ : ∃ x, s0[j] = x := ⟨_, rfl⟩
          have hxl : s0.data.toList[j]'(by rw [Ulw.dl]; exact hlt) = x := hx
          by_cases h0 : x = 63
          · have q0 : ((x.toNat : Int) == 63) = true := by rw [h0]; rfl
            clear hxl
            go_wp2
            go_ret
            exact ⟨rfl, HB1.out⟩
          have q0 : ((x.toNat : Int) == 63) = false := by rw [beq_eq_false_iff_ne]; intro e; exact h0 (UInt8.toNat_inj.1 (by show _ = 63; omega))
          by_cases h1 : x = 35
          · have q1 : ((x.toNat : Int) == 35) = true := by rw [h1]; rfl
            clear hxl
            go_wp2
            go_ret
            exact ⟨rfl, HB1.out⟩
          have q1 : ((x.toNat : Int) == 35) = false := by rw [beq_eq_false_iff_ne]; intro e; exact h1 (UInt8.toNat_inj.1 (by show _ = 35; omega))
          by_cases h2 : x.toNat ≤ 32
          · have q2 : (x.toNat : Int) ≤ 32 := by omega
            clear hxl
            go_wp2
            go_ret
            exact ⟨rfl, HB1.out⟩
          have q2 : ¬ (x.toNat : Int) ≤ 32 := by omega
          have HNO2 : Hid (∀ i (h : i < s0.data.toList.length), i < j + 1 → s0.data.toList[i] ≠ 63 ∧ s0.data.toList[i] ≠ 35 ∧ 32 < (s0.data.toList[i]).toNat) := by
            intro i h hi
            by_cases hij : i < j
            · exact HNOa.out i h hij
            · obtain rfl : i = j := by omega
              rw [hxl]
              exact ⟨h0, h1, by omega⟩
          clear hxl h0 h1 h2
          go_wp2
          go_roundw
          case rel => exact ⟨j + 1, by omega, by go_num, by first | rfl | trivial, HNO2.out⟩
          case measure => simp [intOf]; omega
        · obtain rfl : j = s0.size := by omega
          have halla : ∀ c ∈ s0.data.toList, c ≠ 63 ∧ c ≠ 35 ∧ 32 < c.toNat := fun c hc => by
            obtain ⟨i, hi, rfl⟩ := List.getElem_of_mem hc
            exact HNOa.out i hi (by rw [← Ulw.dl]; exact hi)
          have HALLa := hid halla
          clear HNOa halla
          skip
          go_wp2
          go_loopw [6, 48] (fun _ vk wrb => ∃ j : Nat, j ≤ s1.size ∧ vk = .int .i64 (j : Int) ∧ wrb = wr ∧ Hid (∀ i (h : i < s1.data.toList.length), i < j → 97 ≤ (s1.data.toList[i]).toNat ∧ (s1.data.toList[i]).toNat ≤ 122)) (fun _ vk _ => s1.size - (intOf vk).toNat)
          case atStart => exact ⟨0, Nat.zero_le _, rfl, rfl, fun i _ h => by omega⟩
          case round =>
            obtain ⟨j, hj, rfl, hwr, HNOb⟩ := hrel
            subst hwr
            by_cases hlt : j < s1.size
            · obtain ⟨x, hx⟩ : ∃ x, s1[j] = x := ⟨_, rfl⟩
              have hxl : s1.data.toList[j]'(by rw [Ulw.dl]; exact hlt) = x := hx
              by_cases h0 : x.toNat < 97
              · have q0 : (x.toNat : Int) < 97 := by omega
                clear hxl
                go_wp2
                go_ret
                exact ⟨rfl, HB1.out⟩
              have q0 : ¬ (x.toNat : Int) < 97 := by omega
              by_cases h1 : 122 < x.toNat
              · have q1 : (122 : Int) < (x.toNat : Int) := by omega
                clear hxl
                go_wp2
                go_ret
                exact ⟨rfl, HB1.out⟩
              have q1 : ¬ (122 : Int) < (x.toNat : Int) := by omega
              have HNO2 : Hid (∀ i (h : i < s1.data.toList.length), i < j + 1 → 97 ≤ (s1.data.toList[i]).toNat ∧ (s1.data.toList[i]).toNat ≤ 122) := by
                intro i h hi
                by_cases hij : i < j
                · exact HNOb.out i h hij
                · obtain rfl : i = j := by omega
                  rw [hxl]
                  exact ⟨by omega, by omega⟩
              clear hxl h0 h1
              go_wp2
              go_roundw
              case rel => exact ⟨j + 1, by omega, by go_num, by first | rfl | trivial, HNO2.out⟩
              case measure => simp [intOf]; omega
            · obtain rfl : j = s1.size := by omega
              have hallb : ∀ c ∈ s1.data.toList, 97 ≤ c.toNat ∧ c.toNat ≤ 122 := fun c hc => by
                obtain ⟨i, hi, rfl⟩ := List.getElem_of_mem hc
                exact HNOb.out i hi (by rw [← Ulw.dl]; exact hi)
              have HALLb := hid hallb
              clear HNOb hallb
              have hQ := PrsU.url_query (s := s0.data.toList) (q := s1.data.toList) HALLa.out HALLb.out
              rw [← HJD.out] at hQ
              cases e1 : PrsP.url s0.data.toList none with
              | none =>
                rw [e1] at hQ
                have hQ2 : PrsP.url J.data.toList none = none := by rw [hQ]; rfl
                have HP1 : Hid (∀ w, Env w → Calls Tryz.prog 16 #[.string s0, .pointer none] w fun e w' => ∃ A' n' c', e = .returned (.tuple #[.agg #[.string (strOf u0.sch), .string (strOf u0.usr), .string (strOf u0.pwd), .string (strOf u0.hst), .bool u0.hh, .int .i64 u0.port, .bool u0.opq, .string (strOf u0.txt), .slice A' n' c', .bool u0.hq, .bool u0.hf, .string (strOf u0.qry), .string (strOf u0.frg)], .int .i64 2]) ∧ Pt w' u0 A' n' c' ∧ Below w.heap.size w w') := fun w E => parse_none HU0.out e1 (by omega) w E
                have HP2 : Hid (∀ w, Env w → Calls Tryz.prog 16 #[.string J, .pointer none] w fun e w' => ∃ A' n' c', e = .returned (.tuple #[.agg #[.string (strOf u0.sch), .string (strOf u0.usr), .string (strOf u0.pwd), .string (strOf u0.hst), .bool u0.hh, .int .i64 u0.port, .bool u0.opq, .string (strOf u0.txt), .slice A' n' c', .bool u0.hq, .bool u0.hf, .string (strOf u0.qry), .string (strOf u0.frg)], .int .i64 2]) ∧ Ow w w' u0 A' n' c' ∧ Below w.heap.size w w') := fun w E => parse_own hQ2 HU0.out.symm rfl HJS.out w E
                clear hQ hQ2 e1
                go_wp2_with fail
                refine (HP1.out _ E_1.out).mono ?_
                rintro e w2 ⟨A1, n1, c1, rfl, hpt, hb⟩
                have HB2 := hid (bel HB1.out hb)
                have E_2 := hid (E_1.out.below hb)
                clear hb
                have T1 := hid (hpt)
                clear hpt
                go_upto_region 16 with (fail)
                generalize hwa : World.alloc _ _ = v3
                have hxa : UB v3 (w2.heap.size) u0 (.slice A1 n1 c1) := by rw [← hwa]; exact heap_alloc_new _ _
                have hb : Below w2.heap.size w2 v3 := by rw [← hwa]; exact (Below.refl _ _).alloc (Nat.le_refl _) _
                have hANb := hb
                have X1 := hid hxa
                clear hwa hxa
                have HB3 := hid (bel HB2.out hb)
                have E_3 := hid (E_2.out.below hb)
                have T1_3 := hid (T1.out.below hb)
                clear hb
                skip
                have AN := hid (⟨hANb⟩ : Anc w2 v3)
                go_wp2_with fail
                refine (HP2.out _ E_3.out).mono ?_
                rintro e w4 ⟨A2, n2, c2, rfl, hpt, hb⟩
                have HB4 := hid (bel HB3.out hb)
                have E_4 := hid (E_3.out.below hb)
                have T1_4 := hid (T1_3.out.below hb)
                have X1_4 := hid (X1.out.below hb)
                have AN_4 := hid (AN.out.below hb)
                clear hb
                have O2 := hid (hpt)
                clear hpt
                go_upto_region 17 with (fail)
                generalize hwa : World.alloc _ _ = v5
                have hxa : UB v5 (w4.heap.size) u0 (.slice A2 n2 c2) := by rw [← hwa]; exact heap_alloc_new _ _
                have hb : Below w4.heap.size w4 v5 := by rw [← hwa]; exact (Below.refl _ _).alloc (Nat.le_refl _) _
                have X2 := hid hxa
                clear hwa hxa
                have HB5 := hid (bel HB4.out hb)
                have E_5 := hid (E_4.out.below hb)
                have T1_5 := hid (T1_4.out.below hb)
                have X1_5 := hid (X1_4.out.below hb)
                have AN_5 := hid (AN_4.out.below hb)
                have O2_5 := hid (O2.out.below hb)
                clear hb
                have cx9 := X1_5.out.facts.2.2.2.2.2.2.2.2.2.1
                have fx9 := X1_5.out.thaw.2.2.2.2.2.2.2.2.2.1
                have cx11 := X1_5.out.facts.2.2.2.2.2.2.2.2.2.2.2.1
                have fx11 := X1_5.out.thaw.2.2.2.2.2.2.2.2.2.2.2.1
                go_upto_region 20 with (fail)
                clear cx9 fx9 cx11 fx11
                have hBS := (HB5.out.setCell (p := ⟨w2.heap.size, 9, none⟩) (show w.heap.size ≤ w2.heap.size from HB2.out.size) (.bool true)).setCell (p := ⟨w2.heap.size, 11, none⟩) (show w.heap.size ≤ w2.heap.size from HB2.out.size) (.string s1)
                generalize (World.setCell (World.setCell v5 ⟨w2.heap.size, 9, none⟩ (.bool true)) ⟨w2.heap.size, 11, none⟩ (.string s1)) = wS at hBS ⊢
                have HBS := hid hBS
                clear hBS
                go_wp2
                go_ret
                exact ⟨rfl, HBS.out⟩
              | some u =>
                rw [e1] at hQ
                obtain ⟨v, hv⟩ : ∃ v : U, v = { u with hq := true, qry := s1.data.toList } := ⟨_, rfl⟩
                have hQ2 : PrsP.url J.data.toList none = some v := by rw [hQ, hv]; rfl
                have HP1 : Hid (∀ w, Env w → Calls Tryz.prog 16 #[.string s0, .pointer none] w fun e w' => ∃ A' n' c', e = .returned (.tuple #[.agg #[.string (strOf u.sch), .string (strOf u.usr), .string (strOf u.pwd), .string (strOf u.hst), .bool u.hh, .int .i64 u.port, .bool u.opq, .string (strOf u.txt), .slice A' n' c', .bool u.hq, .bool u.hf, .string (strOf u.qry), .string (strOf u.frg)], .int .i64 0]) ∧ Pt w' u A' n' c' ∧ Below w.heap.size w w') := fun w E => parse_some e1 (by omega) w E
                have HP2 : Hid (∀ w, Env w → Calls Tryz.prog 16 #[.string J, .pointer none] w fun e w' => ∃ A' n' c', e = .returned (.tuple #[.agg #[.string (strOf v.sch), .string (strOf v.usr), .string (strOf v.pwd), .string (strOf v.hst), .bool v.hh, .int .i64 v.port, .bool v.opq, .string (strOf v.txt), .slice A' n' c', .bool v.hq, .bool v.hf, .string (strOf v.qry), .string (strOf v.frg)], .int .i64 0]) ∧ Ow w w' v A' n' c' ∧ Below w.heap.size w w') := fun w E => parse_own hQ2 rfl rfl HJS.out w E
                have HV := hid hv
                clear hv
                clear hQ hQ2 e1
                go_wp2_with fail
                refine (HP1.out _ E_1.out).mono ?_
                rintro e w2 ⟨A1, n1, c1, rfl, hpt, hb⟩
                have HB2 := hid (bel HB1.out hb)
                have E_2 := hid (E_1.out.below hb)
                clear hb
                have T1 := hid (hpt)
                clear hpt
                go_upto_region 16 with (fail)
                generalize hwa : World.alloc _ _ = v3
                have hxa : UB v3 (w2.heap.size) u (.slice A1 n1 c1) := by rw [← hwa]; exact heap_alloc_new _ _
                have hb : Below w2.heap.size w2 v3 := by rw [← hwa]; exact (Below.refl _ _).alloc (Nat.le_refl _) _
                have hANb := hb
                have X1 := hid hxa
                clear hwa hxa
                have HB3 := hid (bel HB2.out hb)
                have E_3 := hid (E_2.out.below hb)
                have T1_3 := hid (T1.out.below hb)
                clear hb
                skip
                have AN := hid (⟨hANb⟩ : Anc w2 v3)
                go_wp2_with fail
                refine (HP2.out _ E_3.out).mono ?_
                rintro e w4 ⟨A2, n2, c2, rfl, hpt, hb⟩
                have HB4 := hid (bel HB3.out hb)
                have E_4 := hid (E_3.out.below hb)
                have T1_4 := hid (T1_3.out.below hb)
                have X1_4 := hid (X1.out.below hb)
                have AN_4 := hid (AN.out.below hb)
                clear hb
                have O2 := hid (hpt)
                clear hpt
                go_upto_region 17 with (fail)
                generalize hwa : World.alloc _ _ = v5
                have hxa : UB v5 (w4.heap.size) v (.slice A2 n2 c2) := by rw [← hwa]; exact heap_alloc_new _ _
                have hb : Below w4.heap.size w4 v5 := by rw [← hwa]; exact (Below.refl _ _).alloc (Nat.le_refl _) _
                have X2 := hid hxa
                clear hwa hxa
                have HB5 := hid (bel HB4.out hb)
                have E_5 := hid (E_4.out.below hb)
                have T1_5 := hid (T1_4.out.below hb)
                have X1_5 := hid (X1_4.out.below hb)
                have AN_5 := hid (AN_4.out.below hb)
                have O2_5 := hid (O2.out.below hb)
                clear hb
                have cx9 := X1_5.out.facts.2.2.2.2.2.2.2.2.2.1
                have fx9 := X1_5.out.thaw.2.2.2.2.2.2.2.2.2.1
                have cx11 := X1_5.out.facts.2.2.2.2.2.2.2.2.2.2.2.1
                have fx11 := X1_5.out.thaw.2.2.2.2.2.2.2.2.2.2.2.1
                go_upto_region 20 with (fail)
                clear cx9 fx9 cx11 fx11
                have hBS := (HB5.out.setCell (p := ⟨w2.heap.size, 9, none⟩) (show w.heap.size ≤ w2.heap.size from HB2.out.size) (.bool true)).setCell (p := ⟨w2.heap.size, 11, none⟩) (show w.heap.size ≤ w2.heap.size from HB2.out.size) (.string s1)
                have hX1 : UB (World.setCell (World.setCell v5 ⟨w2.heap.size, 9, none⟩ (.bool true)) ⟨w2.heap.size, 11, none⟩ (.string s1)) w2.heap.size v (.slice A1 n1 c1) := by
                  rw [HV.out]
                  have h := (X1_5.out.hq true).qry s1.data.toList
                  rw [HS1.out] at h
                  exact h
                have hlt1 := X1.out.lt
                have hne : w4.heap.size ≠ w2.heap.size := by have h := X1_4.out.lt; omega
                have hX2 := (X2.out.set (k := w2.heap.size) (i := 9) (.bool true) hne).set (k := w2.heap.size) (i := 11) (.string s1) hne
                have hO2 := (O2_5.out.set (i := 9) hlt1 (.bool true)).set (i := 11) hlt1 (.string s1)
                have hAN := (AN_5.out.b.setCell (p := ⟨w2.heap.size, 9, none⟩) (Nat.le_refl _) (.bool true)).setCell (p := ⟨w2.heap.size, 11, none⟩) (Nat.le_refl _) (.string s1)
                generalize (World.setCell (World.setCell v5 ⟨w2.heap.size, 9, none⟩ (.bool true)) ⟨w2.heap.size, 11, none⟩ (.string s1)) = wS at hBS hX1 hX2 hO2 hAN ⊢
                have hT1 := T1.out.below hAN
                have HBS := hid hBS
                have X1S := hid hX1
                have X2S := hid hX2
                have T1S := hid (by rw [HV.out]; exact ⟨hT1.pth⟩ : Pt wS v A1 n1 c1)
                have T2S := hid (⟨hO2.own.pth⟩ : Pt wS v A2 n2 c2)
                clear hBS hX1 hX2 hO2 hAN hT1 hne hlt1
                obtain ⟨ka0, ka1, ka2, ka3, ka4, ka5, ka6, ka7, ka8, ka9, ka10, ka11, ka12⟩ := X1S.out.facts
                obtain ⟨kb0, kb1, kb2, kb3, kb4, kb5, kb6, kb7, kb8, kb9, kb10, kb11, kb12⟩ := X2S.out.facts
                go_wp2_with fail
                clear ka0 ka1 ka2 ka3 ka4 ka5 ka6 ka7 ka8 ka9 ka10 ka11 ka12 kb0 kb1 kb2 kb3 kb4 kb5 kb6 kb7 kb8 kb9 kb10 kb11 kb12
                refine (same_yes v _ _ _ _ _ _ _ T1S.out T2S.out).mono ?_
                rintro e w16 ⟨rfl, hb⟩
                have HB16 := hid (bel HBS.out hb)
                have X1_16 := hid (X1S.out.below hb)
                have X2_16 := hid (X2S.out.below hb)
                have T1_16 := hid (T1S.out.below hb)
                have T2_16 := hid (T2S.out.below hb)
                clear hb
                go_wp2
                go_ret
                exact ⟨rfl, HB16.out⟩
    · have hli1 : (100 : Int) < (s1.size : Int) := by omega
      go_enter Tryz.func10, Tryz.ntmps10
      go_wp2_with fail
      refine (HAW.out _ HE.out).mono ?_
      rintro e w1 ⟨rfl, hb⟩
      have HB1 := hid hb
      have E_1 := hid (HE.out.below hb)
      clear hb
      go_wp2_with fail
      refine (HAW.out _ E_1.out).mono ?_
      rintro e w2 ⟨rfl, hb⟩
      have HB2 := hid (bel HB1.out hb)
      have E_2 := hid (E_1.out.below hb)
      clear hb
      go_wp2
      go_ret
      exact ⟨rfl, HB2.out⟩
  · have hli0 : (1000 : Int) < (s0.size : Int) := by omega
    go_enter Tryz.func10, Tryz.ntmps10
    go_wp2_with fail
    refine (HAW.out _ HE.out).mono ?_
    rintro e w1 ⟨rfl, hb⟩
    have HB1 := hid hb
    have E_1 := hid (HE.out.below hb)
    clear hb
    go_wp2_with fail
    refine (HAW.out _ E_1.out).mono ?_
    rintro e w2 ⟨rfl, hb⟩
    have HB2 := hid (bel HB1.out hb)
    have E_2 := hid (E_1.out.below hb)
    clear hb
    go_wp2
    go_ret
    exact ⟨rfl, HB2.out⟩
end Go.Proofs.YtaooiggckcfanaaGreatDoor.Laws
