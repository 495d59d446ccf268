/- The law PosixParts, walked. -/
import Derived.Test.YtleecmapaihhmaaDoorPosW
import Derived.Test.YtleecmapaihhmaaDoorUtfP
set_option linter.unusedSimpArgs false
set_option linter.unusedVariables false
namespace Go.Proofs.YtleecmapaihhmaaDoor.Laws
open Go.RowKit Go.Proofs.YtleecmapaihhmaaDoor.Base Go.Proofs.YtleecmapaihhmaaDoor.Base2 Go.Proofs.YtleecmapaihhmaaDoor.SlsP Go.Proofs.YtleecmapaihhmaaDoor.PosQ Go.Proofs.YtleecmapaihhmaaDoor.PosU Go.Proofs.YtleecmapaihhmaaDoor.PosV Go.Proofs.YtleecmapaihhmaaDoor.PosW
open Go.Proofs.YtleecmapaihhmaaDoor.PosS (seg seg_len)
open Go.Proofs.YtleecmapaihhmaaDoor.Spl (Max)

theorem in4_out (d : UInt8) (h : EscI.inS 4 d.toNat = false) : d ≠ 63 ∧ d ≠ 35 :=
  PosS.byteAll (p := fun d => EscI.inS 4 d.toNat = false → d ≠ 63 ∧ d ≠ 35) (by decide +kernel) d h
theorem not_in {b : UInt8} {L : List UInt8} (h : ∀ d ∈ L, d ≠ b) : TokA.has L b = false := by
  unfold TokA.has
  cases e : L.contains b with
  | false => rfl
  | true =>
    have hm : b ∈ L := by simpa using e
    exact absurd rfl (h b hm)
theorem seg_facts {y : List UInt8} (h47 : ∀ c ∈ y, c ≠ 47) (h1 : y ≠ [46]) (h2 : y ≠ [46, 46]) : TokA.has (seg y) 47 = false ∧ TokA.has (seg y) 92 = false ∧ TokA.has (seg y) 124 = false ∧ TokA.has (seg y) 63 = false ∧ TokA.has (seg y) 35 = false ∧ seg y ≠ [46] ∧ seg y ≠ [46, 46] := by
  have ho := PosS.seg_out h47
  refine ⟨not_in fun d hd => (ho d hd).2.1, not_in fun d hd => (ho d hd).2.2.1, not_in fun d hd => (ho d hd).2.2.2, not_in fun d hd => (in4_out d (ho d hd).1).1, not_in fun d hd => (in4_out d (ho d hd).1).2, fun e => h1 ?_, fun e => h2 ?_⟩
  · have := PosS.dec_seg y
    rw [e] at this
    rw [← this]
    decide +kernel
  · have := PosS.dec_seg y
    rw [e] at this
    rw [← this]
    decide +kernel
theorem count_take (L : List UInt8) (k : Nat) (h : k < L.length) : (L.take (k + 1)).count 47 = (L.take k).count 47 + if L[k] = 47 then 1 else 0 := by
  rw [List.take_succ_eq_append_getElem h, List.count_append]
  congr 1
  by_cases e : L[k] = 47
  · rw [e]; rfl
  · rw [if_neg e, List.count_cons_of_ne (by simpa using e)]; rfl
theorem count_all {L : List UInt8} (h : fine L = true) : ((spl 47 (L.drop 1)).map seg).length = L.count 47 := by
  have hh := ((fine_iff L).1 h).2.1
  match L, hh with
  | c :: r, hh =>
    injection hh with hh
    subst hh
    rw [List.length_map, spl_count]
    simp
/-- What is known of each segment of a fine path's URL. -/
theorem segs_of {L : List UInt8} (h : fine L = true) : ∀ x ∈ (spl 47 (L.drop 1)).map seg, TokA.has x 47 = false ∧ TokA.has x 92 = false ∧ TokA.has x 124 = false ∧ TokA.has x 63 = false ∧ TokA.has x 35 = false ∧ x ≠ [46] ∧ x ≠ [46, 46] := by
  intro x hx
  obtain ⟨y, hy, rfl⟩ := List.mem_map.1 hx
  have h4 := okRow_mem ((fine_iff L).1 h).2.2.2 y hy
  exact seg_facts (fun c hc => (spl_out 47 _ y hy c hc).2) h4.1 h4.2
set_option linter.unusedSimpArgs false in
set_option maxRecDepth 100000 in
set_option maxHeartbeats 8000000 in
theorem PosixParts_any (s : ByteArray) (w : World) (h0 : s.size ≤ 140737488351232) (hT : Tab.Pow w) (hM : Max w) : Calls Tryd.prog 5 #[.string s] w fun e w' => e = .returned (.bool true) ∧ Below w.heap.size w w' := by
  have HE := hid (⟨hT, hM⟩ : Env w)
  have HAW : Hid (∀ w : World, Env w → Calls Tryd.prog 6 #[] w fun e w' => e = .returned (.bool true) ∧ Below w.heap.size w w') := fun w E => awake_any w E
  clear hT hM
  by_cases hl : s.size ≤ 500
  · have hli : ¬ (500 : Int) < (s.size : Int) := by omega
    obtain ⟨b, hb⟩ : ∃ b, b = fine s.data.toList := ⟨_, rfl⟩
    have HF2 : Hid (∀ w : World, Calls Tryd.prog 10 #[.string s] w fun e w' => e = .returned (.bool b) ∧ Below w.heap.size w w') := fun w => by rw [hb]; exact PosB.refFine_any s w (by omega)
    have hsl : s.data.toList.length = s.size := Array.length_toList
    cases b with
    | false =>
      clear hb hsl
      go_enter Tryd.func5, Tryd.ntmps5
      go_wp2_with fail
      refine (HAW.out _ HE.out).mono ?_
      rintro e w1 ⟨rfl, hb⟩
      have HB1 := hid hb
      have E_1 := hid (HE.out.below hb)
      clear hb
      go_wp2_with fail
      refine (HF2.out _).mono ?_
      rintro e w2 ⟨rfl, hb⟩
      have HB2 := hid (bel HB1.out hb)
      have E_2 := hid (E_1.out.below hb)
      clear hb
      go_wp2_with fail
      refine (HAW.out _ E_2.out).mono ?_
      rintro e w3 ⟨rfl, hb⟩
      have HB3 := hid (bel HB2.out hb)
      have E_3 := hid (E_2.out.below hb)
      clear hb
      go_wp2
      go_ret
      exact ⟨by first | rfl | trivial, HB3.out⟩
    | true =>
      have ho : urlP s.data.toList = some ((spl 47 (s.data.toList.drop 1)).map seg) := by unfold urlP; rw [if_pos hb.symm]
      have hcn := count_all hb.symm
      have hsf := segs_of hb.symm
      have hln : ∀ x ∈ (spl 47 (s.data.toList.drop 1)).map seg, x.length ≤ 3000 := by
        intro x hx
        obtain ⟨y, hy, rfl⟩ := List.mem_map.1 hx
        have h1 := spl_len 47 _ y hy
        rw [List.length_drop, hsl] at h1
        have h2 := PosS.seg_len y
        omega
      obtain ⟨l, hll⟩ : ∃ l, l = (spl 47 (s.data.toList.drop 1)).map seg := ⟨_, rfl⟩
      rw [← hll] at ho hcn hsf hln
      have HU1 := hid (fun w E => url_some ho (by omega) w E)
      have HCN := hid hcn
      have HSF := hid hsf
      have HLN := hid hln
      have HSL := hid hsl
      clear ho hll hb hcn hsf hln hsl
      go_enter Tryd.func5, Tryd.ntmps5
      go_wp2_with fail
      refine (HAW.out _ HE.out).mono ?_
      rintro e w1 ⟨rfl, hb⟩
      have HB1 := hid hb
      have E_1 := hid (HE.out.below hb)
      clear hb
      go_wp2_with fail
      refine (HF2.out _).mono ?_
      rintro e w2 ⟨rfl, hb⟩
      have HB2 := hid (bel HB1.out hb)
      have E_2 := hid (E_1.out.below hb)
      clear hb
      go_wp2_with fail
      refine (HU1.out _ E_2.out).mono ?_
      rintro e w3 ⟨A1, n1, c1, rfl, hpt, hb⟩
      have HB3 := hid (bel HB2.out hb)
      have E_3 := hid (E_2.out.below hb)
      clear hb
      have T1 := hid hpt
      have hnl : n1 = l.length := by have := hpt.rds.1; rw [List.length_map, List.length_map] at this; exact this.symm
      have HNC : Hid (n1 = s.data.toList.count 47) := hnl.trans HCN.out
      have HNL := hid hnl
      have hn1 : n1 ≤ 500 := by rw [HNC.out]; have h1 := List.count_le_length (a := (47 : UInt8)) (l := s.data.toList); rw [HSL.out] at h1; omega
      clear hpt hnl
      go_upto_region 4 with (fail)
      generalize hwa : World.alloc _ _ = v4
      have hxa : Bx v4 w3.heap.size (fcells [] (.slice A1 n1 c1)) := by rw [← hwa]; exact heap_alloc_new _ _
      have hb : Below w3.heap.size w3 v4 := by rw [← hwa]; exact (Below.refl _ _).alloc (Nat.le_refl _) _
      have X1 := hid hxa
      clear hwa hxa
      have HB4 := hid (bel HB3.out hb)
      have E_4 := hid (E_3.out.below hb)
      have T1_4 := hid (T1.out.below hb)
      clear hb
      go_wp2
      go_loopw [5, 6, 29] (fun vn _ vk wr => ∃ k : Nat, k ≤ s.size ∧ vk = .int .i64 (k : Int) ∧ wr = v4 ∧ vn = .int .i64 (((s.data.toList.take k).count 47 : Nat) : Int)) (fun _ _ vk _ => s.size - (intOf vk).toNat)
      case atStart => exact ⟨0, Nat.zero_le _, rfl, rfl, rfl⟩
      case round =>
        obtain ⟨k, hk, rfl, rfl, rfl⟩ := hrel
        by_cases hlt : k < s.size
        · obtain ⟨c, hc⟩ : ∃ c, s[k] = c := ⟨_, rfl⟩
          have hct := count_take s.data.toList k (by rw [HSL.out]; exact hlt)
          rw [show s.data.toList[k]'(by rw [HSL.out]; exact hlt) = c from hc] at hct
          obtain ⟨N, hN⟩ : ∃ N, N = (s.data.toList.take k).count 47 := ⟨_, rfl⟩
          have hNl : N ≤ s.size := by rw [hN]; have h1 := List.count_le_length (a := (47 : UInt8)) (l := s.data.toList.take k); rw [List.length_take, HSL.out] at h1; omega
          rw [← hN] at hct ⊢
          clear hN
          by_cases h47 : c = 47
          · have q1 : ((c.toNat : Int) == 47) = true := by rw [h47]; rfl
            have hc2 : (s.data.toList.take (k + 1)).count 47 = N + 1 := by rw [hct, if_pos h47]
            have HC2 := hid hc2
            clear h47 hct hc2
            go_wp2
            go_roundw
            case rel => exact ⟨k + 1, by omega, by go_num, by first | rfl | trivial, by rw [HC2.out]; go_num⟩
            case measure => simp [intOf]; omega
          · have q1 : ((c.toNat : Int) == 47) = false := Sls.ne_u8 (d := 47) h47
            have hc2 : (s.data.toList.take (k + 1)).count 47 = N := by rw [hct, if_neg h47]; rfl
            have HC2 := hid hc2
            clear h47 hct hc2
            go_wp2
            go_roundw
            case rel => exact ⟨k + 1, by omega, by go_num, by first | rfl | trivial, by rw [HC2.out]⟩
            case measure => simp [intOf]; omega
        · obtain rfl : k = s.size := by omega
          have hcN : (s.data.toList.take s.size).count 47 = n1 := by rw [HNC.out, List.take_of_length_le (by rw [HSL.out]; exact Nat.le_refl _)]
          rw [hcN]
          have q3 : (strOf ([] : List UInt8)).toList = [] := by rw [tl]; rfl
          have q0 : ((⟨#[102, 105, 108, 101]⟩ : ByteArray).toList == [102, 105, 108, 101]) = true := by rw [tl]; rfl
          clear hcN
          obtain ⟨d0, d1, d2, d3, d4, d5, d6, d7, d8, d9, d10, d11, d12⟩ := X1.out.facts
          go_wp2_with fail
          go_loopw [7, 8, 66] (fun _ _ vk wx => ∃ j : Nat, j ≤ n1 ∧ vk = .int .i64 (j : Int) ∧ wx = wr) (fun _ _ vk _ => n1 - (intOf vk).toNat)
          case atStart => exact ⟨0, Nat.zero_le _, rfl, rfl⟩
          case round =>
            obtain ⟨j, hj, rfl, rfl⟩ := hrel
            by_cases hlj : j < n1
            · obtain ⟨g, off, rfl, hg, hcj⟩ := PosA.cell_at T1_4.out.rds j hlj HNL.out.symm
              obtain ⟨x, hx⟩ : ∃ x, x = l[j]'(by rw [← HNL.out]; exact hlj) := ⟨_, rfl⟩
              rw [← hx] at hcj
              have hxm : x ∈ l := by rw [hx]; exact List.getElem_mem _
              have hxs := HLN.out x hxm
              obtain ⟨f1, f2, f3, f4, f5, f6, f7⟩ := HSF.out x hxm
              have HH : Hid (∀ (b : UInt8) (w : World), TokA.has x b = false → Calls Tryd.prog 16 #[.string (strOf x), .int .u8 (b.toNat : Int)] w fun e w' => e = .returned (.bool false) ∧ w = w') := fun b w h => by
                have hh := TokA.has_any (strOf x) b w (by rw [size_strOf]; omega)
                rw [show TokA.has (strOf x).data.toList b = false from h] at hh
                exact hh
              have F1 := hid f1
              have F2 := hid f2
              have F3 := hid f3
              have F4 := hid f4
              have F5 := hid f5
              have q6 : ((strOf x).toList == [46]) = false := by rw [tl, beq_eq_false_iff_ne]; exact f6
              have q7 : ((strOf x).toList == [46, 46]) = false := by rw [tl, beq_eq_false_iff_ne]; exact f7
              clear hx hxm hxs f1 f2 f3 f4 f5 f6 f7
              go_wp2_with fail
              refine (HH.out 47 _ F1.out).mono ?_
              rintro e wy ⟨rfl, hwy⟩
              subst hwy
              go_wp2_with fail
              refine (HH.out 92 _ F2.out).mono ?_
              rintro e wy ⟨rfl, hwy⟩
              subst hwy
              go_wp2_with fail
              refine (HH.out 124 _ F3.out).mono ?_
              rintro e wy ⟨rfl, hwy⟩
              subst hwy
              go_wp2_with fail
              refine (HH.out 63 _ F4.out).mono ?_
              rintro e wy ⟨rfl, hwy⟩
              subst hwy
              go_wp2_with fail
              refine (HH.out 35 _ F5.out).mono ?_
              rintro e wy ⟨rfl, hwy⟩
              subst hwy
              go_wp2
              go_roundw
              case rel => exact ⟨j + 1, by omega, by go_num, by first | rfl | trivial⟩
              case measure => simp [intOf]; omega
            · obtain rfl : j = n1 := by omega
              go_wp2
              go_ret
              exact ⟨by first | rfl | trivial, HB4.out⟩
  · have hli : (500 : Int) < (s.size : Int) := by omega
    go_enter Tryd.func5, Tryd.ntmps5
    go_wp2_with fail
    refine (HAW.out _ HE.out).mono ?_
    rintro e w1 ⟨rfl, hb⟩
    have HB1 := hid hb
    have E_1 := hid (HE.out.below hb)
    clear hb
    go_wp2_with fail
    refine (HAW.out _ E_1.out).mono ?_
    rintro e w2 ⟨rfl, hb⟩
    have HB2 := hid (bel HB1.out hb)
    have E_2 := hid (E_1.out.below hb)
    clear hb
    go_wp2
    go_ret
    exact ⟨by first | rfl | trivial, HB2.out⟩
end Go.Proofs.YtleecmapaihhmaaDoor.Laws
