/- The law WindowsSlashes, walked. -/
import Derived.Test.YtleecmapaihhmaaGreatDoorMY
set_option linter.unusedSimpArgs false
set_option linter.unusedVariables false
namespace Go.Proofs.YtleecmapaihhmaaGreatDoor.Laws
open Go.RowKit Go.Proofs.YtleecmapaihhmaaGreatDoor.Base Go.Proofs.YtleecmapaihhmaaGreatDoor.Base2 Go.Proofs.YtleecmapaihhmaaGreatDoor.SlsP Go.Proofs.YtleecmapaihhmaaGreatDoor.PosQ Go.Proofs.YtleecmapaihhmaaGreatDoor.PosA Go.Proofs.YtleecmapaihhmaaGreatDoor.PosU Go.Proofs.YtleecmapaihhmaaGreatDoor.WinP Go.Proofs.YtleecmapaihhmaaGreatDoor.WinU Go.Proofs.YtleecmapaihhmaaGreatDoor.WinS Go.Proofs.YtleecmapaihhmaaGreatDoor.WinW
open Go.Proofs.YtleecmapaihhmaaGreatDoor.WinC (Env)
open Go.Proofs.YtleecmapaihhmaaGreatDoor.SixG (Lad)
open Go.Proofs.YtleecmapaihhmaaGreatDoor.Spl (Max)

set_option linter.unusedSimpArgs false in
set_option maxRecDepth 100000 in
set_option maxHeartbeats 8000000 in
theorem WindowsSlashes_any (s : ByteArray) (w : World) (h0 : s.size ≤ 140737488351232) (hT : Tab.Pow w) (hL : Lad w) (hM : Max w) : Calls Tryz.prog 4 #[.string s] w fun e w' => e = .returned (.bool true) ∧ Below w.heap.size w w' := by
  have HE := hid (⟨hT, hL, hM⟩ : Env w)
  have HAW : Hid (∀ w : World, Env w → Calls Tryz.prog 5 #[] w fun e w' => e = .returned (.bool true) ∧ Below w.heap.size w w') := fun w E => awake_any w E
  clear hT hL hM
  by_cases hl : s.size ≤ 500
  · have hli : ¬ (500 : Int) < (s.size : Int) := by omega
    have hsl : s.data.toList.length = s.size := Array.length_toList
    obtain ⟨F, hF⟩ : ∃ F, F = strOf (s.data.toList.map fs) := ⟨_, rfl⟩
    obtain ⟨B, hB⟩ : ∃ B, B = strOf (s.data.toList.map bs) := ⟨_, rfl⟩
    have HSF : Hid (∀ w : World, Calls Tryz.prog 11 #[.string s, .int .u8 92, .int .u8 47] w fun e w' => e = .returned (.string F) ∧ Below w.heap.size w w') := fun w => by rw [hF]; exact slashes_any s 92 47 w (by omega)
    have HSB : Hid (∀ w : World, Calls Tryz.prog 11 #[.string s, .int .u8 47, .int .u8 92] w fun e w' => e = .returned (.string B) ∧ Below w.heap.size w w') := fun w => by rw [hB]; exact slashes_any s 47 92 w (by omega)
    have hFs : F.size ≤ 900000 := by rw [hF, size_strOf, List.length_map]; omega
    have hBs : B.size ≤ 900000 := by rw [hB, size_strOf, List.length_map]; omega
    have eF : wapart F.data.toList = wapart s.data.toList := by rw [hF]; show wap (pcs (s.data.toList.map fs)) = _; rw [pcs_fs]; rfl
    have eB : wapart B.data.toList = wapart s.data.toList := by rw [hB]; show wap (pcs (s.data.toList.map bs)) = _; rw [pcs_bs]; rfl
    cases ho : wapart s.data.toList with
    | none =>
      rw [ho] at eF eB
      have HU1 := hid (fun w E => url_none ho (by omega) w E)
      have HU2 := hid (fun w E => url_none eF hFs w E)
      have HU3 := hid (fun w E => url_none eB hBs w E)
      clear ho eF eB hFs hBs hF hB hsl
      go_enter Tryz.func4, Tryz.ntmps4
      go_wp2_with fail
      refine (HAW.out _ HE.out).mono ?_
      rintro e w1 ⟨rfl, hb⟩
      have HB1 := hid hb
      have E_1 := hid (HE.out.below hb)
      clear hb
      go_wp2_with fail
      refine (HU1.out _ E_1.out).mono ?_
      rintro e w2 ⟨rfl, hb⟩
      have HB2 := hid (bel HB1.out hb)
      have E_2 := hid (E_1.out.below hb)
      clear hb
      go_upto_region 4 with (fail)
      generalize hwa : World.alloc _ _ = v3
      have hxa : Bx v3 w2.heap.size (zcells) := by rw [← hwa]; exact heap_alloc_new _ _
      have hb : Below w2.heap.size w2 v3 := by rw [← hwa]; exact (Below.refl _ _).alloc (Nat.le_refl _) _
      have X1 := hid hxa
      clear hwa hxa
      have HB3 := hid (bel HB2.out hb)
      have E_3 := hid (E_2.out.below hb)
      clear hb
      go_wp2_with fail
      refine (HSF.out _).mono ?_
      rintro e w4 ⟨rfl, hb⟩
      have HB4 := hid (bel HB3.out hb)
      have E_4 := hid (E_3.out.below hb)
      have X1_4 := hid (X1.out.below hb)
      clear hb
      go_wp2_with fail
      refine (HU2.out _ E_4.out).mono ?_
      rintro e w5 ⟨rfl, hb⟩
      have HB5 := hid (bel HB4.out hb)
      have E_5 := hid (E_4.out.below hb)
      have X1_5 := hid (X1_4.out.below hb)
      clear hb
      go_upto_region 5 with (fail)
      generalize hwa : World.alloc _ _ = v6
      have hxa : Bx v6 w5.heap.size (zcells) := by rw [← hwa]; exact heap_alloc_new _ _
      have hb : Below w5.heap.size w5 v6 := by rw [← hwa]; exact (Below.refl _ _).alloc (Nat.le_refl _) _
      have X2 := hid hxa
      clear hwa hxa
      have HB6 := hid (bel HB5.out hb)
      have E_6 := hid (E_5.out.below hb)
      have X1_6 := hid (X1_5.out.below hb)
      clear hb
      go_wp2_with fail
      refine (HSB.out _).mono ?_
      rintro e w7 ⟨rfl, hb⟩
      have HB7 := hid (bel HB6.out hb)
      have E_7 := hid (E_6.out.below hb)
      have X1_7 := hid (X1_6.out.below hb)
      have X2_7 := hid (X2.out.below hb)
      clear hb
      go_wp2_with fail
      refine (HU3.out _ E_7.out).mono ?_
      rintro e w8 ⟨rfl, hb⟩
      have HB8 := hid (bel HB7.out hb)
      have E_8 := hid (E_7.out.below hb)
      have X1_8 := hid (X1_7.out.below hb)
      have X2_8 := hid (X2_7.out.below hb)
      clear hb
      go_upto_region 6 with (fail)
      generalize hwa : World.alloc _ _ = v9
      have hxa : Bx v9 w8.heap.size (zcells) := by rw [← hwa]; exact heap_alloc_new _ _
      have hb : Below w8.heap.size w8 v9 := by rw [← hwa]; exact (Below.refl _ _).alloc (Nat.le_refl _) _
      have X3 := hid hxa
      clear hwa hxa
      have HB9 := hid (bel HB8.out hb)
      have E_9 := hid (E_8.out.below hb)
      have X1_9 := hid (X1_8.out.below hb)
      have X2_9 := hid (X2_8.out.below hb)
      clear hb
      obtain ⟨d0, d1, d2, d3, d4, d5, d6, d7, d8, d9, d10, d11, d12⟩ := Bx.zfacts X1_9.out
      obtain ⟨e0, e1, e2, e3, e4, e5, e6, e7, e8, e9, e10, e11, e12⟩ := Bx.zfacts X2_9.out
      go_wp2_with fail
      clear d0 d1 d2 d3 d4 d5 d6 d7 d8 d9 d10 d11 d12 e0 e1 e2 e3 e4 e5 e6 e7 e8 e9 e10 e11 e12
      refine (refSame_z _).mono ?_
      rintro e w10 ⟨rfl, hb⟩
      have HB10 := hid (bel HB9.out hb)
      have E_10 := hid (E_9.out.below hb)
      have X1_10 := hid (X1_9.out.below hb)
      have X2_10 := hid (X2_9.out.below hb)
      have X3_10 := hid (X3.out.below hb)
      clear hb
      obtain ⟨d0, d1, d2, d3, d4, d5, d6, d7, d8, d9, d10, d11, d12⟩ := Bx.zfacts X2_10.out
      obtain ⟨e0, e1, e2, e3, e4, e5, e6, e7, e8, e9, e10, e11, e12⟩ := Bx.zfacts X3_10.out
      go_wp2_with fail
      clear d0 d1 d2 d3 d4 d5 d6 d7 d8 d9 d10 d11 d12 e0 e1 e2 e3 e4 e5 e6 e7 e8 e9 e10 e11 e12
      refine (refSame_z _).mono ?_
      rintro e w11 ⟨rfl, hb⟩
      have HB11 := hid (bel HB10.out hb)
      have E_11 := hid (E_10.out.below hb)
      have X1_11 := hid (X1_10.out.below hb)
      have X2_11 := hid (X2_10.out.below hb)
      have X3_11 := hid (X3_10.out.below hb)
      clear hb
      go_wp2
      go_ret
      exact ⟨by first | rfl | trivial, HB11.out⟩
    | some v =>
      rw [ho] at eF eB
      have HU1 := hid (fun w E => url_some ho (by omega) w E)
      have HU2 := hid (fun w E => url_some eF hFs w E)
      have HU3 := hid (fun w E => url_some eB hBs w E)
      obtain ⟨hn, hhn⟩ : ∃ h, h = v.2.1 := ⟨_, rfl⟩
      rw [← hhn] at HU1 HU2 HU3
      obtain ⟨l, hll⟩ : ∃ l, l = segs v := ⟨_, rfl⟩
      rw [← hll] at HU1 HU2 HU3
      clear hhn hll
      clear ho eF eB hFs hBs hF hB hsl
      go_enter Tryz.func4, Tryz.ntmps4
      go_wp2_with fail
      refine (HAW.out _ HE.out).mono ?_
      rintro e w1 ⟨rfl, hb⟩
      have HB1 := hid hb
      have E_1 := hid (HE.out.below hb)
      clear hb
      go_wp2_with fail
      refine (HU1.out _ E_1.out).mono ?_
      rintro e w2 ⟨A1, n1, c1, rfl, hpt, hb⟩
      have HB2 := hid (bel HB1.out hb)
      have E_2 := hid (E_1.out.below hb)
      clear hb
      have T1 := hid hpt
      clear hpt
      go_upto_region 4 with (fail)
      generalize hwa : World.alloc _ _ = v3
      have hxa : Bx v3 w2.heap.size (fcells hn (.slice A1 n1 c1)) := by rw [← hwa]; exact heap_alloc_new _ _
      have hb : Below w2.heap.size w2 v3 := by rw [← hwa]; exact (Below.refl _ _).alloc (Nat.le_refl _) _
      have X1 := hid hxa
      clear hwa hxa
      have HB3 := hid (bel HB2.out hb)
      have E_3 := hid (E_2.out.below hb)
      have T1_3 := hid (T1.out.below hb)
      clear hb
      go_wp2_with fail
      refine (HSF.out _).mono ?_
      rintro e w4 ⟨rfl, hb⟩
      have HB4 := hid (bel HB3.out hb)
      have E_4 := hid (E_3.out.below hb)
      have T1_4 := hid (T1_3.out.below hb)
      have X1_4 := hid (X1.out.below hb)
      clear hb
      go_wp2_with fail
      refine (HU2.out _ E_4.out).mono ?_
      rintro e w5 ⟨A2, n2, c2, rfl, hpt, hb⟩
      have HB5 := hid (bel HB4.out hb)
      have E_5 := hid (E_4.out.below hb)
      have T1_5 := hid (T1_4.out.below hb)
      have X1_5 := hid (X1_4.out.below hb)
      clear hb
      have T2 := hid hpt
      clear hpt
      go_upto_region 5 with (fail)
      generalize hwa : World.alloc _ _ = v6
      have hxa : Bx v6 w5.heap.size (fcells hn (.slice A2 n2 c2)) := by rw [← hwa]; exact heap_alloc_new _ _
      have hb : Below w5.heap.size w5 v6 := by rw [← hwa]; exact (Below.refl _ _).alloc (Nat.le_refl _) _
      have X2 := hid hxa
      clear hwa hxa
      have HB6 := hid (bel HB5.out hb)
      have E_6 := hid (E_5.out.below hb)
      have T1_6 := hid (T1_5.out.below hb)
      have X1_6 := hid (X1_5.out.below hb)
      have T2_6 := hid (T2.out.below hb)
      clear hb
      go_wp2_with fail
      refine (HSB.out _).mono ?_
      rintro e w7 ⟨rfl, hb⟩
      have HB7 := hid (bel HB6.out hb)
      have E_7 := hid (E_6.out.below hb)
      have T1_7 := hid (T1_6.out.below hb)
      have X1_7 := hid (X1_6.out.below hb)
      have T2_7 := hid (T2_6.out.below hb)
      have X2_7 := hid (X2.out.below hb)
      clear hb
      go_wp2_with fail
      refine (HU3.out _ E_7.out).mono ?_
      rintro e w8 ⟨A3, n3, c3, rfl, hpt, hb⟩
      have HB8 := hid (bel HB7.out hb)
      have E_8 := hid (E_7.out.below hb)
      have T1_8 := hid (T1_7.out.below hb)
      have X1_8 := hid (X1_7.out.below hb)
      have T2_8 := hid (T2_7.out.below hb)
      have X2_8 := hid (X2_7.out.below hb)
      clear hb
      have T3 := hid hpt
      clear hpt
      go_upto_region 6 with (fail)
      generalize hwa : World.alloc _ _ = v9
      have hxa : Bx v9 w8.heap.size (fcells hn (.slice A3 n3 c3)) := by rw [← hwa]; exact heap_alloc_new _ _
      have hb : Below w8.heap.size w8 v9 := by rw [← hwa]; exact (Below.refl _ _).alloc (Nat.le_refl _) _
      have X3 := hid hxa
      clear hwa hxa
      have HB9 := hid (bel HB8.out hb)
      have E_9 := hid (E_8.out.below hb)
      have T1_9 := hid (T1_8.out.below hb)
      have X1_9 := hid (X1_8.out.below hb)
      have T2_9 := hid (T2_8.out.below hb)
      have X2_9 := hid (X2_8.out.below hb)
      have T3_9 := hid (T3.out.below hb)
      clear hb
      obtain ⟨d0, d1, d2, d3, d4, d5, d6, d7, d8, d9, d10, d11, d12⟩ := X1_9.out.facts
      obtain ⟨e0, e1, e2, e3, e4, e5, e6, e7, e8, e9, e10, e11, e12⟩ := X2_9.out.facts
      go_wp2_with fail
      clear d0 d1 d2 d3 d4 d5 d6 d7 d8 d9 d10 d11 d12 e0 e1 e2 e3 e4 e5 e6 e7 e8 e9 e10 e11 e12
      refine (refSame_f hn l _ _ _ _ _ _ _ T1_9.out T2_9.out).mono ?_
      rintro e w10 ⟨rfl, hb⟩
      have HB10 := hid (bel HB9.out hb)
      have E_10 := hid (E_9.out.below hb)
      have T1_10 := hid (T1_9.out.below hb)
      have X1_10 := hid (X1_9.out.below hb)
      have T2_10 := hid (T2_9.out.below hb)
      have X2_10 := hid (X2_9.out.below hb)
      have T3_10 := hid (T3_9.out.below hb)
      have X3_10 := hid (X3.out.below hb)
      clear hb
      obtain ⟨d0, d1, d2, d3, d4, d5, d6, d7, d8, d9, d10, d11, d12⟩ := X2_10.out.facts
      obtain ⟨e0, e1, e2, e3, e4, e5, e6, e7, e8, e9, e10, e11, e12⟩ := X3_10.out.facts
      go_wp2_with fail
      clear d0 d1 d2 d3 d4 d5 d6 d7 d8 d9 d10 d11 d12 e0 e1 e2 e3 e4 e5 e6 e7 e8 e9 e10 e11 e12
      refine (refSame_f hn l _ _ _ _ _ _ _ T2_10.out T3_10.out).mono ?_
      rintro e w11 ⟨rfl, hb⟩
      have HB11 := hid (bel HB10.out hb)
      have E_11 := hid (E_10.out.below hb)
      have T1_11 := hid (T1_10.out.below hb)
      have X1_11 := hid (X1_10.out.below hb)
      have T2_11 := hid (T2_10.out.below hb)
      have X2_11 := hid (X2_10.out.below hb)
      have T3_11 := hid (T3_10.out.below hb)
      have X3_11 := hid (X3_10.out.below hb)
      clear hb
      go_wp2
      go_ret
      exact ⟨by first | rfl | trivial, HB11.out⟩
  · have hli : (500 : Int) < (s.size : Int) := by omega
    go_enter Tryz.func4, Tryz.ntmps4
    go_wp2_with fail
    refine (HAW.out _ HE.out).mono ?_
    rintro e w1 ⟨rfl, hb⟩
    have HB1 := hid hb
    have E_1 := hid (HE.out.below hb)
    clear hb
    go_wp2_with fail
    refine (HAW.out _ E_1.out).mono ?_
    rintro e w2 ⟨rfl, hb⟩
    have HB2 := hid (bel HB1.out hb)
    have E_2 := hid (E_1.out.below hb)
    clear hb
    go_wp2
    go_ret
    exact ⟨by first | rfl | trivial, HB2.out⟩
end Go.Proofs.YtleecmapaihhmaaGreatDoor.Laws
