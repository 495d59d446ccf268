/- The law WindowsTurns, walked. -/
import Derived.Test.YtleecmapaihhmaaGreatDoorMY
import Derived.Test.YtleecmapaihhmaaGreatDoorWinE
set_option linter.unusedSimpArgs false
set_option linter.unusedVariables false
namespace Go.Proofs.YtleecmapaihhmaaGreatDoor.Laws
open Go.RowKit Go.Proofs.YtleecmapaihhmaaGreatDoor.Base Go.Proofs.YtleecmapaihhmaaGreatDoor.Base2 Go.Proofs.YtleecmapaihhmaaGreatDoor.SlsP Go.Proofs.YtleecmapaihhmaaGreatDoor.PosQ Go.Proofs.YtleecmapaihhmaaGreatDoor.PosA Go.Proofs.YtleecmapaihhmaaGreatDoor.PosU Go.Proofs.YtleecmapaihhmaaGreatDoor.WinP Go.Proofs.YtleecmapaihhmaaGreatDoor.WinU Go.Proofs.YtleecmapaihhmaaGreatDoor.WinS Go.Proofs.YtleecmapaihhmaaGreatDoor.WinW
open Go.Proofs.YtleecmapaihhmaaGreatDoor.WinC (Env)
open Go.Proofs.YtleecmapaihhmaaGreatDoor.SixG (Lad)
open Go.Proofs.YtleecmapaihhmaaGreatDoor.Spl (Max)

theorem refW_some {T : ByteArray} {v : W3} (ho : wapart T.data.toList = some v) (hs : T.size ≤ 900000) (w : World) : Calls Tryz.prog 7 #[.string T] w fun e w' => ∃ A n c, e = .returned (.tuple #[.agg #[.string ⟨#[102, 105, 108, 101]⟩, .string ⟨#[]⟩, .string ⟨#[]⟩, .string (strOf v.2.1), .bool true, .int .i64 (-1), .bool false, .string ⟨#[]⟩, .slice A n c, .bool false, .bool false, .string ⟨#[]⟩, .string ⟨#[]⟩], .bool true]) ∧ Pt w' (segs v) A n c ∧ Below w.heap.size w w' :=
  (WinE.urlW_any T w hs).mono fun e w' h => by
    rw [ho] at h
    obtain ⟨hb, A, n, c, h1, h2⟩ := h
    exact ⟨A, n, c, h1, Pt.of h2, hb⟩
theorem refW_none {T : ByteArray} (ho : wapart T.data.toList = none) (hs : T.size ≤ 900000) (w : World) : Calls Tryz.prog 7 #[.string T] w fun e w' => e = .returned (.tuple #[.agg #[.string ⟨#[]⟩, .string ⟨#[]⟩, .string ⟨#[]⟩, .string ⟨#[]⟩, .bool false, .int .i64 0, .bool false, .string ⟨#[]⟩, .slice none 0 0, .bool false, .bool false, .string ⟨#[]⟩, .string ⟨#[]⟩], .bool false]) ∧ Below w.heap.size w w' :=
  (WinE.urlW_any T w hs).mono fun e w' h => by
    rw [ho] at h
    exact ⟨h.2, h.1⟩
set_option linter.unusedSimpArgs false in
set_option maxRecDepth 100000 in
set_option maxHeartbeats 8000000 in
theorem WindowsTurns_any (s : ByteArray) (w : World) (h0 : s.size ≤ 140737488351232) (hT : Tab.Pow w) (hL : Lad w) (hM : Max w) : Calls Tryz.prog 3 #[.string s] w fun e w' => e = .returned (.bool true) ∧ Below w.heap.size w w' := by
  have HE := hid (⟨hT, hL, hM⟩ : Env w)
  have HAW : Hid (∀ w : World, Env w → Calls Tryz.prog 5 #[] w fun e w' => e = .returned (.bool true) ∧ Below w.heap.size w w') := fun w E => awake_any w E
  clear hT hL hM
  by_cases hl : s.size ≤ 500
  · have hli : ¬ (500 : Int) < (s.size : Int) := by omega
    obtain ⟨b, hb⟩ : ∃ b, b = wfine s.data.toList := ⟨_, rfl⟩
    have HF1 : Hid (∀ w : World, Env w → Calls Tryz.prog 8 #[.string s] w fun e w' => e = .returned (.bool b) ∧ Below w.heap.size w w') := fun w E => by rw [hb]; exact WinC.fine_any s w (by omega) E
    have HF2 : Hid (∀ w : World, Calls Tryz.prog 9 #[.string s] w fun e w' => e = .returned (.bool b) ∧ Below w.heap.size w w') := fun w => by rw [hb]; exact WinD.fineW_any s w (by omega)
    clear hb
    cases ho : wapart s.data.toList with
    | none =>
      have HU1 := hid (fun w E => url_none ho (by omega) w E)
      have HU2 := hid (fun w => refW_none ho (by omega) w)
      clear ho
      go_enter Tryz.func3, Tryz.ntmps3
      go_wp2_with fail
      refine (HAW.out _ HE.out).mono ?_
      rintro e w1 ⟨rfl, hb⟩
      have HB1 := hid hb
      have E_1 := hid (HE.out.below hb)
      clear hb
      go_wp2_with fail
      refine (HU1.out _ E_1.out).mono ?_
      rintro e w2 ⟨rfl, hb⟩
      have HB2 := hid (bel HB1.out hb)
      have E_2 := hid (E_1.out.below hb)
      clear hb
      go_upto_region 4 with (fail)
      generalize hwa : World.alloc _ _ = v3
      have hxa : Bx v3 w2.heap.size (zcells) := by rw [← hwa]; exact heap_alloc_new _ _
      have hb : Below w2.heap.size w2 v3 := by rw [← hwa]; exact (Below.refl _ _).alloc (Nat.le_refl _) _
      have X1 := hid hxa
      clear hwa hxa
      have HB3 := hid (bel HB2.out hb)
      have E_3 := hid (E_2.out.below hb)
      clear hb
      go_wp2_with fail
      refine (HU2.out _).mono ?_
      rintro e w4 ⟨rfl, hb⟩
      have HB4 := hid (bel HB3.out hb)
      have E_4 := hid (E_3.out.below hb)
      have X1_4 := hid (X1.out.below hb)
      clear hb
      go_upto_region 5 with (fail)
      generalize hwa : World.alloc _ _ = v5
      have hxa : Bx v5 w4.heap.size (zcells) := by rw [← hwa]; exact heap_alloc_new _ _
      have hb : Below w4.heap.size w4 v5 := by rw [← hwa]; exact (Below.refl _ _).alloc (Nat.le_refl _) _
      have X2 := hid hxa
      clear hwa hxa
      have HB5 := hid (bel HB4.out hb)
      have E_5 := hid (E_4.out.below hb)
      have X1_5 := hid (X1_4.out.below hb)
      clear hb
      go_wp2_with fail
      refine (HF1.out _ E_5.out).mono ?_
      rintro e w6 ⟨rfl, hb⟩
      have HB6 := hid (bel HB5.out hb)
      have E_6 := hid (E_5.out.below hb)
      have X1_6 := hid (X1_5.out.below hb)
      have X2_6 := hid (X2.out.below hb)
      clear hb
      go_wp2_with fail
      refine (HF2.out _).mono ?_
      rintro e w7 ⟨rfl, hb⟩
      have HB7 := hid (bel HB6.out hb)
      have E_7 := hid (E_6.out.below hb)
      have X1_7 := hid (X1_6.out.below hb)
      have X2_7 := hid (X2_6.out.below hb)
      clear hb
      obtain ⟨d0, d1, d2, d3, d4, d5, d6, d7, d8, d9, d10, d11, d12⟩ := Bx.zfacts X1_7.out
      obtain ⟨e0, e1, e2, e3, e4, e5, e6, e7, e8, e9, e10, e11, e12⟩ := Bx.zfacts X2_7.out
      go_wp2_with fail
      clear d0 d1 d2 d3 d4 d5 d6 d7 d8 d9 d10 d11 d12 e0 e1 e2 e3 e4 e5 e6 e7 e8 e9 e10 e11 e12
      refine (refSame_z _).mono ?_
      rintro e w8 ⟨rfl, hb⟩
      have HB8 := hid (bel HB7.out hb)
      have E_8 := hid (E_7.out.below hb)
      have X1_8 := hid (X1_7.out.below hb)
      have X2_8 := hid (X2_7.out.below hb)
      clear hb
      go_wp2
      go_ret
      exact ⟨by first | rfl | trivial, HB8.out⟩
    | some v =>
      have HU1 := hid (fun w E => url_some ho (by omega) w E)
      have HU2 := hid (fun w => refW_some ho (by omega) w)
      obtain ⟨hn, hhn⟩ : ∃ h, h = v.2.1 := ⟨_, rfl⟩
      rw [← hhn] at HU1 HU2
      obtain ⟨l, hll⟩ : ∃ l, l = segs v := ⟨_, rfl⟩
      rw [← hll] at HU1 HU2
      clear hhn hll
      clear ho
      go_enter Tryz.func3, Tryz.ntmps3
      go_wp2_with fail
      refine (HAW.out _ HE.out).mono ?_
      rintro e w1 ⟨rfl, hb⟩
      have HB1 := hid hb
      have E_1 := hid (HE.out.below hb)
      clear hb
      go_wp2_with fail
      refine (HU1.out _ E_1.out).mono ?_
      rintro e w2 ⟨A1, n1, c1, rfl, hpt, hb⟩
      have HB2 := hid (bel HB1.out hb)
      have E_2 := hid (E_1.out.below hb)
      clear hb
      have T1 := hid hpt
      clear hpt
      go_upto_region 4 with (fail)
      generalize hwa : World.alloc _ _ = v3
      have hxa : Bx v3 w2.heap.size (fcells hn (.slice A1 n1 c1)) := by rw [← hwa]; exact heap_alloc_new _ _
      have hb : Below w2.heap.size w2 v3 := by rw [← hwa]; exact (Below.refl _ _).alloc (Nat.le_refl _) _
      have X1 := hid hxa
      clear hwa hxa
      have HB3 := hid (bel HB2.out hb)
      have E_3 := hid (E_2.out.below hb)
      have T1_3 := hid (T1.out.below hb)
      clear hb
      go_wp2_with fail
      refine (HU2.out _).mono ?_
      rintro e w4 ⟨A2, n2, c2, rfl, hpt, hb⟩
      have HB4 := hid (bel HB3.out hb)
      have E_4 := hid (E_3.out.below hb)
      have T1_4 := hid (T1_3.out.below hb)
      have X1_4 := hid (X1.out.below hb)
      clear hb
      have T2 := hid hpt
      clear hpt
      go_upto_region 5 with (fail)
      generalize hwa : World.alloc _ _ = v5
      have hxa : Bx v5 w4.heap.size (fcells hn (.slice A2 n2 c2)) := by rw [← hwa]; exact heap_alloc_new _ _
      have hb : Below w4.heap.size w4 v5 := by rw [← hwa]; exact (Below.refl _ _).alloc (Nat.le_refl _) _
      have X2 := hid hxa
      clear hwa hxa
      have HB5 := hid (bel HB4.out hb)
      have E_5 := hid (E_4.out.below hb)
      have T1_5 := hid (T1_4.out.below hb)
      have X1_5 := hid (X1_4.out.below hb)
      have T2_5 := hid (T2.out.below hb)
      clear hb
      go_wp2_with fail
      refine (HF1.out _ E_5.out).mono ?_
      rintro e w6 ⟨rfl, hb⟩
      have HB6 := hid (bel HB5.out hb)
      have E_6 := hid (E_5.out.below hb)
      have T1_6 := hid (T1_5.out.below hb)
      have X1_6 := hid (X1_5.out.below hb)
      have T2_6 := hid (T2_5.out.below hb)
      have X2_6 := hid (X2.out.below hb)
      clear hb
      go_wp2_with fail
      refine (HF2.out _).mono ?_
      rintro e w7 ⟨rfl, hb⟩
      have HB7 := hid (bel HB6.out hb)
      have E_7 := hid (E_6.out.below hb)
      have T1_7 := hid (T1_6.out.below hb)
      have X1_7 := hid (X1_6.out.below hb)
      have T2_7 := hid (T2_6.out.below hb)
      have X2_7 := hid (X2_6.out.below hb)
      clear hb
      obtain ⟨d0, d1, d2, d3, d4, d5, d6, d7, d8, d9, d10, d11, d12⟩ := X1_7.out.facts
      obtain ⟨e0, e1, e2, e3, e4, e5, e6, e7, e8, e9, e10, e11, e12⟩ := X2_7.out.facts
      go_wp2_with fail
      clear d0 d1 d2 d3 d4 d5 d6 d7 d8 d9 d10 d11 d12 e0 e1 e2 e3 e4 e5 e6 e7 e8 e9 e10 e11 e12
      refine (refSame_f hn l _ _ _ _ _ _ _ T1_7.out T2_7.out).mono ?_
      rintro e w8 ⟨rfl, hb⟩
      have HB8 := hid (bel HB7.out hb)
      have E_8 := hid (E_7.out.below hb)
      have T1_8 := hid (T1_7.out.below hb)
      have X1_8 := hid (X1_7.out.below hb)
      have T2_8 := hid (T2_7.out.below hb)
      have X2_8 := hid (X2_7.out.below hb)
      clear hb
      go_wp2
      go_ret
      exact ⟨by first | rfl | trivial, HB8.out⟩
  · have hli : (500 : Int) < (s.size : Int) := by omega
    go_enter Tryz.func3, Tryz.ntmps3
    go_wp2_with fail
    refine (HAW.out _ HE.out).mono ?_
    rintro e w1 ⟨rfl, hb⟩
    have HB1 := hid hb
    have E_1 := hid (HE.out.below hb)
    clear hb
    go_wp2_with fail
    refine (HAW.out _ E_1.out).mono ?_
    rintro e w2 ⟨rfl, hb⟩
    have HB2 := hid (bel HB1.out hb)
    have E_2 := hid (E_1.out.below hb)
    clear hb
    go_wp2
    go_ret
    exact ⟨by first | rfl | trivial, HB2.out⟩
end Go.Proofs.YtleecmapaihhmaaGreatDoor.Laws
