/- The law TopUrls, walked. -/
import Derived.Test.YtmpeaoacaecgpaaGreatDoorWAS
import Derived.Test.YtmpeaoacaecgpaaGreatDoorWAV
import Derived.Test.YtmpeaoacaecgpaaGreatDoorWAU
set_option linter.unusedSimpArgs false
set_option linter.unusedVariables false
namespace Go.Proofs.YtmpeaoacaecgpaaGreatDoor.Laws
open Go.RowKit Go.Proofs.YtmpeaoacaecgpaaGreatDoor.Base Go.Proofs.YtmpeaoacaecgpaaGreatDoor.Base2 Go.Proofs.YtmpeaoacaecgpaaGreatDoor.cO Go.Proofs.YtmpeaoacaecgpaaGreatDoor.UrlA Go.Proofs.YtmpeaoacaecgpaaGreatDoor.Pg Go.Proofs.YtmpeaoacaecgpaaGreatDoor.ag0 Go.Proofs.YtmpeaoacaecgpaaGreatDoor.sU Go.Proofs.YtmpeaoacaecgpaaGreatDoor.PrsP Go.Proofs.YtmpeaoacaecgpaaGreatDoor.mW Go.Proofs.YtmpeaoacaecgpaaGreatDoor.tK Go.Proofs.YtmpeaoacaecgpaaGreatDoor.yx Go.Proofs.YtmpeaoacaecgpaaGreatDoor.jQ Go.Proofs.YtmpeaoacaecgpaaGreatDoor.pO Go.Proofs.YtmpeaoacaecgpaaGreatDoor.vZ Go.Proofs.YtmpeaoacaecgpaaGreatDoor.WQ Go.Proofs.YtmpeaoacaecgpaaGreatDoor.akc Go.Proofs.YtmpeaoacaecgpaaGreatDoor.oN Go.Proofs.YtmpeaoacaecgpaaGreatDoor.wo Go.Proofs.YtmpeaoacaecgpaaGreatDoor.UG Go.Proofs.YtmpeaoacaecgpaaGreatDoor.Regs

theorem VY (u : U) (A A2 : Option Addr) (n c n2 c2 : Nat) (w : World) (hP : Pt w u A n c) (hQ : Pt w u A2 n2 c2) : Calls Tryz.prog 21 #[.agg #[.string (strOf u.au), .string (strOf u.usr), .string (strOf u.pwd), .string (strOf u.hst), .bool u.hh, .int .i64 u.port, .bool u.opq, .string (strOf u.txt), .slice A n c, .bool u.hq, .bool u.hf, .string (strOf u.dY), .string (strOf u.fB)], .agg #[.string (strOf u.au), .string (strOf u.usr), .string (strOf u.pwd), .string (strOf u.hst), .bool u.hh, .int .i64 u.port, .bool u.opq, .string (strOf u.txt), .slice A2 n2 c2, .bool u.hq, .bool u.hf, .string (strOf u.dY), .string (strOf u.fB)]] w fun e w' => e = .returned (.bool true) ∧ Below w.heap.size w w' := by
  have h := acT.jW (strOf u.au) (strOf u.usr) (strOf u.pwd) (strOf u.hst) u.hh u.port u.opq (strOf u.txt) A n c u.aO u.hq u.hf (strOf u.dY) (strOf u.fB) (strOf u.au) (strOf u.usr) (strOf u.pwd) (strOf u.hst) u.hh u.port u.opq (strOf u.txt) A2 n2 c2 u.aO u.hq u.hf (strOf u.dY) (strOf u.fB) w hP.aO.1 hP.aO.2.1 hP.aO.2.2 hQ.aO.1 hQ.aO.2.1 hQ.aO.2.2
  rw [decide_eq_true rfl] at h
  exact h
set_option linter.unusedSimpArgs false in
set_option maxRecDepth 100000 in
set_option maxHeartbeats 8000000 in
theorem ZA (s0 s1 : ByteArray) (w : World) (h0 : s0.size ≤ 140737488351232) (h1 : s1.size ≤ 140737488351232) (hT : Tab.Pow w) (hL : oI w) (hM : Max w) (hU : rD w) : Calls Tryz.prog 12 #[.string s0, .string s1] w fun e w' => e = .returned (.bool true) ∧ Below w.heap.size w w' := by
  have HE := hid (⟨hT, hL, hM, hU⟩ : Env w)
  have JM : Hid (∀ w : World, Env w → Calls Tryz.prog 40 #[] w fun e w' => e = .returned (.bool true) ∧ Below w.heap.size w w') := fun w E => akA.Xj w ⟨E.pow, E.max, E.Hq⟩
  clear hT hL hM hU
  by_cases hl : s0.size + s1.size ≤ 2000
  · have hli : ¬ (2000 : Int) < (s1.size : Int) + (s0.size : Int) := by omega
    obtain ⟨u0, hu0⟩ : ∃ u0, u0 = U0 := ⟨_, rfl⟩
    have HU0 := hid hu0
    have hsz : s0.data.toList.length + s1.data.toList.length ≤ 2000 := by rw [dl, dl]; exact hl
    have MC : Hid (∀ (A : Option Addr) (n c : Nat) (w : World), Pt w u0 A n c → Calls Tryz.prog 21 #[.agg #[.string (strOf u0.au), .string (strOf u0.usr), .string (strOf u0.pwd), .string (strOf u0.hst), .bool u0.hh, .int .i64 u0.port, .bool u0.opq, .string (strOf u0.txt), .slice A n c, .bool u0.hq, .bool u0.hf, .string (strOf u0.dY), .string (strOf u0.fB)], .agg #[.string ⟨#[]⟩, .string ⟨#[]⟩, .string ⟨#[]⟩, .string ⟨#[]⟩, .bool false, .int .i64 0, .bool false, .string ⟨#[]⟩, .slice none 0 0, .bool false, .bool false, .string ⟨#[]⟩, .string ⟨#[]⟩]] w fun e w' => e = .returned (.bool true) ∧ Below w.heap.size w w') := fun A n c w h => Smz.aiE HU0.out A n c w h
    cases e1 : PrsP.url s0.data.toList none with
    | none =>
      have yc : Hid (∀ w, Env w → Calls Tryz.prog 16 #[.string s0, .pointer none] w fun e w' => ∃ A' n' c', e = .returned (.tuple #[.agg #[.string (strOf u0.au), .string (strOf u0.usr), .string (strOf u0.pwd), .string (strOf u0.hst), .bool u0.hh, .int .i64 u0.port, .bool u0.opq, .string (strOf u0.txt), .slice A' n' c', .bool u0.hq, .bool u0.hf, .string (strOf u0.dY), .string (strOf u0.fB)], .int .i64 2]) ∧ Pt w' u0 A' n' c' ∧ Below w.heap.size w w') := fun w E => GZ HU0.out e1 (by omega) w E
      cases e2 : PrsP.url s1.data.toList none with
      | none =>
        have HP2 : Hid (∀ w, Env w → Calls Tryz.prog 16 #[.string s1, .pointer none] w fun e w' => ∃ A' n' c', e = .returned (.tuple #[.agg #[.string (strOf u0.au), .string (strOf u0.usr), .string (strOf u0.pwd), .string (strOf u0.hst), .bool u0.hh, .int .i64 u0.port, .bool u0.opq, .string (strOf u0.txt), .slice A' n' c', .bool u0.hq, .bool u0.hf, .string (strOf u0.dY), .string (strOf u0.fB)], .int .i64 2]) ∧ Pt w' u0 A' n' c' ∧ Below w.heap.size w w') := fun w E => GZ HU0.out e2 (by omega) w E
        clear e1 e2 hu0 hl h0 h1 hsz
        go_enter Tryz.func12, Tryz.ntmps12
        go_wp2_with fail
        refine (JM.out _ HE.out).mono ?_
        rintro e w1 ⟨rfl, hb⟩
        have HB1 := hid hb
        have sO := hid (HE.out.below hb)
        clear hb
        go_wp2_with fail
        refine (yc.out _ sO.out).mono ?_
        rintro e w2 ⟨A1, n1, c1, rfl, hpt, hb⟩
        have HB2 := hid (bel HB1.out hb)
        have xY := hid (sO.out.below hb)
        clear hb
        have T1 := hid (hpt)
        clear hpt
        go_upto_region 5 with (fail)
        generalize bI : World.alloc _ _ = v3
        have hxa : UB v3 (w2.heap.size) u0 (.slice A1 n1 c1) := by rw [← bI]; exact heap_alloc_new _ _
        have hb : Below w2.heap.size w2 v3 := by rw [← bI]; exact (Below.refl _ _).alloc (Nat.le_refl _) _
        have X1 := hid hxa
        clear bI hxa
        have HB3 := hid (bel HB2.out hb)
        have vV := hid (xY.out.below hb)
        have zJ := hid (T1.out.below hb)
        clear hb
        go_wp2_with fail
        refine (HP2.out _ vV.out).mono ?_
        rintro e w4 ⟨A2, n2, c2, rfl, hpt, hb⟩
        have HB4 := hid (bel HB3.out hb)
        have Hw := hid (vV.out.below hb)
        have O7 := hid (zJ.out.below hb)
        have Pj := hid (X1.out.below hb)
        clear hb
        have T2 := hid (hpt)
        clear hpt
        go_upto_region 8 with (fail)
        generalize bI : World.alloc _ _ = v5
        have hxa : UB v5 (w4.heap.size) u0 (.slice A2 n2 c2) := by rw [← bI]; exact heap_alloc_new _ _
        have hb : Below w4.heap.size w4 v5 := by rw [← bI]; exact (Below.refl _ _).alloc (Nat.le_refl _) _
        have X2 := hid hxa
        clear bI hxa
        have iG := hid (bel HB4.out hb)
        have Uu := hid (Hw.out.below hb)
        have O8 := hid (O7.out.below hb)
        have Pm := hid (Pj.out.below hb)
        have O9 := hid (T2.out.below hb)
        clear hb
        obtain ⟨TU, ka1, TV, TW, TY, Ua, Ub, Uc, ka8, Ud, xK, xM, xO⟩ := X2.out.facts
        go_wp2_with fail
        clear TU ka1 TV TW TY Ua Ub Uc ka8 Ud xK xM xO
        refine (MC.out _ _ _ _ O9.out).mono ?_
        rintro e w6 ⟨rfl, hb⟩
        have nN := hid (bel iG.out hb)
        have E_6 := hid (Uu.out.below hb)
        have acS := hid (O8.out.below hb)
        have acX := hid (Pm.out.below hb)
        have akt := hid (O9.out.below hb)
        have akE := hid (X2.out.below hb)
        clear hb
        go_wp2
        go_ret
        exact ⟨rfl, nN.out⟩
      | some u =>
        have HP2 : Hid (∀ w, Env w → Calls Tryz.prog 16 #[.string s1, .pointer none] w fun e w' => ∃ A' n' c', e = .returned (.tuple #[.agg #[.string (strOf u.au), .string (strOf u.usr), .string (strOf u.pwd), .string (strOf u.hst), .bool u.hh, .int .i64 u.port, .bool u.opq, .string (strOf u.txt), .slice A' n' c', .bool u.hq, .bool u.hf, .string (strOf u.dY), .string (strOf u.fB)], .int .i64 0]) ∧ Pt w' u A' n' c' ∧ Below w.heap.size w w') := fun w E => jB e2 (by omega) w E
        have hok : NJ.Ok u := NJ.aeK e2 (fun _ e => by cases e)
        have fu := AZ (M := 0) e2 (fun _ e => by cases e)
        obtain ⟨P, Qr⟩ : ∃ P, P = strOf (fQ u) := ⟨_, rfl⟩
        have hPs : P.size ≤ 65536 := by rw [Qr, size_strOf]; have := Lp fu; omega
        have ha : PrsP.url P.data.toList none = some u := by rw [Qr]; exact zy hok
        have UA : Hid (∀ (A : Option Addr) (n c : Nat) (w : World), Pt w u A n c → Env w → Calls Tryz.prog 46 #[.agg #[.string (strOf u.au), .string (strOf u.usr), .string (strOf u.pwd), .string (strOf u.hst), .bool u.hh, .int .i64 u.port, .bool u.opq, .string (strOf u.txt), .slice A n c, .bool u.hq, .bool u.hf, .string (strOf u.dY), .string (strOf u.fB)]] w fun e w' => e = .returned (.string P) ∧ Below w.heap.size w w') := fun A n c w hP E => by rw [Qr]; exact aga fu (by omega) A n c w hP E
        have TB : Hid (∀ w, Env w → Calls Tryz.prog 16 #[.string P, .pointer none] w fun e w' => ∃ A' n' c', e = .returned (.tuple #[.agg #[.string (strOf u.au), .string (strOf u.usr), .string (strOf u.pwd), .string (strOf u.hst), .bool u.hh, .int .i64 u.port, .bool u.opq, .string (strOf u.txt), .slice A' n' c', .bool u.hq, .bool u.hf, .string (strOf u.dY), .string (strOf u.fB)], .int .i64 0]) ∧ Pt w' u A' n' c' ∧ Below w.heap.size w w') := fun w E => jB ha hPs w E
        have JO : Hid (∀ (A A2 : Option Addr) (n c n2 c2 : Nat) (w : World), Pt w u A n c → Pt w u A2 n2 c2 → Calls Tryz.prog 21 #[.agg #[.string (strOf u.au), .string (strOf u.usr), .string (strOf u.pwd), .string (strOf u.hst), .bool u.hh, .int .i64 u.port, .bool u.opq, .string (strOf u.txt), .slice A n c, .bool u.hq, .bool u.hf, .string (strOf u.dY), .string (strOf u.fB)], .agg #[.string (strOf u.au), .string (strOf u.usr), .string (strOf u.pwd), .string (strOf u.hst), .bool u.hh, .int .i64 u.port, .bool u.opq, .string (strOf u.txt), .slice A2 n2 c2, .bool u.hq, .bool u.hf, .string (strOf u.dY), .string (strOf u.fB)]] w fun e w' => e = .returned (.bool true) ∧ Below w.heap.size w w') := fun A A2 n c n2 c2 w h k => VY u A A2 n c n2 c2 w h k
        have HQ : Hid ((P.toList == P.toList) = true) := beq_self_eq_true _
        clear e1 e2 hu0 hl h0 h1 hsz hok fu Qr hPs ha
        go_enter Tryz.func12, Tryz.ntmps12
        go_wp2_with fail
        refine (JM.out _ HE.out).mono ?_
        rintro e w1 ⟨rfl, hb⟩
        have HB1 := hid hb
        have sO := hid (HE.out.below hb)
        clear hb
        go_wp2_with fail
        refine (yc.out _ sO.out).mono ?_
        rintro e w2 ⟨A1, n1, c1, rfl, hpt, hb⟩
        have HB2 := hid (bel HB1.out hb)
        have xY := hid (sO.out.below hb)
        clear hb
        have T1 := hid (hpt)
        clear hpt
        go_upto_region 5 with (fail)
        generalize bI : World.alloc _ _ = v3
        have hxa : UB v3 (w2.heap.size) u0 (.slice A1 n1 c1) := by rw [← bI]; exact heap_alloc_new _ _
        have hb : Below w2.heap.size w2 v3 := by rw [← bI]; exact (Below.refl _ _).alloc (Nat.le_refl _) _
        have X1 := hid hxa
        clear bI hxa
        have HB3 := hid (bel HB2.out hb)
        have vV := hid (xY.out.below hb)
        have zJ := hid (T1.out.below hb)
        clear hb
        go_wp2_with fail
        refine (HP2.out _ vV.out).mono ?_
        rintro e w4 ⟨A2, n2, c2, rfl, hpt, hb⟩
        have HB4 := hid (bel HB3.out hb)
        have Hw := hid (vV.out.below hb)
        have O7 := hid (zJ.out.below hb)
        have Pj := hid (X1.out.below hb)
        clear hb
        have T2 := hid (hpt)
        clear hpt
        go_upto_region 8 with (fail)
        generalize bI : World.alloc _ _ = v5
        have hxa : UB v5 (w4.heap.size) u (.slice A2 n2 c2) := by rw [← bI]; exact heap_alloc_new _ _
        have hb : Below w4.heap.size w4 v5 := by rw [← bI]; exact (Below.refl _ _).alloc (Nat.le_refl _) _
        have X2 := hid hxa
        clear bI hxa
        have iG := hid (bel HB4.out hb)
        have Uu := hid (Hw.out.below hb)
        have O8 := hid (O7.out.below hb)
        have Pm := hid (Pj.out.below hb)
        have O9 := hid (T2.out.below hb)
        clear hb
        obtain ⟨TU, ka1, TV, TW, TY, Ua, Ub, Uc, ka8, Ud, xK, xM, xO⟩ := X2.out.facts
        go_wp2_with fail
        clear TU ka1 TV TW TY Ua Ub Uc ka8 Ud xK xM xO
        refine (UA.out _ _ _ _ O9.out Uu.out).mono ?_
        rintro e w6 ⟨rfl, hb⟩
        have nN := hid (bel iG.out hb)
        have E_6 := hid (Uu.out.below hb)
        have acS := hid (O8.out.below hb)
        have acX := hid (Pm.out.below hb)
        have akt := hid (O9.out.below hb)
        have akE := hid (X2.out.below hb)
        clear hb
        go_wp2_with fail
        refine (TB.out _ E_6.out).mono ?_
        rintro e w7 ⟨A3, n3, c3, rfl, hpt, hb⟩
        have kZ := hid (bel nN.out hb)
        have E_7 := hid (E_6.out.below hb)
        have T1_7 := hid (acS.out.below hb)
        have X1_7 := hid (acX.out.below hb)
        have T2_7 := hid (akt.out.below hb)
        have X2_7 := hid (akE.out.below hb)
        clear hb
        have T3 := hid (hpt)
        clear hpt
        go_upto_region 12 with (fail)
        generalize bI : World.alloc _ _ = v8
        have hxa : UB v8 (w7.heap.size) u (.slice A3 n3 c3) := by rw [← bI]; exact heap_alloc_new _ _
        have hb : Below w7.heap.size w7 v8 := by rw [← bI]; exact (Below.refl _ _).alloc (Nat.le_refl _) _
        have X3 := hid hxa
        clear bI hxa
        have H7 := hid (bel kZ.out hb)
        have E_8 := hid (E_7.out.below hb)
        have T1_8 := hid (T1_7.out.below hb)
        have X1_8 := hid (X1_7.out.below hb)
        have aku := hid (T2_7.out.below hb)
        have akF := hid (X2_7.out.below hb)
        have akv := hid (T3.out.below hb)
        clear hb
        obtain ⟨TU, ka1, TV, TW, TY, Ua, Ub, Uc, ka8, Ud, xK, xM, xO⟩ := akF.out.facts
        obtain ⟨kb0, kb1, kb2, kb3, kb4, kb5, kb6, kb7, kb8, kb9, kb10, kb11, kb12⟩ := X3.out.facts
        go_wp2_with fail
        clear TU ka1 TV TW TY Ua Ub Uc ka8 Ud xK xM xO kb0 kb1 kb2 kb3 kb4 kb5 kb6 kb7 kb8 kb9 kb10 kb11 kb12
        refine (JO.out _ _ _ _ _ _ _ aku.out akv.out).mono ?_
        rintro e w9 ⟨rfl, hb⟩
        have Y0 := hid (bel H7.out hb)
        have E_9 := hid (E_8.out.below hb)
        have T1_9 := hid (T1_8.out.below hb)
        have X1_9 := hid (X1_8.out.below hb)
        have T2_9 := hid (aku.out.below hb)
        have X2_9 := hid (akF.out.below hb)
        have akw := hid (akv.out.below hb)
        have akG := hid (X3.out.below hb)
        clear hb
        obtain ⟨TU, ka1, TV, TW, TY, Ua, Ub, Uc, ka8, Ud, xK, xM, xO⟩ := akG.out.facts
        go_wp2_with fail
        clear TU ka1 TV TW TY Ua Ub Uc ka8 Ud xK xM xO
        refine (UA.out _ _ _ _ akw.out E_9.out).mono ?_
        rintro e w10 ⟨rfl, hb⟩
        have JZ := hid (bel Y0.out hb)
        have ajp := hid (E_9.out.below hb)
        have T1_10 := hid (T1_9.out.below hb)
        have X1_10 := hid (X1_9.out.below hb)
        have T2_10 := hid (T2_9.out.below hb)
        have X2_10 := hid (X2_9.out.below hb)
        have T3_10 := hid (akw.out.below hb)
        have X3_10 := hid (akG.out.below hb)
        clear hb
        have hq := HQ.out
        go_wp2
        go_ret
        exact ⟨rfl, JZ.out⟩
    | some b =>
      have yc : Hid (∀ w, Env w → Calls Tryz.prog 16 #[.string s0, .pointer none] w fun e w' => ∃ A' n' c', e = .returned (.tuple #[.agg #[.string (strOf b.au), .string (strOf b.usr), .string (strOf b.pwd), .string (strOf b.hst), .bool b.hh, .int .i64 b.port, .bool b.opq, .string (strOf b.txt), .slice A' n' c', .bool b.hq, .bool b.hf, .string (strOf b.dY), .string (strOf b.fB)], .int .i64 0]) ∧ Pt w' b A' n' c' ∧ Below w.heap.size w w') := fun w E => jB e1 (by omega) w E
      have f1 := (AZ (M := 0) e1 (fun _ e => by cases e)).mono (show 0 + 15 * s0.data.toList.length + 300 ≤ 30300 by omega)
      have HF1 := hid f1
      have hokb : NJ.Ok b := NJ.aeK e1 (fun _ e => by cases e)
      cases e2 : PrsP.url s1.data.toList (some b) with
      | none =>
        have HP2 : Hid (∀ (gb : Nat) (A : Option Addr) (n c : Nat), n ≤ 100000 → ∀ w, UB w gb b (.slice A n c) → Pt w b A n c → Env w → Calls Tryz.prog 16 #[.string s1, .pointer (some ⟨gb, 0, none⟩)] w fun e w' => ∃ A' n' c', e = .returned (.tuple #[.agg #[.string (strOf u0.au), .string (strOf u0.usr), .string (strOf u0.pwd), .string (strOf u0.hst), .bool u0.hh, .int .i64 u0.port, .bool u0.opq, .string (strOf u0.txt), .slice A' n' c', .bool u0.hq, .bool u0.hf, .string (strOf u0.dY), .string (strOf u0.fB)], .int .i64 2]) ∧ Pt w' u0 A' n' c' ∧ Below w.heap.size w w') := fun gb A n c hn w hB hP E => aaZ HU0.out e2 (by omega) gb A n c hn w hB hP E
        clear e1 e2 hu0 hl h0 h1 hsz f1 hokb
        go_enter Tryz.func12, Tryz.ntmps12
        go_wp2_with fail
        refine (JM.out _ HE.out).mono ?_
        rintro e w1 ⟨rfl, hb⟩
        have HB1 := hid hb
        have sO := hid (HE.out.below hb)
        clear hb
        go_wp2_with fail
        refine (yc.out _ sO.out).mono ?_
        rintro e w2 ⟨A1, n1, c1, rfl, hpt, hb⟩
        have HB2 := hid (bel HB1.out hb)
        have xY := hid (sO.out.below hb)
        clear hb
        have T1 := hid (hpt)
        clear hpt
        go_upto_region 5 with (fail)
        generalize bI : World.alloc _ _ = v3
        have hxa : UB v3 (w2.heap.size) b (.slice A1 n1 c1) := by rw [← bI]; exact heap_alloc_new _ _
        have hb : Below w2.heap.size w2 v3 := by rw [← bI]; exact (Below.refl _ _).alloc (Nat.le_refl _) _
        have X1 := hid hxa
        clear bI hxa
        have HB3 := hid (bel HB2.out hb)
        have vV := hid (xY.out.below hb)
        have zJ := hid (T1.out.below hb)
        clear hb
        go_wp2_with fail
        refine (HP2.out _ _ _ _ (Nat.le_trans (zJ.out.len HF1.out) (by decide)) _ X1.out zJ.out vV.out).mono ?_
        rintro e w4 ⟨A2, n2, c2, rfl, hpt, hb⟩
        have HB4 := hid (bel HB3.out hb)
        have Hw := hid (vV.out.below hb)
        have O7 := hid (zJ.out.below hb)
        have Pj := hid (X1.out.below hb)
        clear hb
        have T2 := hid (hpt)
        clear hpt
        go_upto_region 8 with (fail)
        generalize bI : World.alloc _ _ = v5
        have hxa : UB v5 (w4.heap.size) u0 (.slice A2 n2 c2) := by rw [← bI]; exact heap_alloc_new _ _
        have hb : Below w4.heap.size w4 v5 := by rw [← bI]; exact (Below.refl _ _).alloc (Nat.le_refl _) _
        have X2 := hid hxa
        clear bI hxa
        have iG := hid (bel HB4.out hb)
        have Uu := hid (Hw.out.below hb)
        have O8 := hid (O7.out.below hb)
        have Pm := hid (Pj.out.below hb)
        have O9 := hid (T2.out.below hb)
        clear hb
        obtain ⟨TU, ka1, TV, TW, TY, Ua, Ub, Uc, ka8, Ud, xK, xM, xO⟩ := X2.out.facts
        go_wp2_with fail
        clear TU ka1 TV TW TY Ua Ub Uc ka8 Ud xK xM xO
        refine (MC.out _ _ _ _ O9.out).mono ?_
        rintro e w6 ⟨rfl, hb⟩
        have nN := hid (bel iG.out hb)
        have E_6 := hid (Uu.out.below hb)
        have acS := hid (O8.out.below hb)
        have acX := hid (Pm.out.below hb)
        have akt := hid (O9.out.below hb)
        have akE := hid (X2.out.below hb)
        clear hb
        go_wp2
        go_ret
        exact ⟨rfl, nN.out⟩
      | some u =>
        have HP2 : Hid (∀ (gb : Nat) (A : Option Addr) (n c : Nat), n ≤ 100000 → ∀ w, UB w gb b (.slice A n c) → Pt w b A n c → Env w → Calls Tryz.prog 16 #[.string s1, .pointer (some ⟨gb, 0, none⟩)] w fun e w' => ∃ A' n' c', e = .returned (.tuple #[.agg #[.string (strOf u.au), .string (strOf u.usr), .string (strOf u.pwd), .string (strOf u.hst), .bool u.hh, .int .i64 u.port, .bool u.opq, .string (strOf u.txt), .slice A' n' c', .bool u.hq, .bool u.hf, .string (strOf u.dY), .string (strOf u.fB)], .int .i64 0]) ∧ Pt w' u A' n' c' ∧ Below w.heap.size w w') := fun gb A n c hn w hB hP E => aa0 e2 (by omega) gb A n c hn w hB hP E
        have hok : NJ.Ok u := NJ.aeK e2 (fun _ e => by cases e; exact hokb)
        have fu := AZ e2 (fun _ e => by cases e; exact f1)
        obtain ⟨P, Qr⟩ : ∃ P, P = strOf (fQ u) := ⟨_, rfl⟩
        have hPs : P.size ≤ 65536 := by rw [Qr, size_strOf]; have := Lp fu; omega
        have ha : PrsP.url P.data.toList none = some u := by rw [Qr]; exact zy hok
        have UA : Hid (∀ (A : Option Addr) (n c : Nat) (w : World), Pt w u A n c → Env w → Calls Tryz.prog 46 #[.agg #[.string (strOf u.au), .string (strOf u.usr), .string (strOf u.pwd), .string (strOf u.hst), .bool u.hh, .int .i64 u.port, .bool u.opq, .string (strOf u.txt), .slice A n c, .bool u.hq, .bool u.hf, .string (strOf u.dY), .string (strOf u.fB)]] w fun e w' => e = .returned (.string P) ∧ Below w.heap.size w w') := fun A n c w hP E => by rw [Qr]; exact aga fu (by omega) A n c w hP E
        have TB : Hid (∀ w, Env w → Calls Tryz.prog 16 #[.string P, .pointer none] w fun e w' => ∃ A' n' c', e = .returned (.tuple #[.agg #[.string (strOf u.au), .string (strOf u.usr), .string (strOf u.pwd), .string (strOf u.hst), .bool u.hh, .int .i64 u.port, .bool u.opq, .string (strOf u.txt), .slice A' n' c', .bool u.hq, .bool u.hf, .string (strOf u.dY), .string (strOf u.fB)], .int .i64 0]) ∧ Pt w' u A' n' c' ∧ Below w.heap.size w w') := fun w E => jB ha hPs w E
        have JO : Hid (∀ (A A2 : Option Addr) (n c n2 c2 : Nat) (w : World), Pt w u A n c → Pt w u A2 n2 c2 → Calls Tryz.prog 21 #[.agg #[.string (strOf u.au), .string (strOf u.usr), .string (strOf u.pwd), .string (strOf u.hst), .bool u.hh, .int .i64 u.port, .bool u.opq, .string (strOf u.txt), .slice A n c, .bool u.hq, .bool u.hf, .string (strOf u.dY), .string (strOf u.fB)], .agg #[.string (strOf u.au), .string (strOf u.usr), .string (strOf u.pwd), .string (strOf u.hst), .bool u.hh, .int .i64 u.port, .bool u.opq, .string (strOf u.txt), .slice A2 n2 c2, .bool u.hq, .bool u.hf, .string (strOf u.dY), .string (strOf u.fB)]] w fun e w' => e = .returned (.bool true) ∧ Below w.heap.size w w') := fun A A2 n c n2 c2 w h k => VY u A A2 n c n2 c2 w h k
        have HQ : Hid ((P.toList == P.toList) = true) := beq_self_eq_true _
        clear e1 e2 hu0 hl h0 h1 hsz hok fu Qr hPs ha f1 hokb
        go_enter Tryz.func12, Tryz.ntmps12
        go_wp2_with fail
        refine (JM.out _ HE.out).mono ?_
        rintro e w1 ⟨rfl, hb⟩
        have HB1 := hid hb
        have sO := hid (HE.out.below hb)
        clear hb
        go_wp2_with fail
        refine (yc.out _ sO.out).mono ?_
        rintro e w2 ⟨A1, n1, c1, rfl, hpt, hb⟩
        have HB2 := hid (bel HB1.out hb)
        have xY := hid (sO.out.below hb)
        clear hb
        have T1 := hid (hpt)
        clear hpt
        go_upto_region 5 with (fail)
        generalize bI : World.alloc _ _ = v3
        have hxa : UB v3 (w2.heap.size) b (.slice A1 n1 c1) := by rw [← bI]; exact heap_alloc_new _ _
        have hb : Below w2.heap.size w2 v3 := by rw [← bI]; exact (Below.refl _ _).alloc (Nat.le_refl _) _
        have X1 := hid hxa
        clear bI hxa
        have HB3 := hid (bel HB2.out hb)
        have vV := hid (xY.out.below hb)
        have zJ := hid (T1.out.below hb)
        clear hb
        go_wp2_with fail
        refine (HP2.out _ _ _ _ (Nat.le_trans (zJ.out.len HF1.out) (by decide)) _ X1.out zJ.out vV.out).mono ?_
        rintro e w4 ⟨A2, n2, c2, rfl, hpt, hb⟩
        have HB4 := hid (bel HB3.out hb)
        have Hw := hid (vV.out.below hb)
        have O7 := hid (zJ.out.below hb)
        have Pj := hid (X1.out.below hb)
        clear hb
        have T2 := hid (hpt)
        clear hpt
        go_upto_region 8 with (fail)
        generalize bI : World.alloc _ _ = v5
        have hxa : UB v5 (w4.heap.size) u (.slice A2 n2 c2) := by rw [← bI]; exact heap_alloc_new _ _
        have hb : Below w4.heap.size w4 v5 := by rw [← bI]; exact (Below.refl _ _).alloc (Nat.le_refl _) _
        have X2 := hid hxa
        clear bI hxa
        have iG := hid (bel HB4.out hb)
        have Uu := hid (Hw.out.below hb)
        have O8 := hid (O7.out.below hb)
        have Pm := hid (Pj.out.below hb)
        have O9 := hid (T2.out.below hb)
        clear hb
        obtain ⟨TU, ka1, TV, TW, TY, Ua, Ub, Uc, ka8, Ud, xK, xM, xO⟩ := X2.out.facts
        go_wp2_with fail
        clear TU ka1 TV TW TY Ua Ub Uc ka8 Ud xK xM xO
        refine (UA.out _ _ _ _ O9.out Uu.out).mono ?_
        rintro e w6 ⟨rfl, hb⟩
        have nN := hid (bel iG.out hb)
        have E_6 := hid (Uu.out.below hb)
        have acS := hid (O8.out.below hb)
        have acX := hid (Pm.out.below hb)
        have akt := hid (O9.out.below hb)
        have akE := hid (X2.out.below hb)
        clear hb
        go_wp2_with fail
        refine (TB.out _ E_6.out).mono ?_
        rintro e w7 ⟨A3, n3, c3, rfl, hpt, hb⟩
        have kZ := hid (bel nN.out hb)
        have E_7 := hid (E_6.out.below hb)
        have T1_7 := hid (acS.out.below hb)
        have X1_7 := hid (acX.out.below hb)
        have T2_7 := hid (akt.out.below hb)
        have X2_7 := hid (akE.out.below hb)
        clear hb
        have T3 := hid (hpt)
        clear hpt
        go_upto_region 12 with (fail)
        generalize bI : World.alloc _ _ = v8
        have hxa : UB v8 (w7.heap.size) u (.slice A3 n3 c3) := by rw [← bI]; exact heap_alloc_new _ _
        have hb : Below w7.heap.size w7 v8 := by rw [← bI]; exact (Below.refl _ _).alloc (Nat.le_refl _) _
        have X3 := hid hxa
        clear bI hxa
        have H7 := hid (bel kZ.out hb)
        have E_8 := hid (E_7.out.below hb)
        have T1_8 := hid (T1_7.out.below hb)
        have X1_8 := hid (X1_7.out.below hb)
        have aku := hid (T2_7.out.below hb)
        have akF := hid (X2_7.out.below hb)
        have akv := hid (T3.out.below hb)
        clear hb
        obtain ⟨TU, ka1, TV, TW, TY, Ua, Ub, Uc, ka8, Ud, xK, xM, xO⟩ := akF.out.facts
        obtain ⟨kb0, kb1, kb2, kb3, kb4, kb5, kb6, kb7, kb8, kb9, kb10, kb11, kb12⟩ := X3.out.facts
        go_wp2_with fail
        clear TU ka1 TV TW TY Ua Ub Uc ka8 Ud xK xM xO kb0 kb1 kb2 kb3 kb4 kb5 kb6 kb7 kb8 kb9 kb10 kb11 kb12
        refine (JO.out _ _ _ _ _ _ _ aku.out akv.out).mono ?_
        rintro e w9 ⟨rfl, hb⟩
        have Y0 := hid (bel H7.out hb)
        have E_9 := hid (E_8.out.below hb)
        have T1_9 := hid (T1_8.out.below hb)
        have X1_9 := hid (X1_8.out.below hb)
        have T2_9 := hid (aku.out.below hb)
        have X2_9 := hid (akF.out.below hb)
        have akw := hid (akv.out.below hb)
        have akG := hid (X3.out.below hb)
        clear hb
        obtain ⟨TU, ka1, TV, TW, TY, Ua, Ub, Uc, ka8, Ud, xK, xM, xO⟩ := akG.out.facts
        go_wp2_with fail
        clear TU ka1 TV TW TY Ua Ub Uc ka8 Ud xK xM xO
        refine (UA.out _ _ _ _ akw.out E_9.out).mono ?_
        rintro e w10 ⟨rfl, hb⟩
        have JZ := hid (bel Y0.out hb)
        have ajp := hid (E_9.out.below hb)
        have T1_10 := hid (T1_9.out.below hb)
        have X1_10 := hid (X1_9.out.below hb)
        have T2_10 := hid (T2_9.out.below hb)
        have X2_10 := hid (X2_9.out.below hb)
        have T3_10 := hid (akw.out.below hb)
        have X3_10 := hid (akG.out.below hb)
        clear hb
        have hq := HQ.out
        go_wp2
        go_ret
        exact ⟨rfl, JZ.out⟩
  · have hli : (2000 : Int) < (s1.size : Int) + (s0.size : Int) := by omega
    clear hl
    go_enter Tryz.func12, Tryz.ntmps12
    go_wp2_with fail
    refine (JM.out _ HE.out).mono ?_
    rintro e w1 ⟨rfl, hb⟩
    have HB1 := hid hb
    have sO := hid (HE.out.below hb)
    clear hb
    go_wp2_with fail
    refine (JM.out _ sO.out).mono ?_
    rintro e w2 ⟨rfl, hb⟩
    have HB2 := hid (bel HB1.out hb)
    have xY := hid (sO.out.below hb)
    clear hb
    go_wp2
    go_ret
    exact ⟨rfl, HB2.out⟩
end Go.Proofs.YtmpeaoacaecgpaaGreatDoor.Laws
