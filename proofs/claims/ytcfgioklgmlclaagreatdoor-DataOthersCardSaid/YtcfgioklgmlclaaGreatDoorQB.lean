/- Texts that belong together: Law17b. -/
import Derived.Test.YtcfgioklgmlclaaGreatDoorPH
set_option linter.unusedSimpArgs false
set_option linter.unusedVariables false
set_option maxRecDepth 100000
set_option maxHeartbeats 64000000
namespace Go.Proofs.YtcfgioklgmlclaaGreatDoor.Laws
open Go.RowKit Base aP fE aH tZ Uo Ulw uq qL lJ MV rC X7 Nk Qv kX Fh J8 aas
open Go.Proofs.YtcfgioklgmlclaaGreatDoor.dD (Dp)
theorem sameZ (A2 : Option Addr) (c : Nat) (w : World) (h : Mp w xH A2 c) : Calls Tryz.prog 18 #[.agg #[.string ⟨#[]⟩, .string ⟨#[]⟩, .slice A2 0 c], .agg #[.string ⟨#[]⟩, .string ⟨#[]⟩, .slice none 0 0]] w fun e w' => e = .returned (.bool true) ∧ Below w.heap.size w w' := by
 have h1 := Nk.SI ⟨#[]⟩ ⟨#[]⟩ A2 0 c [] ⟨#[]⟩ ⟨#[]⟩ none 0 0 [] w h.prm ⟨rfl, fun j hj => by simp at hj⟩ (Nat.zero_le _) h.cm (Nat.le_refl _) (by decide)
 rw [Qv.EN] at h1
 exact h1
theorem Hy : ∀ L : List UInt8, (∀ c ∈ L, c ≠ 44) → (dV 44 L).2.2 = false
 | [], _ => rfl
 | c :: L, h => by
  unfold dV
  rw [if_neg (h c (by simp))]
  exact Hy L fun d hd => h d (by simp [hd])
theorem adG {u : U} {c : UInt8} (h : c ∈ wZ u) : c ∈ lU u := by
 unfold wZ Lib.trimPrefix at h
 split at h
 ·exact List.mem_of_mem_drop h
 ·exact h
theorem YM (u : U) (h : u.aj = DATA) : AY u = 0 ∨ AY u = 2 := by
 unfold AY err
 rw [if_pos h]
 split
 ·exact .inl rfl
 ·exact .inr rfl
theorem abP {u : U} (h : u.aj = DATA) (hc : ∀ c ∈ lU u, c ≠ 44) : AY u = 2 ∧ tH u = (xH, []) := by
 have h1 := uX (Hy (wZ u) fun c h => hc c (adG h))
 unfold AY err tH ans
 rw [if_pos h, if_pos h, h1]
 exact ⟨rfl, rfl⟩
theorem Gx (s0 s1 s2 s3 : ByteArray) (b4 : Bool) (z5 : Int) (b6 : Bool) (s7 : ByteArray) (A : Option Addr) (n cap : Nat) (l : List ByteArray) (b9 b10 : Bool) (s11 s12 : ByteArray) (w : World) (hs0 : s0.size ≤ 140737488351232) (hs1 : s1.size ≤ 140737488351232) (hs2 : s2.size ≤ 140737488351232) (hs3 : s3.size ≤ 140737488351232) (hz : -9223372036854775808 ≤ z5 ∧ z5 ≤ 9223372036854775807) (hs7 : s7.size ≤ 140737488351232) (hR : dS w A n (l.map Value.string)) (hnc : n ≤ cap) (hcm : cap ≤ maxLen) (hel : ∀ s ∈ l, s.size ≤ 140737488351232) (hs11 : s11.size ≤ 140737488351232) (Ou : s12.size ≤ 140737488351232) (hT : Tab.Pow w) (hL : pR w) (hM : Max w) (hU : uw w) :
  Calls Tryz.prog 6 #[.agg #[.string s0, .string s1, .string s2, .string s3, .bool b4, .int .i64 z5, .bool b6, .string s7, .slice A n cap, .bool b9, .bool b10, .string s11, .string s12]] w fun e w' => e = .returned (.bool true) ∧ Below w.heap.size w w' := by
 have HE := hid (⟨hT, hL, hM, hU⟩ : Env w)
 have Ws : Hid (∀ w : World, Env w → Calls Tryz.prog 11 #[] w fun e w' => e = .returned (.bool true) ∧ Below w.heap.size w w') := fun w E => Ep w E
 obtain ⟨u, hu⟩ : ∃ u : U, u = ⟨s0.data.toList, s1.data.toList, s2.data.toList, s3.data.toList, b4, z5, b6, s7.data.toList, l, b9, b10, s11.data.toList, s12.data.toList⟩ := ⟨_, rfl⟩
 have hval : Value.agg #[.string s0, .string s1, .string s2, .string s3, .bool b4, .int .i64 z5, .bool b6, .string s7, .slice A n cap, .bool b9, .bool b10, .string s11, .string s12] = .agg #[.string (strOf u.aj), .string (strOf u.usr), .string (strOf u.dR), .string (strOf u.hst), .bool u.hh, .int .i64 u.port, .bool u.opq, .string (strOf u.txt), .slice A n cap, .bool u.hq, .bool u.hf, .string (strOf u.eF), .string (strOf u.fG)] := by subst hu; simp only [ay]
 obtain ⟨FB, YX⟩ : ∃ b, b = decide (Dp s0 s1 s2 s3 s7 s11 s12 l ≤ 1000 ∧ n ≤ 50) := ⟨_, rfl⟩
 have HFW : Hid (∀ w : World, Rs w A n u.aN → Calls Tryz.prog 12 #[.agg #[.string (strOf u.aj), .string (strOf u.usr), .string (strOf u.dR), .string (strOf u.hst), .bool u.hh, .int .i64 u.port, .bool u.opq, .string (strOf u.txt), .slice A n cap, .bool u.hq, .bool u.hf, .string (strOf u.eF), .string (strOf u.fG)]] w fun e w' => e = .returned (.bool FB) ∧ Below w.heap.size w w') := fun w h => by
  rw [← hval, YX]
  exact UrlD.Oh s0 s1 s2 s3 b4 z5 b6 s7 A n cap l b9 b10 s11 s12 w (by have := h.OW; rw [hu] at this; exact this) hnc hcm hs0 hs1 hs2 hs3 hs7 hs11 Ou hel
 have HR := hid (show Rs w A n u.aN from ⟨by rw [hu]; exact hR⟩)
 have hSH : FB = true → Sh u n cap := by
  intro h
  rw [YX, decide_eq_true_iff] at h
  have hn : l.length = n := by rw [← hR.1, List.length_map]
  have h1 := h.1
  unfold Dp at h1
  have h2 : (dD.aN l).length ≤ 2000 := by rw [dD.jE]; omega
  subst hu
  refine ⟨?_, hz.1, hz.2, hnc, hcm⟩
  ·show s0.data.toList.length + s1.data.toList.length + s2.data.toList.length + s3.data.toList.length + s7.data.toList.length + s11.data.toList.length + (dD.aN l).length ≤ 400000
   simp only [rC.dl]
   omega
 have hFR : FB = true → u.fG.length ≤ 400000 := by
  intro h
  rw [YX, decide_eq_true_iff] at h
  have h1 := h.1
  unfold Dp at h1
  subst hu
  show s12.data.toList.length ≤ 400000
  rw [rC.dl]
  omega
 have JW : Hid (∀ (A2 : Option Addr) (c : Nat) (w : World), Mp w xH A2 c → Calls Tryz.prog 18 #[.agg #[.string ⟨#[]⟩, .string ⟨#[]⟩, .slice A2 0 c], .agg #[.string ⟨#[]⟩, .string ⟨#[]⟩, .slice none 0 0]] w fun e w' => e = .returned (.bool true) ∧ Below w.heap.size w w') := fun A2 c w h => sameZ A2 c w h
 have HSH := hid hSH
 have HFR := hid hFR
 rw [hval]
 clear hval hu YX hSH hFR hT hL hM hU hR hs0 hs1 hs2 hs3 hs7 hs11 Ou hel hz hnc hcm
 cases FB with
 | false =>
  go_enter Tryz.func6, Tryz.ntmps6
  go_upto_region 1 with (fail)
  generalize gI : World.alloc _ _ = v1
  have hxa : UB v1 (w.heap.size) u (.slice A n cap) := by rw [← gI]; exact heap_alloc_new _ _
  have hb : Below w.heap.size w v1 := by rw [← gI]; exact (Below.refl _ _).alloc (Nat.le_refl _) _
  have X := hid hxa
  clear gI hxa
  have HB1 := hid hb
  have JU := hid (HE.out.below hb)
  have R_1 := hid (HR.out.below hb)
  clear hb
  go_wp2_with fail
  refine (Ws.out _ JU.out).mono ?_
  rintro e w2 ⟨rfl, hb⟩
  have HB2 := hid (bel HB1.out hb)
  have TN := hid (JU.out.below hb)
  have R_2 := hid (R_1.out.below hb)
  have X_2 := hid (X.out.below hb)
  clear hb
  obtain ⟨d0, d1, d2, d3, d4, d5, d6, d7, d8, d9, d10, d11, d12⟩ := X_2.out.facts
  go_wp2_with fail
  clear d0 d1 d2 d3 d4 d5 d6 d7 d8 d9 d10 d11 d12
  refine (HFW.out _ R_2.out).mono ?_
  rintro e w3 ⟨rfl, hb⟩
  have HB3 := hid (bel HB2.out hb)
  have MW := hid (TN.out.below hb)
  have R_3 := hid (R_2.out.below hb)
  have X_3 := hid (X_2.out.below hb)
  clear hb
  go_wp2_with fail
  refine (Ws.out _ MW.out).mono ?_
  rintro e w4 ⟨rfl, hb⟩
  have HB4 := hid (bel HB3.out hb)
  have Ya := hid (MW.out.below hb)
  have R_4 := hid (R_3.out.below hb)
  have X_4 := hid (X_3.out.below hb)
  clear hb
  go_wp2
  go_ret
  exact ⟨rfl, HB4.out⟩
 | true =>
  have hS := HSH.out rfl
  have HSh := hid hS
  have HFr := hid (HFR.out rfl)
  clear HSH hS HFR
  by_cases hs : u.aj = DATA
  ·
   have q1 : ((strOf u.aj).toList == [100, 97, 116, 97]) = true := by rw [rC.aK, hs]; rfl
   have q2 : (strOf u.aj).toList = [100, 97, 116, 97] := by rw [rC.aK, hs]; rfl
   obtain ⟨M, B, hMB⟩ : ∃ M B, tH u = (M, B) := ⟨_, _, rfl⟩
   obtain ⟨er, her⟩ : ∃ x, x = AY u := ⟨_, rfl⟩
   have J3 : Hid (∀ w : World, Rs w A n u.aN → Env w → Calls Tryz.prog 13 #[.agg #[.string (strOf u.aj), .string (strOf u.usr), .string (strOf u.dR), .string (strOf u.hst), .bool u.hh, .int .i64 u.port, .bool u.opq, .string (strOf u.txt), .slice A n cap, .bool u.hq, .bool u.hf, .string (strOf u.eF), .string (strOf u.fG)]] w fun e w' => (∃ A1 c1 A2 c2, e = .returned (.tuple #[.agg #[.string (strOf M.ty), .string (strOf M.sub), .slice A1 M.ps.length c1], .slice A2 B.length c2, .int .i64 er]) ∧ Mp w' M A1 c1 ∧ Bp w' B A2 c2) ∧ Below w.heap.size w w') := fun w hR E => by
    have k := qA HSh.out w hR E
    rw [hMB, ← her] at k
    exact k
   have HPN : Hid (∀ w : World, Rs w A n u.aN → Calls Tryz.prog 21 #[.agg #[.string (strOf u.aj), .string (strOf u.usr), .string (strOf u.dR), .string (strOf u.hst), .bool u.hh, .int .i64 u.port, .bool u.opq, .string (strOf u.txt), .slice A n cap, .bool u.hq, .bool u.hf, .string (strOf u.eF), .string (strOf u.fG)], .bool false] w fun e w' => e = .returned (.string (strOf (lU u))) ∧ Below w.heap.size w w') := fun w hR => Jj HSh.out HFr.out w hR
   obtain ⟨S, hS⟩ : ∃ S, S = strOf (lU u) := ⟨_, rfl⟩
   rw [← hS] at HPN
   have hSd : S.data.toList = lU u := by rw [hS]; rfl
   have hSl : S.size ≤ 500000 := by
    rw [hS, ah]
    have h2 := CU HSh.out.all HSh.out.lo HSh.out.hi
    omega
   have HEC : Hid (er = 0 ∨ er = 2) := by show _ ∨ _; rw [her]; exact YM u hs
   have oD : Hid ((∀ c ∈ S.data.toList, c ≠ 44) → er = 2 ∧ M = xH ∧ B = []) := by
    show _ → _
    intro h
    rw [hSd] at h
    obtain ⟨e1, e2⟩ := abP hs h
    rw [hMB] at e2
    injection e2 with e3 e4
    exact ⟨by rw [her, e1], e3, e4⟩
   clear hMB her hS hSd hs HSh HFr
   go_enter Tryz.func6, Tryz.ntmps6
   go_upto_region 1 with (fail)
   generalize gI : World.alloc _ _ = v1
   have hxa : UB v1 (w.heap.size) u (.slice A n cap) := by rw [← gI]; exact heap_alloc_new _ _
   have hb : Below w.heap.size w v1 := by rw [← gI]; exact (Below.refl _ _).alloc (Nat.le_refl _) _
   have X := hid hxa
   clear gI hxa
   have HB1 := hid hb
   have JU := hid (HE.out.below hb)
   have R_1 := hid (HR.out.below hb)
   clear hb
   go_wp2_with fail
   refine (Ws.out _ JU.out).mono ?_
   rintro e w2 ⟨rfl, hb⟩
   have HB2 := hid (bel HB1.out hb)
   have TN := hid (JU.out.below hb)
   have R_2 := hid (R_1.out.below hb)
   have X_2 := hid (X.out.below hb)
   clear hb
   obtain ⟨d0, d1, d2, d3, d4, d5, d6, d7, d8, d9, d10, d11, d12⟩ := X_2.out.facts
   go_wp2_with fail
   clear d0 d1 d2 d3 d4 d5 d6 d7 d8 d9 d10 d11 d12
   refine (HFW.out _ R_2.out).mono ?_
   rintro e w3 ⟨rfl, hb⟩
   have HB3 := hid (bel HB2.out hb)
   have MW := hid (TN.out.below hb)
   have R_3 := hid (R_2.out.below hb)
   have X_3 := hid (X_2.out.below hb)
   clear hb
   obtain ⟨d0, d1, d2, d3, d4, d5, d6, d7, d8, d9, d10, d11, d12⟩ := X_3.out.facts
   go_wp2_with fail
   clear d0 d1 d2 d3 d4 d5 d6 d7 d8 d9 d10 d11 d12
   refine (J3.out _ R_3.out MW.out).mono ?_
   rintro e w4 ⟨⟨A1, c1, A2, c2, rfl, hmp, hbp⟩, hb⟩
   have HB4 := hid (bel HB3.out hb)
   have Ya := hid (MW.out.below hb)
   have R_4 := hid (R_3.out.below hb)
   have X_4 := hid (X_3.out.below hb)
   clear hb
   have M1 := hid (hmp)
   have B2 := hid (hbp)
   clear hmp hbp
   go_upto_region 4 with (fail)
   generalize gI : World.alloc _ _ = v5
   have hxa : B3 29 v5 (w4.heap.size) (.string (strOf M.ty)) (.string (strOf M.sub)) (.slice A1 M.ps.length c1) := by rw [← gI]; exact heap_alloc_new _ _
   have hb : Below w4.heap.size w4 v5 := by rw [← gI]; exact (Below.refl _ _).alloc (Nat.le_refl _) _
   have X3 := hid hxa
   clear gI hxa
   have mO := hid (bel HB4.out hb)
   have E_5 := hid (Ya.out.below hb)
   have R_5 := hid (R_4.out.below hb)
   have X_5 := hid (X_4.out.below hb)
   have Yj := hid (M1.out.below hb)
   have B2_5 := hid (B2.out.below hb)
   clear hb
   obtain ⟨d0, d1, d2, d3, d4, d5, d6, d7, d8, d9, d10, d11, d12⟩ := X_5.out.facts
   go_wp2_with fail
   clear q1 q2
   clear d0 d1 d2 d3 d4 d5 d6 d7 d8 d9 d10 d11 d12
   refine (HPN.out _ R_5.out).mono ?_
   rintro e wz ⟨rfl, hb⟩
   have sW := hid (bel mO.out hb)
   have E_6 := hid (E_5.out.below hb)
   have R_6 := hid (R_5.out.below hb)
   have X_6 := hid (X_5.out.below hb)
   have M1_6 := hid (Yj.out.below hb)
   have B2_6 := hid (B2_5.out.below hb)
   have aa1 := hid (X3.out.below hb)
   clear hb
   clear J3 HPN Ws HFW HR HE
   go_wp2
   go_loopw [7, 41] (fun _ vk wr => ∃ k : Nat, k ≤ S.size ∧ vk = .int .i64 (k : Int) ∧ wr = wz ∧ Hid (∀ c ∈ S.data.toList.take k, c ≠ 44)) (fun _ vk _ => S.size - (intOf vk).toNat)
   case atStart => exact ⟨0, Nat.zero_le _, rfl, rfl, fun c hc => by simp at hc⟩
   case round =>
    obtain ⟨k, hk, rfl, rfl, HN⟩ := hrel
    by_cases hlt : k < S.size
    ·
     obtain ⟨c, hc⟩ : ∃ c, S[k] = c := ⟨_, rfl⟩
     have hki : (k : Int) < (S.size : Int) := by omega
     have hkl : k < S.data.toList.length := by rw [rC.dl]; exact hlt
     have hcl : S.data.toList[k] = c := hc
     by_cases h44 : c = 44
     ·
      have v1 : ((c.toNat : Int) == 44) = true := by rw [h44]; rfl
      have v2 : (c.toNat : Int) = 44 := by rw [h44]; rfl
      clear hkl hcl h44 HN
      rcases HEC.out with he | he
      ·subst he
       clear HEC oD
       go_wp2
       go_ret
       exact ⟨rfl, sW.out⟩
      ·subst he
       clear HEC oD
       go_wp2
       go_ret
       exact ⟨rfl, sW.out⟩
     ·
      have v1 : ((c.toNat : Int) == 44) = false := by rw [beq_eq_false_iff_ne]; exact fun e => h44 (UInt8.toNat_inj.1 (by show _ = 44; omega))
      have v2 : ¬ (c.toNat : Int) = 44 := fun e => h44 (UInt8.toNat_inj.1 (by show _ = 44; omega))
      have xk : Hid (∀ d ∈ S.data.toList.take (k + 1), d ≠ 44) := by
       show ∀ d ∈ _, _
       intro d hd
       rw [List.take_succ_eq_append_getElem hkl, hcl] at hd
       rcases List.mem_append.1 hd with hd | hd
       ·exact HN.out d hd
       ·rw [List.mem_singleton.1 hd]; exact h44
      clear hkl hcl h44
      go_wp2
      go_roundw
      case rel => exact ⟨k + 1, by omega, by go_num, by first | rfl | trivial, xk⟩
      case measure => simp [intOf]; omega
    ·
     obtain rfl : k = S.size := by omega
     have hall : ∀ c ∈ S.data.toList, c ≠ 44 := fun c hc => HN.out c (by rw [List.take_of_length_le (by rw [rC.dl]; exact Nat.le_refl _)]; exact hc)
     obtain ⟨h1, h2, h3⟩ := oD.out hall
     subst h1 h2 h3
     clear hall HN oD HEC
     obtain ⟨m0, m1, m2⟩ := aa1.out.facts
     replace m0 : _ = some (Value.string ⟨#[]⟩) := m0
     replace m1 : _ = some (Value.string ⟨#[]⟩) := m1
     replace m2 : _ = some (Value.slice A1 0 c1) := m2
     go_wp2_with fail
     clear m0 m1 m2
     refine (JW.out _ _ _ M1_6.out).mono ?_
     rintro e wy ⟨rfl, hb⟩
     go_wp2
     go_ret
     exact ⟨rfl, bel sW.out hb⟩
  ·
   have q1 : ((strOf u.aj).toList == [100, 97, 116, 97]) = false := by rw [rC.aK, beq_eq_false_iff_ne]; exact hs
   have q2 : ¬ (strOf u.aj).toList = [100, 97, 116, 97] := by rw [rC.aK]; exact hs
   have J3 : Hid (∀ w : World, Rs w A n u.aN → Env w → Calls Tryz.prog 13 #[.agg #[.string (strOf u.aj), .string (strOf u.usr), .string (strOf u.dR), .string (strOf u.hst), .bool u.hh, .int .i64 u.port, .bool u.opq, .string (strOf u.txt), .slice A n cap, .bool u.hq, .bool u.hf, .string (strOf u.eF), .string (strOf u.fG)]] w fun e w' => (∃ A1 c1 A2 c2, e = .returned (.tuple #[.agg #[.string ⟨#[]⟩, .string ⟨#[]⟩, .slice A1 0 c1], .slice A2 0 c2, .int .i64 1]) ∧ Mp w' xH A1 c1 ∧ Bp w' [] A2 c2) ∧ Below w.heap.size w w') := fun w hR E => by
    have k := qA HSh.out w hR E
    have e1 : tH u = (xH, []) := by unfold tH ans; rw [if_neg hs]
    have e2 : AY u = 1 := by unfold AY err; rw [if_neg hs]
    rw [e1, e2] at k
    exact k
   clear hs HSh HFr
   go_enter Tryz.func6, Tryz.ntmps6
   go_upto_region 1 with (fail)
   generalize gI : World.alloc _ _ = v1
   have hxa : UB v1 (w.heap.size) u (.slice A n cap) := by rw [← gI]; exact heap_alloc_new _ _
   have hb : Below w.heap.size w v1 := by rw [← gI]; exact (Below.refl _ _).alloc (Nat.le_refl _) _
   have X := hid hxa
   clear gI hxa
   have HB1 := hid hb
   have JU := hid (HE.out.below hb)
   have R_1 := hid (HR.out.below hb)
   clear hb
   go_wp2_with fail
   refine (Ws.out _ JU.out).mono ?_
   rintro e w2 ⟨rfl, hb⟩
   have HB2 := hid (bel HB1.out hb)
   have TN := hid (JU.out.below hb)
   have R_2 := hid (R_1.out.below hb)
   have X_2 := hid (X.out.below hb)
   clear hb
   obtain ⟨d0, d1, d2, d3, d4, d5, d6, d7, d8, d9, d10, d11, d12⟩ := X_2.out.facts
   go_wp2_with fail
   clear d0 d1 d2 d3 d4 d5 d6 d7 d8 d9 d10 d11 d12
   refine (HFW.out _ R_2.out).mono ?_
   rintro e w3 ⟨rfl, hb⟩
   have HB3 := hid (bel HB2.out hb)
   have MW := hid (TN.out.below hb)
   have R_3 := hid (R_2.out.below hb)
   have X_3 := hid (X_2.out.below hb)
   clear hb
   obtain ⟨d0, d1, d2, d3, d4, d5, d6, d7, d8, d9, d10, d11, d12⟩ := X_3.out.facts
   go_wp2_with fail
   clear d0 d1 d2 d3 d4 d5 d6 d7 d8 d9 d10 d11 d12
   refine (J3.out _ R_3.out MW.out).mono ?_
   rintro e w4 ⟨⟨A1, c1, A2, c2, rfl, hmp, hbp⟩, hb⟩
   have HB4 := hid (bel HB3.out hb)
   have Ya := hid (MW.out.below hb)
   have R_4 := hid (R_3.out.below hb)
   have X_4 := hid (X_3.out.below hb)
   clear hb
   have M1 := hid (hmp)
   clear hmp hbp
   go_upto_region 4 with (fail)
   generalize gI : World.alloc _ _ = v5
   have hxa : B3 29 v5 (w4.heap.size) (.string ⟨#[]⟩) (.string ⟨#[]⟩) (.slice A1 0 c1) := by rw [← gI]; exact heap_alloc_new _ _
   have hb : Below w4.heap.size w4 v5 := by rw [← gI]; exact (Below.refl _ _).alloc (Nat.le_refl _) _
   have X3 := hid hxa
   clear gI hxa
   have mO := hid (bel HB4.out hb)
   have E_5 := hid (Ya.out.below hb)
   have R_5 := hid (R_4.out.below hb)
   have X_5 := hid (X_4.out.below hb)
   have Yj := hid (M1.out.below hb)
   clear hb
   obtain ⟨d0, d1, d2, d3, d4, d5, d6, d7, d8, d9, d10, d11, d12⟩ := X_5.out.facts
   obtain ⟨m0, m1, m2⟩ := X3.out.facts
   go_wp2_with fail
   clear m0 m1 m2 q1 q2 d0 d1 d2 d3 d4 d5 d6 d7 d8 d9 d10 d11 d12
   refine (JW.out _ _ _ Yj.out).mono ?_
   rintro e wz ⟨rfl, hb⟩
   have sW := hid (bel mO.out hb)
   have E_6 := hid (E_5.out.below hb)
   have R_6 := hid (R_5.out.below hb)
   have X_6 := hid (X_5.out.below hb)
   have M1_6 := hid (Yj.out.below hb)
   have aa1 := hid (X3.out.below hb)
   clear hb
   go_wp2
   go_ret
   exact ⟨rfl, sW.out⟩
end Go.Proofs.YtcfgioklgmlclaaGreatDoor.Laws
