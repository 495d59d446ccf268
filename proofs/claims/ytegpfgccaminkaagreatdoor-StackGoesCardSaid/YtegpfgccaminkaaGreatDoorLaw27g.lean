/- The law StackGoes. -/
import Derived.Test.YtegpfgccaminkaaGreatDoorUAS
set_option linter.unusedSimpArgs false
set_option linter.unusedVariables false
namespace Go.Proofs.YtegpfgccaminkaaGreatDoor.Laws
open Go.RowKit Go.Proofs.YtegpfgccaminkaaGreatDoor.Base Go.Proofs.YtegpfgccaminkaaGreatDoor.Base2 Go.Proofs.YtegpfgccaminkaaGreatDoor.Regs Go.Proofs.YtegpfgccaminkaaGreatDoor.UtfL Go.Proofs.YtegpfgccaminkaaGreatDoor.BlobA Go.Proofs.YtegpfgccaminkaaGreatDoor.BlobK Go.Proofs.YtegpfgccaminkaaGreatDoor.OrgA Go.Proofs.YtegpfgccaminkaaGreatDoor.OrgP Go.Proofs.YtegpfgccaminkaaGreatDoor.Ubx Go.Proofs.YtegpfgccaminkaaGreatDoor.PrsP Go.Proofs.YtegpfgccaminkaaGreatDoor.PrsC Go.Proofs.YtegpfgccaminkaaGreatDoor.PrsG Go.Proofs.YtegpfgccaminkaaGreatDoor.HstC Go.Proofs.YtegpfgccaminkaaGreatDoor.Spl Go.Proofs.YtegpfgccaminkaaGreatDoor.LdA Go.Proofs.YtegpfgccaminkaaGreatDoor.OpqD Go.Proofs.YtegpfgccaminkaaGreatDoor.IdnA Go.Proofs.YtegpfgccaminkaaGreatDoor.StoG Go.Proofs.YtegpfgccaminkaaGreatDoor.StoR Go.Proofs.YtegpfgccaminkaaGreatDoor.FetB Go.Proofs.YtegpfgccaminkaaGreatDoor.StkG Go.Proofs.YtegpfgccaminkaaGreatDoor.StkA Go.Proofs.YtegpfgccaminkaaGreatDoor.StkB Go.Proofs.YtegpfgccaminkaaGreatDoor.StkC Go.Proofs.YtegpfgccaminkaaGreatDoor.StkF Go.Proofs.YtegpfgccaminkaaGreatDoor.StkH Go.Proofs.YtegpfgccaminkaaGreatDoor.StkI
open Go.Proofs.YtegpfgccaminkaaGreatDoor.StoB (ob_load arr_load)
set_option linter.unusedSimpArgs false
set_option linter.unusedVariables false
def gm1 (g : Nat) (L KD : List UInt8) : SM := more (nil0 100 1 2) g L KD
def gm2 (g : Nat) (L KD : List UInt8) (f : Nat → UInt8) (nc : Int) : SM := regd (gm1 g L KD) (nameT f) ⟨strOf (nameT f), ⟨#[]⟩, ⟨#[]⟩, 0, nc, g⟩
def gm3 (g : Nat) (L KD : List UInt8) (f : Nat → UInt8) (nc : Int) : SM := { gm2 g L KD f nc with tbl := [] }
def gm4 (g : Nat) (L KD : List UInt8) (f : Nat → UInt8) (nc : Int) : SM := { gm3 g L KD f nc with P := [] }
def gm5 (g : Nat) (L KD : List UInt8) (f : Nat → UInt8) (nc : Int) : SM := told (without (gm4 g L KD f nc) 0) (nameT f)
def gm6 (g : Nat) (L KD : List UInt8) (f : Nat → UInt8) (nc : Int) : SM := { gm5 g L KD f nc with U := [] }
theorem gm_x (g : Nat) (L KD : List UInt8) (f : Nat → UInt8) (nc : Int) (h : 0 < (gm3 g L KD f nc).urls.length) : ((gm3 g L KD f nc).urls[0]'h).x = g := rfl
theorem gm_bl (g : Nat) (L KD : List UInt8) (f : Nat → UInt8) (nc : Int) : (gm3 g L KD f nc).bl g = (L, KD) := if_pos rfl
set_option maxRecDepth 100000 in
set_option maxHeartbeats 16000000 in
theorem StackGoes_any (A : Option Addr) (n cap : Nat) (L : List UInt8) (kind : ByteArray) (z : Nat → Int) (nc : Int) (w : World) (hr : Rds w A n (bcells L)) (_hc : n ≤ cap) (_hm : cap * 1 ≤ 140737488351232) (hk : kind.size ≤ 140737488351232) (hz : ∀ i, i < 16 → 0 ≤ z i ∧ z i ≤ 255) (_hnc : -9223372036854775808 ≤ nc ∧ nc ≤ 9223372036854775807) (hT : Tab.Pow w) (hM : Max w) (hU : Utab w) :
    Calls Tryz.prog 5 #[.slice A n cap, .string kind, .agg #[.int .u8 (z 0), .int .u8 (z 1), .int .u8 (z 2), .int .u8 (z 3), .int .u8 (z 4), .int .u8 (z 5), .int .u8 (z 6), .int .u8 (z 7), .int .u8 (z 8), .int .u8 (z 9), .int .u8 (z 10), .int .u8 (z 11), .int .u8 (z 12), .int .u8 (z 13), .int .u8 (z 14), .int .u8 (z 15)], .int .i64 nc] w fun e w' => e = .returned (.bool true) ∧ Below w.heap.size w w' := by
  have HE : Hid (EnvO w) := ⟨hT, hM, hU⟩
  have HP : Hid (PosW.Env w) := ⟨hT, hM⟩
  have HR0 := hid hr
  obtain ⟨f, hf⟩ : ∃ f : Nat → UInt8, ∀ i, i < 16 → z i = ((f i).toNat : Int) := ⟨fun i => UInt8.ofNat (z i).toNat, fun i hi => by have := hz i hi; simp; omega⟩
  have HRV : Hid (Value.agg #[.int .u8 (z 0), .int .u8 (z 1), .int .u8 (z 2), .int .u8 (z 3), .int .u8 (z 4), .int .u8 (z 5), .int .u8 (z 6), .int .u8 (z 7), .int .u8 (z 8), .int .u8 (z 9), .int .u8 (z 10), .int .u8 (z 11), .int .u8 (z 12), .int .u8 (z 13), .int .u8 (z 14), .int .u8 (z 15)] = .agg (rv f)) := by
    show _ = _
    rw [hf 0 (by decide), hf 1 (by decide), hf 2 (by decide), hf 3 (by decide), hf 4 (by decide), hf 5 (by decide), hf 6 (by decide), hf 7 (by decide), hf 8 (by decide), hf 9 (by decide), hf 10 (by decide), hf 11 (by decide), hf 12 (by decide), hf 13 (by decide), hf 14 (by decide), hf 15 (by decide)]
    rfl
  rw [HRV.out]
  obtain ⟨RV, hRV⟩ : ∃ x, x = rv f := ⟨_, rfl⟩
  have HRVS : Hid (RV.size = 16) := by rw [hRV]; rfl
  rw [← hRV]
  have hln : L.length = n := by rw [← length_bcells]; exact hr.1
  clear hT hM hU _hc _hm hz _hnc hf HRV hr
  by_cases hl : n ≤ 100 ∧ kind.size ≤ 100
  case neg =>
    clear hRV HRVS hln
    go_enter Tryz.func5, Tryz.ntmps5
    go_wp2_with fail
    have hb := (Below.refl w.heap.size w).alloc (Nat.le_refl _) (.cells RV 33)
    refine (awake27 _ (HP.out.below hb)).mono ?_
    rintro e w1 ⟨rfl, hb1⟩
    have HB1 := hid (bel hb hb1)
    clear hb hb1
    by_cases hn : n ≤ 100
    · have h1 : ¬ (100 : Int) < (n : Int) := by omega
      have h2 : (100 : Int) < (kind.size : Int) := by omega
      clear hl hn hk
      go_wp2_with fail
      refine (awake27 _ (HP.out.below HB1.out)).mono ?_
      rintro e w2 ⟨rfl, hb2⟩
      have HB2 := hid (bel HB1.out hb2)
      clear hb2
      go_wp2
      go_ret
      exact ⟨rfl, HB2.out⟩
    · have h1 : (100 : Int) < (n : Int) := by omega
      clear hl hn hk
      go_wp2_with fail
      refine (awake27 _ (HP.out.below HB1.out)).mono ?_
      rintro e w2 ⟨rfl, hb2⟩
      have HB2 := hid (bel HB1.out hb2)
      clear hb2
      go_wp2
      go_ret
      exact ⟨rfl, HB2.out⟩
  have HN : Hid (n ≤ 100) := hl.1
  have HKS : Hid (kind.size ≤ 100) := hl.2
  have h1 : ¬ (100 : Int) < (n : Int) := by have := hl.1; omega
  have h2 : ¬ (100 : Int) < (kind.size : Int) := by have := hl.2; omega
  have HLN := hid hln
  obtain ⟨KD, hKD⟩ : ∃ x, x = kd kind.data.toList := ⟨_, rfl⟩
  have HKD := hid hKD
  obtain ⟨T, hTT⟩ : ∃ x, x = nameT f := ⟨_, rfl⟩
  have HTT := hid hTT
  have HTL : Hid (T.length ≤ 100) := by rw [hTT]; exact nameT_len f
  have HRV := hid hRV
  clear hl hk hln hKD hTT hRV
  go_enter Tryz.func5, Tryz.ntmps5
  go_upto_region 1 with (fail)
  generalize hwa : World.alloc w _ = v1
  have h1_ : v1.heap[w.heap.size]? = some (.cells RV 33 (0, 0)) ∧ Below w.heap.size w v1 := by
    subst hwa
    exact ⟨heap_alloc_new w _, (Below.refl _ _).alloc (Nat.le_refl _) _⟩
  clear hwa
  obtain ⟨gR, hgR⟩ : ∃ x, x = w.heap.size := ⟨_, rfl⟩
  have XA1 : Hid (v1.heap[gR]? = some (.cells RV 33 (0, 0))) := by rw [hgR]; exact h1_.1
  have HB1 := hid h1_.2
  rw [← hgR]
  clear h1_ hgR
  go_wp2_with fail
  refine (awake27 _ (HP.out.below HB1.out)).mono ?_
  rintro e w2 ⟨rfl, hb2⟩
  have XA2 : Hid (w2.heap[gR]? = some (.cells RV 33 (0, 0))) := (hb2.block _ (Array.getElem?_eq_some_iff.1 XA1.out).1).trans XA1.out
  have HB2 := hid (bel HB1.out hb2)
  clear hb2 XA1 HB1
  go_wp2_with fail
  refine (new_ok 1 2 100 (by decide) (by decide) (by decide) (by decide) (by decide) _).mono ?_
  rintro e w3 ⟨gs, gt, gu, gm, rfl, hK, hb3⟩
  have HK3 := hid hK
  have XA3 : Hid (w3.heap[gR]? = some (.cells RV 33 (0, 0))) := (hb3.block _ (Array.getElem?_eq_some_iff.1 XA2.out).1).trans XA2.out
  have HB3 := hid (bel HB2.out hb3)
  obtain ⟨B, hB⟩ : ∃ x, x = w2.heap.size := ⟨_, rfl⟩
  rw [← hB] at HK3
  have HWB : Hid (w.heap.size ≤ B) := by rw [hB]; exact HB2.out.size
  clear hK hb3 XA2 HB2 hB
  go_upto_region 5 with (fail)
  generalize hwa : World.alloc w3 _ = v4
  have h4_ : OB v4 w3.heap.size ⟨#[]⟩ ⟨#[]⟩ 0 nc ∧ Below w3.heap.size w3 v4 := by
    subst hwa
    exact laid1 w3 _ _
  clear hwa
  obtain ⟨gO, hgO⟩ : ∃ x, x = w3.heap.size := ⟨_, rfl⟩
  have XO4 : Hid (OB v4 gO ⟨#[]⟩ ⟨#[]⟩ 0 nc) := by rw [hgO]; exact h4_.1
  have HK4 := hid (HK3.out.below h4_.2)
  have XA4 : Hid (v4.heap[gR]? = some (.cells RV 33 (0, 0))) := (h4_.2.block _ (Array.getElem?_eq_some_iff.1 XA3.out).1).trans XA3.out
  have HB4 := hid (bel HB3.out h4_.2)
  rw [← hgO]
  clear h4_ hgO HK3 XA3 HB3
  go_wp2_with fail
  refine (create_ok B gs gt gu gm (nil0 100 1 2) A n cap L kind _ HK4.out (HR0.out.below HB4.out) (by have := HN.out; omega) (by have := HKS.out; unfold maxLen; omega) (by have := HN.out; show total (nil0 100 1 2) + n ≤ 100; rw [show total (nil0 100 1 2) = 0 from rfl]; omega) (by decide) (by decide)).mono ?_
  rw [← HKD.out]
  rintro e w5 ⟨g, rfl, _, hK, hb5, hks5⟩
  have HK5 : Hid (IsK B gs gt gu gm (gm1 g L KD) w5) := hK
  have XO5 : Hid (OB w5 gO ⟨#[]⟩ ⟨#[]⟩ 0 nc) := hks5 _ _ _ _ XO4.out (by decide) (by decide) (by decide) (by decide)
  have XA5 : Hid (w5.heap[gR]? = some (.cells RV 33 (0, 0))) := hks5 _ _ _ _ XA4.out (by decide) (by decide) (by decide) (by decide)
  have HB5 : Hid (Below w.heap.size w w5) := HB4.out.trans (hb5.mono HWB.out)
  clear hK hb5 hks5 HK4 XO4 XA4 HB4
  rw [show (((nil0 100 1 2).last : Nat) : Int) + 1 = 1 from rfl]
  have HLE := hid (ob_load XO5.out)
  have HLA := hid (arr_load HRVS.out XA5.out)
  have hreg := register_null B gs gt gu gm (gm1 g L KD) ⟨#[]⟩ 0 nc 1 0 f w5 HK5.out rfl (by show 0 < 1; omega) (by show 0 < 2; omega) rfl
  rw [← HRV.out, ← HTT.out] at hreg
  have HRG := hid hreg
  clear hreg
  go_wp2_with (first | refine load_as HLE.out (.tmp 11) rfl rfl rfl ?_ | refine load_as HLA.out (.tmp 6) rfl rfl rfl ?_)
  refine HRG.out.mono ?_
  rintro e w6 ⟨rfl, hK, hb6, hks6⟩
  have HK6 : Hid (IsK B gs gt gu gm (gm2 g L KD f nc) w6) := by show IsK _ _ _ _ _ _ _; unfold gm2; rw [← HTT.out]; exact hK
  have XO6 : Hid (OB w6 gO ⟨#[]⟩ ⟨#[]⟩ 0 nc) := hks6 _ _ _ _ XO5.out (by decide) (by decide) (by decide) (by decide)
  have XA6 : Hid (w6.heap[gR]? = some (.cells RV 33 (0, 0))) := hks6 _ _ _ _ XA5.out (by decide) (by decide) (by decide) (by decide)
  have HB6 : Hid (Below w.heap.size w w6) := HB5.out.trans (hb6.mono HWB.out)
  clear hK hb6 hks6 HK5 XO5 XA5 HB5 HLE HLA HRG
  go_wp2_with fail
  refine (forget_yes B gs gt gu gm (gm2 g L KD f nc) 1 0 _ HK6.out rfl).mono ?_
  rintro e w7 ⟨rfl, hK, hb7, hks7⟩
  have HK7 : Hid (IsK B gs gt gu gm (gm3 g L KD f nc) w7) := hK
  have XO7 : Hid (OB w7 gO ⟨#[]⟩ ⟨#[]⟩ 0 nc) := hks7 _ _ _ _ XO6.out (by decide) (by decide) (by decide) (by decide)
  have XA7 : Hid (w7.heap[gR]? = some (.cells RV 33 (0, 0))) := hks7 _ _ _ _ XA6.out (by decide) (by decide) (by decide) (by decide)
  have HB7 : Hid (Below w.heap.size w w7) := HB6.out.trans (hb7.mono HWB.out)
  clear hK hb7 hks7 HK6 XO6 XA6 HB6
  go_wp2_with fail
  refine (forget_no B gs gt gu gm (gm3 g L KD f nc) 1 _ HK7.out rfl).mono ?_
  rintro e w8 ⟨rfl, hK, hb8, hks8⟩
  have HK8 : Hid (IsK B gs gt gu gm (gm3 g L KD f nc) w8) := hK
  have XO8 : Hid (OB w8 gO ⟨#[]⟩ ⟨#[]⟩ 0 nc) := hks8 _ _ _ _ XO7.out (by decide) (by decide) (by decide) (by decide)
  have XA8 : Hid (w8.heap[gR]? = some (.cells RV 33 (0, 0))) := hks8 _ _ _ _ XA7.out (by decide) (by decide) (by decide) (by decide)
  have HB8 : Hid (Below w.heap.size w w8) := HB7.out.trans (hb8.mono HWB.out)
  clear hK hb8 hks8 HK7 XO7 XA7 HB7
  go_wp2_with fail
  refine (bytes_any B gs gt gu gm _ _ HK8.out).mono ?_
  rw [show total (gm3 g L KD f nc) = 0 from rfl]
  rintro e w9 ⟨rfl, hb9⟩
  have HK9 := hid (HK8.out.below hb9)
  have XO9 := hid (OB.below XO8.out hb9)
  have XA9 : Hid (w9.heap[gR]? = some (.cells RV 33 (0, 0))) := (hb9.block _ (Array.getElem?_eq_some_iff.1 XA8.out).1).trans XA8.out
  have HB9 := hid (bel HB8.out hb9)
  clear hb9 HK8 XO8 XA8 HB8
  have HLE := hid (ob_load XO9.out)
  have hft := sf_whole B gs gt gu gm (gm3 g L KD f nc) (nameT f) f false [] (by decide) ⟨#[]⟩ ⟨#[]⟩ 0 nc 0 w9 HK9.out (HE.out.below HB9.out) (par_n f w9 (HE.out.below HB9.out)) (by show 0 < 1; omega) (idx_one _) (has_one _) (by rw [gm_x, gm_bl, HLN.out]; have := HN.out; omega)
  rw [gm_x, gm_bl, HLN.out, ← HTT.out] at hft
  have HFT := hid hft
  clear hft
  go_wp2_with (refine load_as HLE.out (.tmp 11) rfl rfl rfl ?_)
  refine HFT.out.mono ?_
  rintro e w10 ⟨cs, rfl, hb10, A', n', c', rfl, hown⟩
  have HK10 := hid (HK9.out.below hb10)
  have XO10 := hid (OB.below XO9.out hb10)
  have XA10 : Hid (w10.heap[gR]? = some (.cells RV 33 (0, 0))) := (hb10.block _ (Array.getElem?_eq_some_iff.1 XA9.out).1).trans XA9.out
  have HB10 := hid (bel HB9.out hb10)
  have HO10 := hid hown
  clear hb10 hown HK9 XO9 XA9 HB9 HLE HFT
  go_upto_region 10 with (fail)
  generalize hwa : World.alloc w10 _ = v11
  have h11 : AB v11 w10.heap.size #[.int .i64 1, .int .i64 200, .int .i64 0, .int .i64 (n : Int), .string (strOf KD), .slice A' n' c'] ∧ Below w10.heap.size w10 v11 := by
    subst hwa
    exact laid1 w10 _ _
  clear hwa
  obtain ⟨gA, hgA⟩ : ∃ x, x = w10.heap.size := ⟨_, rfl⟩
  have XB11 : Hid (AB v11 gA #[.int .i64 1, .int .i64 200, .int .i64 0, .int .i64 (n : Int), .string (strOf KD), .slice A' n' c']) := by rw [hgA]; exact h11.1
  have HK11 := hid (HK10.out.below h11.2)
  have XO11 := hid (OB.below XO10.out h11.2)
  have XA11 : Hid (v11.heap[gR]? = some (.cells RV 33 (0, 0))) := (h11.2.block _ (Array.getElem?_eq_some_iff.1 XA10.out).1).trans XA10.out
  have HB11 := hid (bel HB10.out h11.2)
  have HO11 := hid (owns_below HO10.out h11.2)
  rw [← hgA]
  clear h11 hgA HK10 XO10 XA10 HB10 HO10
  have HLE := hid (ob_load XO11.out)
  have HLA := hid (arr_load HRVS.out XA11.out)
  go_wp2_with (first | refine load_as HLE.out (.tmp 11) rfl rfl rfl ?_ | refine load_as HLA.out (.tmp 6) rfl rfl rfl ?_)
  refine (register_none B gs gt gu gm (gm3 g L KD f nc) ⟨#[]⟩ ⟨#[]⟩ 0 nc 1 RV _ HK11.out rfl).mono ?_
  rintro e w12 ⟨rfl, hb12⟩
  have HK12 := hid (HK11.out.below hb12)
  have XO12 := hid (OB.below XO11.out hb12)
  have XB12 := hid (XB11.out.below hb12)
  have HB12 := hid (bel HB11.out hb12)
  have HO12 := hid (owns_below HO11.out hb12)
  clear hb12 HK11 XO11 XA11 XB11 HB11 HO11 HLE HLA
  go_wp2_with fail
  refine (notice_p B gs gt gu gm (gm3 g L KD f nc) (strOf (43 :: nameT f)) [] rfl rfl _ HK12.out).mono ?_
  rw [← HTT.out]
  rintro e w13 ⟨rfl, hK, hb13, hks13⟩
  have HK13 : Hid (IsK B gs gt gu gm (gm4 g L KD f nc) w13) := hK
  have XO13 : Hid (OB w13 gO ⟨#[]⟩ ⟨#[]⟩ 0 nc) := hks13 _ _ _ _ XO12.out (by decide) (by decide) (by decide) (by decide)
  have XB13 : Hid (AB w13 gA #[.int .i64 1, .int .i64 200, .int .i64 0, .int .i64 (n : Int), .string (strOf KD), .slice A' n' c']) := hks13 _ _ _ _ XB12.out (by decide) (by decide) (by decide) (by decide)
  have HB13 : Hid (Below w.heap.size w w13) := HB12.out.trans (hb13.mono HWB.out)
  have HO13 := hid (owns_ks hks13 HO12.out)
  clear hK hb13 hks13 HK12 XO12 XB12 HB12 HO12
  go_upto_region 12 with (fail)
  obtain ⟨a0, a1, a2, a3, a4, a5⟩ := XB13.out.facts
  have hs1 := run_string_of (P := Tryz.prog) 39 9 5 Tryz.underlying39 Tryz.underlying5 Tryz.underlying9 L c' (own_form HO13.out).2.2
  have hs2 := run_string_of (P := Tryz.prog) 39 9 5 Tryz.underlying39 Tryz.underlying5 Tryz.underlying9 L cap (HR0.out.below HB13.out)
  have hadd : (Op.stringOp .add ⟨#[43]⟩ (strOf T)).run Tryz.prog w13 = .ok (.string (strOf (43 :: T))) w13 := str_add' ⟨#[43]⟩ (strOf T) w13 (by have := HTL.out; rw [size_strOf]; show 1 + _ ≤ _; omega)
  go_upto_region 14 with (fail)
  clear a0 a1 a2 a3 a4 a5 hs1 hs2 hadd XB13 HO13
  have hadd : (Op.stringOp .add (strOf T) ⟨#[35, 120]⟩).run Tryz.prog w13 = .ok (.string (strOf (T ++ 35 :: [120]))) w13 := str_add' (strOf T) ⟨#[35, 120]⟩ w13 (by have := HTL.out; rw [size_strOf]; show _ + 2 ≤ _; omega)
  have HLE := hid (ob_load XO13.out)
  have hrv := revoke_yes B gs gt gu gm (gm4 g L KD f nc) (nameT f ++ 35 :: [120]) (nameT f) (opB f true (EscE.enc 1 [120])) ⟨#[]⟩ ⟨#[]⟩ 0 nc w13 HK13.out 0 (by show 0 < 1; omega) (idx_one _) (has_one _) rfl (by have := nameT_len f; omega) (par_f f [120] (by decide +kernel) (by decide) w13 (HE.out.below HB13.out)) (hid fun A n' c w' hb hp => bare_n f true _ (by have := EscE.enc_len 1 [120]; simp only [List.length_cons, List.length_nil] at this; omega) A n' c w' hp (HE.out.below (HB13.out.trans (hb.mono HWB.out))))
  rw [← HTT.out] at hrv
  have HRV2 := hid hrv
  clear hrv
  go_wp2_with (refine load_as HLE.out (.tmp 11) rfl rfl rfl ?_)
  refine HRV2.out.mono ?_
  rintro e w14 ⟨rfl, hK, hb14, hks14⟩
  have HK14 : Hid (IsK B gs gt gu gm (gm5 g L KD f nc) w14) := by show IsK _ _ _ _ _ _ _; unfold gm5; rw [← HTT.out]; exact hK
  have XO14 : Hid (OB w14 gO ⟨#[]⟩ ⟨#[]⟩ 0 nc) := hks14 _ _ _ _ XO13.out (by decide) (by decide) (by decide) (by decide)
  have HB14 : Hid (Below w.heap.size w w14) := HB13.out.trans (hb14.mono HWB.out)
  clear hK hb14 hks14 HK13 XO13 HB13 HLE HRV2 hadd
  go_wp2_with fail
  refine (notice_u B gs gt gu gm (gm5 g L KD f nc) (strOf (45 :: nameT f)) [] rfl _ HK14.out).mono ?_
  rw [← HTT.out]
  rintro e w15 ⟨rfl, hK, hb15, hks15⟩
  have HK15 : Hid (IsK B gs gt gu gm (gm6 g L KD f nc) w15) := hK
  have XO15 : Hid (OB w15 gO ⟨#[]⟩ ⟨#[]⟩ 0 nc) := hks15 _ _ _ _ XO14.out (by decide) (by decide) (by decide) (by decide)
  have HB15 : Hid (Below w.heap.size w w15) := HB14.out.trans (hb15.mono HWB.out)
  clear hK hb15 hks15 HK14 XO14 HB14
  obtain ⟨o0, o1, o2, o3⟩ := ob_cells XO15.out
  have hrv := revoke_no B gs gt gu gm (gm6 g L KD f nc) (nameT f) (nameT f) (opB f false []) ⟨#[]⟩ ⟨#[]⟩ 0 nc w15 HK15.out rfl (par_n f w15 (HE.out.below HB15.out)) (hid fun A n' c w' hb hp => bare_n f false _ (by decide) A n' c w' hp (HE.out.below (HB15.out.trans (hb.mono HWB.out))))
  rw [← HTT.out] at hrv
  have HRV2 := hid hrv
  clear hrv
  go_wp2_with fail
  refine HRV2.out.mono ?_
  rintro e w16 ⟨rfl, hb16⟩
  have HK16 := hid (HK15.out.below hb16)
  have XO16 := hid (OB.below XO15.out hb16)
  have HB16 := hid (bel HB15.out hb16)
  clear hb16 HK15 XO15 HB15 o0 o1 o2 o3 HRV2
  obtain ⟨o0, o1, o2, o3⟩ := ob_cells XO16.out
  have hgo := sf_gone B gs gt gu gm (gm6 g L KD f nc) (nameT f) f false [] (by decide) (.pointer none) ⟨#[]⟩ ⟨#[]⟩ 0 nc w16 HK16.out (HE.out.below HB16.out) (par_n f w16 (HE.out.below HB16.out)) rfl
  rw [← HTT.out] at hgo
  have HGO := hid hgo
  clear hgo
  go_wp2_with fail
  refine HGO.out.mono ?_
  rintro e w17 ⟨rfl, hb17⟩
  have HK17 := hid (HK16.out.below hb17)
  have HB17 := hid (bel HB16.out hb17)
  clear hb17 HK16 XO16 HB16 o0 o1 o2 o3 HGO
  have hfd : (Instr.field 56 (.agg #[.int .i64 1, .int .i64 0, .int .i64 0, .int .i64 0, .string ⟨#[]⟩, .slice none 0 0]) 1).run Tryz.prog w17 = .ok (.int .i64 0) w17 := by first | rfl | kernel_rfl
  have hadd : (Op.stringOp .add ⟨#[45]⟩ (strOf T)).run Tryz.prog w17 = .ok (.string (strOf (45 :: T))) w17 := str_add' ⟨#[45]⟩ (strOf T) w17 (by have := HTL.out; rw [size_strOf]; show 1 + _ ≤ _; omega)
  go_wp2_with fail
  refine (StkC.urls_any B gs gt gu gm (gm6 g L KD f nc) _ HK17.out).mono ?_
  rw [show (gm6 g L KD f nc).urls.length = 0 from rfl]
  rintro e w18 ⟨v, rfl, hown, hb18⟩
  obtain ⟨A8, c8, rfl, _, _, _⟩ := owns_form hown
  have HB18 := hid (bel HB17.out hb18)
  clear hown hb18 HK17 HB17 hadd
  go_wp2
  go_ret
  exact ⟨rfl, HB18.out⟩
end Go.Proofs.YtegpfgccaminkaaGreatDoor.Laws
