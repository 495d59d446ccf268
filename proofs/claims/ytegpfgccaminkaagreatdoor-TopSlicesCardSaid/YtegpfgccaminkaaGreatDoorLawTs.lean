/- The law TopSlices. -/
import Derived.Test.YtegpfgccaminkaaGreatDoorUAT
import Derived.Test.YtegpfgccaminkaaGreatDoorUAU
set_option linter.unusedSimpArgs false
set_option linter.unusedVariables false
namespace Go.Proofs.YtegpfgccaminkaaGreatDoor.Laws
open Go.RowKit Go.Proofs.YtegpfgccaminkaaGreatDoor.Base Go.Proofs.YtegpfgccaminkaaGreatDoor.Base2 Go.Proofs.YtegpfgccaminkaaGreatDoor.Regs Go.Proofs.YtegpfgccaminkaaGreatDoor.UtfL Go.Proofs.YtegpfgccaminkaaGreatDoor.BlobA Go.Proofs.YtegpfgccaminkaaGreatDoor.BlobD Go.Proofs.YtegpfgccaminkaaGreatDoor.BlobK Go.Proofs.YtegpfgccaminkaaGreatDoor.BlobR Go.Proofs.YtegpfgccaminkaaGreatDoor.OrgA Go.Proofs.YtegpfgccaminkaaGreatDoor.OrgP Go.Proofs.YtegpfgccaminkaaGreatDoor.Ubx Go.Proofs.YtegpfgccaminkaaGreatDoor.PrsP Go.Proofs.YtegpfgccaminkaaGreatDoor.PrsC Go.Proofs.YtegpfgccaminkaaGreatDoor.PrsG Go.Proofs.YtegpfgccaminkaaGreatDoor.HstC Go.Proofs.YtegpfgccaminkaaGreatDoor.Spl Go.Proofs.YtegpfgccaminkaaGreatDoor.LdA Go.Proofs.YtegpfgccaminkaaGreatDoor.OpqD Go.Proofs.YtegpfgccaminkaaGreatDoor.IdnA Go.Proofs.YtegpfgccaminkaaGreatDoor.StoG Go.Proofs.YtegpfgccaminkaaGreatDoor.StoR Go.Proofs.YtegpfgccaminkaaGreatDoor.FetB Go.Proofs.YtegpfgccaminkaaGreatDoor.StkG Go.Proofs.YtegpfgccaminkaaGreatDoor.StkA Go.Proofs.YtegpfgccaminkaaGreatDoor.StkB Go.Proofs.YtegpfgccaminkaaGreatDoor.StkC Go.Proofs.YtegpfgccaminkaaGreatDoor.StkF Go.Proofs.YtegpfgccaminkaaGreatDoor.StkH Go.Proofs.YtegpfgccaminkaaGreatDoor.StkI Go.Proofs.YtegpfgccaminkaaGreatDoor.TopW
set_option linter.unusedSimpArgs false
set_option linter.unusedVariables false
/-- A place, there or not. -/
def pv : Bool → Nat → Value
  | true, g => .pointer (some ⟨g, 0, none⟩)
  | false, _ => .pointer none
def po : Bool → Int → Option Int
  | true, z => some z
  | false, _ => none
theorem ptr_pv (b : Bool) (g : Nat) (z : Int) (w : World) (h : w.heap[g]? = some (.cells #[.int .i64 z] 2 (0, 0))) (hz : -9223372036854775808 ≤ z ∧ z ≤ 9223372036854775807) : Ptr w (pv b g) (po b z) := by
  cases b
  · exact .inl ⟨rfl, rfl⟩
  · exact .inr ⟨g, z, rfl, (Array.getElem?_eq_some_iff.1 h).1, (cell_of_row w g 0 _ _ _ h).trans rfl, hz.1, hz.2, rfl⟩
def f0 : Nat → UInt8 := fun _ => 0
def t1 (g : Nat) (L KA : List UInt8) : SM := more (nil0 400 2 1) g L KA
def t2 (g g2 : Nat) (L KA LL : List UInt8) : SM := more (t1 g L KA) g2 LL [98]
def t3 (g g2 : Nat) (L KA LL : List UInt8) : SM := regd (t2 g g2 L KA LL) (nameT f0) ⟨strOf (nameT f0), ⟨#[]⟩, ⟨#[]⟩, 0, 0, g2⟩
def t4 (g g2 : Nat) (L KA LL : List UInt8) : SM := { t3 g g2 L KA LL with tbl := [(2, g2)] }
def t5 (g g2 : Nat) (L KA LL : List UInt8) : SM := { t4 g g2 L KA LL with tbl := [] }
theorem t1_bl (g : Nat) (L KA : List UInt8) : (t1 g L KA).bl g = (L, KA) := if_pos rfl
theorem t5_bl (g g2 : Nat) (L KA LL : List UInt8) : (t5 g g2 L KA LL).bl g2 = (LL, [98]) := if_pos rfl
theorem t5_x (g g2 : Nat) (L KA LL : List UInt8) (h : 0 < (t5 g g2 L KA LL).urls.length) : ((t5 g g2 L KA LL).urls[0]'h).x = g2 := rfl
theorem t1_total (g : Nat) (L KA : List UInt8) : total (t1 g L KA) = L.length := by
  unfold t1
  rw [total_more]
  · exact Nat.zero_add _
  · rintro (⟨q, hq, _⟩ | ⟨q, hq, _⟩) <;> cases hq
set_option maxRecDepth 100000 in
set_option maxHeartbeats 16000000 in
theorem TopSlices_any (A : Option Addr) (n cap : Nat) (L : List UInt8) (zf zt : Int) (bf bt : Bool) (w : World) (hr : Rds w A n (bcells L)) (_hc : n ≤ cap) (_hm : cap * 1 ≤ 140737488351232) (hzf : -9223372036854775808 ≤ zf ∧ zf ≤ 9223372036854775807) (hzt : -9223372036854775808 ≤ zt ∧ zt ≤ 9223372036854775807) (hT : Tab.Pow w) (hM : Max w) (hU : Utab w) :
    Calls Tryz.prog 8 #[.slice A n cap, .int .i64 zf, .int .i64 zt, .bool bf, .bool bt] w fun e w' => e = .returned (.bool true) ∧ Below w.heap.size w w' := by
  have HE : Hid (EnvO w) := ⟨hT, hM, hU⟩
  have HR0 := hid hr
  have hln : L.length = n := by rw [← length_bcells]; exact hr.1
  clear hT hM hU _hc _hm hr
  go_enter Tryz.func8, Tryz.ntmps8
  go_upto_region 1 with (fail)
  generalize hwa : World.alloc (World.alloc w _) _ = v1
  have h1_ : v1.heap[w.heap.size]? = some (.cells #[.int .i64 zf] 2 (0, 0)) ∧ v1.heap[w.heap.size + 1]? = some (.cells #[.int .i64 zt] 2 (0, 0)) ∧ Below w.heap.size w v1 := by
    subst hwa
    exact laid2 w _ _ _ _
  clear hwa
  obtain ⟨gF, hgF⟩ : ∃ x, x = w.heap.size := ⟨_, rfl⟩
  obtain ⟨gT, hgT⟩ : ∃ x, x = w.heap.size + 1 := ⟨_, rfl⟩
  have HPF1 : Hid (Ptr v1 (pv bf gF) (po bf zf)) := ptr_pv bf gF zf v1 (by rw [hgF]; exact h1_.1) hzf
  have HPT1 : Hid (Ptr v1 (pv bt gT) (po bt zt)) := ptr_pv bt gT zt v1 (by rw [hgT]; exact h1_.2.1) hzt
  have HB1 := hid h1_.2.2
  rw [← hgT, ← hgF]
  clear h1_ hgF hgT hzf hzt
  go_wp2_with fail
  refine (awakeT _ (HE.out.below HB1.out)).mono ?_
  rintro e w2 ⟨rfl, hb2⟩
  have HPF2 := hid (HPF1.out.below hb2)
  have HPT2 := hid (HPT1.out.below hb2)
  have HB2 := hid (bel HB1.out hb2)
  clear hb2 HPF1 HPT1 HB1
  by_cases hl : n ≤ 200
  case neg =>
    have hli : (200 : Int) < (n : Int) := by omega
    clear hl hln
    go_wp2_with fail
    refine (awakeT _ (HE.out.below HB2.out)).mono ?_
    rintro e w3 ⟨rfl, hb3⟩
    have HB3 := hid (bel HB2.out hb3)
    clear hb3
    go_wp2
    go_ret
    exact ⟨rfl, HB3.out⟩
  have hli : ¬ (200 : Int) < (n : Int) := by omega
  have HN := hid hl
  have HLN := hid hln
  have HE2 := hid (HE.out.below HB2.out)
  have HR2 := hid (HR0.out.below HB2.out)
  obtain ⟨KA, hKA⟩ : ∃ x, x = kd (⟨#[97]⟩ : ByteArray).data.toList := ⟨_, rfl⟩
  have HKA := hid hKA
  obtain ⟨LL, hLL⟩ : ∃ x, x = (L.drop (pl (po bf zf) 0 L.length)).take (max (pl (po bf zf) 0 L.length) (pl (po bt zt) L.length L.length) - pl (po bf zf) 0 L.length) := ⟨_, rfl⟩
  have HLL := hid hLL
  have HLLN : Hid (LL.length ≤ 200) := by show _ ≤ _; rw [hLL, List.length_take, List.length_drop]; omega
  have HTL : Hid ((nameT f0).length ≤ 100) := nameT_len f0
  clear hl hln hKA hLL HR0 HE
  go_wp2_with fail
  refine (new_ok 2 1 400 (by decide) (by decide) (by decide) (by decide) (by decide) _).mono ?_
  rintro e w3 ⟨gs, gt, gu, gm, rfl, hK, hb3⟩
  have HK3 := hid hK
  have HBB3 := hid hb3
  clear hK hb3
  go_upto_region 4 with (fail)
  cases bf <;> cases bt
  all_goals
    go_wp2_with fail
    refine (create_ok w2.heap.size gs gt gu gm (nil0 400 2 1) A n cap L ⟨#[97]⟩ _ HK3.out (HR2.out.below HBB3.out) (by have := HN.out; omega) (by decide) (by have := HN.out; show total (nil0 400 2 1) + n ≤ 400; rw [show total (nil0 400 2 1) = 0 from rfl]; omega) (by decide) (by decide)).mono ?_
    rw [← HKA.out]
    rintro e w4 ⟨g, rfl, _, hK, hb4, hks4⟩
    have HK4 : Hid (IsK w2.heap.size gs gt gu gm (t1 g L KA) w4) := hK
    have HBB4 : Hid (Below w2.heap.size w2 w4) := HBB3.out.trans hb4
    clear hK hb4 hks4 HK3 HBB3
    rw [show (((nil0 400 2 1).last : Nat) : Int) + 1 = 1 from rfl]
    go_wp2_with fail
    refine (slice_ok w2.heap.size gs gt gu gm (t1 g L KA) 1 0 (pv _ gF) (pv _ gT) (po _ zf) (po _ zt) ⟨#[66]⟩ _ HK4.out rfl (by show 0 < 1; omega) (HPF2.out.below HBB4.out) (HPT2.out.below HBB4.out) (by decide) LL (by rw [show ((t1 g L KA).tbl[0]'(by show 0 < 1; omega)).2 = g from rfl, t1_bl]; exact HLL.out) (by rw [t1_total, HLN.out]; have := HN.out; have := HLLN.out; show _ ≤ 400; omega) (by show 1 < 2; omega) (by show 0 + 1 ≤ _; omega)).mono ?_
    rw [show kd (⟨#[66]⟩ : ByteArray).data.toList = [98] from by decide +kernel]
    rintro e w5 ⟨g2, rfl, _, hK, hb5, hks5⟩
    have HK5 : Hid (IsK w2.heap.size gs gt gu gm (t2 g g2 L KA LL) w5) := hK
    have HBB5 : Hid (Below w2.heap.size w2 w5) := HBB4.out.trans hb5
    clear hK hb5 hks5 HK4 HBB4
    rw [show (((t1 g L KA).last : Nat) : Int) + 1 = 2 from rfl]
    go_wp2_with fail
    refine (register_null w2.heap.size gs gt gu gm (t2 g g2 L KA LL) ⟨#[]⟩ 0 0 2 1 f0 _ HK5.out rfl (by show 1 < 2; omega) (by show 0 < 1; omega) rfl).mono ?_
    rintro e w6 ⟨rfl, hK, hb6, hks6⟩
    have HK6 : Hid (IsK w2.heap.size gs gt gu gm (t3 g g2 L KA LL) w6) := hK
    have HBB6 : Hid (Below w2.heap.size w2 w6) := HBB5.out.trans hb6
    clear hK hb6 hks6 HK5 HBB5
    go_wp2_with fail
    refine (forget_yes w2.heap.size gs gt gu gm (t3 g g2 L KA LL) 1 0 _ HK6.out rfl).mono ?_
    rintro e w7 ⟨rfl, hK, hb7, hks7⟩
    have HK7 : Hid (IsK w2.heap.size gs gt gu gm (t4 g g2 L KA LL) w7) := hK
    have HBB7 : Hid (Below w2.heap.size w2 w7) := HBB6.out.trans hb7
    clear hK hb7 hks7 HK6 HBB6
    go_wp2_with fail
    refine (forget_yes w2.heap.size gs gt gu gm (t4 g g2 L KA LL) 2 0 _ HK7.out rfl).mono ?_
    rintro e w8 ⟨rfl, hK, hb8, hks8⟩
    have HK8 : Hid (IsK w2.heap.size gs gt gu gm (t5 g g2 L KA LL) w8) := hK
    have HBB8 : Hid (Below w2.heap.size w2 w8) := HBB7.out.trans hb8
    clear hK hb8 hks8 HK7 HBB7
    have hft := sf_whole w2.heap.size gs gt gu gm (t5 g g2 L KA LL) (nameT f0) f0 false [] (by decide) ⟨#[]⟩ ⟨#[]⟩ 0 0 0 w8 HK8.out (HE2.out.below HBB8.out) (par_n f0 w8 (HE2.out.below HBB8.out)) (by show 0 < 1; omega) (idx_one _) (has_one _) (by rw [t5_x, t5_bl]; have := HLLN.out; show LL.length ≤ _; omega)
    rw [t5_x, t5_bl] at hft
    have HFT := hid hft
    clear hft
    go_wp2_with fail
    refine HFT.out.mono ?_
    rintro e w9 ⟨cs, rfl, hb9, A', n', c', rfl, hown⟩
    have HBB9 := hid (bel HBB8.out hb9)
    have HO9 := hid hown
    clear hb9 hown HK8 HBB8 HFT
    go_upto_region 15 with (fail)
    generalize hwa : World.alloc w9 _ = v10
    have h10 : AB v10 w9.heap.size #[.int .i64 1, .int .i64 200, .int .i64 0, .int .i64 (LL.length : Int), .string ⟨#[98]⟩, .slice A' n' c'] ∧ Below w9.heap.size w9 v10 := by
      subst hwa
      exact laid1 w9 _ _
    clear hwa
    obtain ⟨gA, hgA⟩ : ∃ x, x = w9.heap.size := ⟨_, rfl⟩
    have XB10 : Hid (AB v10 gA #[.int .i64 1, .int .i64 200, .int .i64 0, .int .i64 (LL.length : Int), .string ⟨#[98]⟩, .slice A' n' c']) := by rw [hgA]; exact h10.1
    have HBB10 := hid (bel HBB9.out h10.2)
    have HO10 := hid (owns_below HO9.out h10.2)
    rw [← hgA]
    clear h10 hgA HBB9 HO9
    have hs2 := run_string_of (P := Tryz.prog) 39 9 5 Tryz.underlying39 Tryz.underlying5 Tryz.underlying9 L cap (HR2.out.below HBB10.out)
    go_wp2_with fail
    refine (refSlice_any L ⟨#[]⟩ (pv _ gF) (pv _ gT) (po _ zf) (po _ zt) ⟨#[66]⟩ _ (by rw [HLN.out]; have := HN.out; omega) (HPF2.out.below HBB10.out) (HPT2.out.below HBB10.out) (by decide)).mono ?_
    rw [← HLL.out, show kd (⟨#[66]⟩ : ByteArray).data.toList = [98] from by decide +kernel]
    rintro e w11 ⟨rfl, hb11⟩
    have XB11 := hid (XB10.out.below hb11)
    have HBB11 := hid (bel HBB10.out hb11)
    have HO11 := hid (owns_below HO10.out hb11)
    clear hb11 XB10 HBB10 HO10 hs2
    go_upto_region 16 with (fail)
    generalize hwa : World.alloc w11 _ = v12
    have h12 : BX v12 w11.heap.size #[.string (strOf LL), .string (strOf [98])] ∧ Below w11.heap.size w11 v12 := by
      subst hwa
      exact laid1 w11 _ _
    clear hwa
    have c0 : v12.cell? ⟨w11.heap.size, 0, none⟩ = some (.string (strOf LL)) := (cell_of_row v12 _ 0 _ _ _ h12.1).trans rfl
    obtain ⟨a0, a1, a2, a3, a4, a5⟩ := (XB11.out.below h12.2).facts
    have hs1 := run_string_of (P := Tryz.prog) 39 9 5 Tryz.underlying39 Tryz.underlying5 Tryz.underlying9 LL c' (own_form (owns_below HO11.out h12.2)).2.2
    have HB12 : Hid (Below w.heap.size w v12) := bel HB2.out (bel HBB11.out h12.2)
    clear h12 XB11 HBB11 HO11
    go_wp2
    go_ret
    exact ⟨rfl, HB12.out⟩
end Go.Proofs.YtegpfgccaminkaaGreatDoor.Laws
