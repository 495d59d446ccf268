/- Scripts: an operation is read. -/
import Derived.Test.YtafnekilnbhhlaaScrW
namespace Go.Proofs.Ytafnekilnbhhlaa.ScrD
open Go.RowKit Go.Proofs.Ytafnekilnbhhlaa.Base Go.Proofs.Ytafnekilnbhhlaa.Base2 Go.Proofs.Ytafnekilnbhhlaa.AnsP Go.Proofs.Ytafnekilnbhhlaa.AnsR Go.Proofs.Ytafnekilnbhhlaa.AnsD Go.Proofs.Ytafnekilnbhhlaa.ScrP Go.Proofs.Ytafnekilnbhhlaa.ScrB

theorem OB.keep {g k : Nat} {w w' : World} {o : O} (h : OB 37 w k o) (hk : KeepG g w w') (hg : g < k) : OB 37 w' k o := (hk k h.lt (by omega)).trans h
theorem two (w : World) : OB 37 ((w.alloc (.cells (cells zro).toArray 37)).alloc (.cells (cells zro).toArray 37)) w.heap.size zro ∧ OB 37 ((w.alloc (.cells (cells zro).toArray 37)).alloc (.cells (cells zro).toArray 37)) (w.heap.size + 1) zro ∧ Below w.heap.size w ((w.alloc (.cells (cells zro).toArray 37)).alloc (.cells (cells zro).toArray 37)) := by
  have hs : (w.alloc (.cells (cells zro).toArray 37)).heap.size = w.heap.size + 1 := by simp
  have h2 := OB.new 37 (w.alloc (.cells (cells zro).toArray 37)) zro
  rw [hs] at h2
  exact ⟨OB.under (B := w.heap.size + 1) (OB.new 37 w zro) ((Below.refl _ _).alloc (by simp) _) (by omega), h2, ((Below.refl _ _).alloc (Nat.le_refl _) _).alloc (by simp) _⟩
theorem tk_one (M : List UInt8) : ∃ d : UInt8, val (tk 1 M) = d.toNat ∧ d = M.getD 0 0 := by
  unfold tk
  cases M with
  | nil => exact ⟨0, rfl, rfl⟩
  | cons d M => exact ⟨d, by simp [AnsP.val], rfl⟩
theorem dp_one (M : List UInt8) : dp 1 M = M.drop 1 := by
  unfold dp
  cases M with
  | nil => rfl
  | cons d M => simp
/-- The bytes that have been read in k rounds, noughts behind them. -/
def fills (M : List UInt8) (k : Nat) : List UInt8 := (List.range 16).map fun i => if i < k then M.getD i 0 else 0
theorem fills_len (M : List UInt8) (k : Nat) : (fills M k).length = 16 := by simp [fills]
theorem fills_zero (M : List UInt8) : fills M 0 = List.replicate 16 0 := by simp [fills]; rfl
theorem fills_next (M : List UInt8) (k : Nat) : (fills M k).set k (M.getD k 0) = fills M (k + 1) := by
  apply List.ext_getElem
  · simp [fills]
  · intro i h1 h2
    rw [List.getElem_set]
    simp only [fills, List.getElem_map, List.getElem_range]
    split
    · rename_i e; subst e; rw [if_pos (by omega)]
    · rename_i e
      by_cases h : i < k
      · rw [if_pos h, if_pos (by omega)]
      · rw [if_neg h, if_neg (by omega)]
theorem fills_all (M : List UInt8) (h : 16 ≤ M.length) : fills M 16 = M.take 16 := by
  apply List.ext_getElem
  · simp [fills]; omega
  · intro i h1 h2
    have hi : i < 16 := by simpa [fills] using h1
    simp only [fills, List.getElem_map, List.getElem_range, List.getElem_take]
    rw [if_pos hi, List.getD_eq_getElem?_getD, List.getElem?_eq_getElem (by omega)]
    rfl
theorem cells_set (o : O) (k : Nat) (d : UInt8) : (cells o).set (11 + k) (.int .u8 (d.toNat : Int)) = cells { o with r := o.r.set k d } := by
  rw [Nat.add_comm]
  unfold cells
  simp only [List.set_cons_succ, bcells, List.map_set]
theorem res_read {w : World} {g : Nat} {o : O} (h : OB 37 w g o) (hr : o.r.length = 16) (tmps : Array Value) (h2 : tmps.getD 2 undef = .pointer (some ⟨g, 0, none⟩)) :
    (results Try.f22 tmps).run Try.prog w = .ok (val o) w :=
  results_cell_row Try.results22 tmps w g _ _ (0, 0) _ h2 h Try.underlying37 rfl (by rw [size_cells hr]; kernel_rfl)
def Rd (g : Nat) (L : List UInt8) (w : World) (e : Ending) (w' : World) : Prop := ∃ (o : O) (M : List UInt8) (b : Bool), e = .returned (ScrB.val o) ∧ o.r.length = 16 ∧ IsR g M b w' ∧ Below g w w' ∧ KeepG g w w' ∧ (b = false → dec1 L = some (o, M)) ∧ (b = true → dec1 L = none) ∧ M.length ≤ L.length
set_option maxRecDepth 100000 in
set_option maxHeartbeats 16000000 in
theorem read_any (g : Nat) (L : List UInt8) (w : World) (h : IsR g L false w) (hl : L.length ≤ 1000000) :
    Calls Try.prog 22 #[.pointer (some ⟨g, 0, none⟩)] w (Rd g L w) := by
  have hgl := h.lt
  have HGL : Hid (g < w.heap.size) := hgl
  have HH := hid h
  have HLL : Hid (L.length ≤ 1000000) := hl
  have HS0 : Hid (Sound L flds zro L false) := ⟨fun _ => rfl, fun e => by cases e⟩
  have HL0 : Hid (L.length ≤ L.length) := Nat.le_refl _
  clear h hl hgl
  go_enter Try.func22, Try.ntmps22
  go_upto_region 2 with (fail)
  generalize hw : World.alloc (World.alloc w _) _ = W0
  have h1 : OB 37 W0 w.heap.size zro ∧ OB 37 W0 (w.heap.size + 1) zro ∧ Below w.heap.size w W0 := by
    subst hw
    exact two w
  have HA0 := hid h1.1
  have HO0 := hid h1.2.1
  have HR0 := hid (HH.out.below h1.2.2)
  have HB0 := hid (h1.2.2.mono (Nat.le_of_lt HGL.out))
  have HK0 : Hid (KeepG g w W0) := fun k hk _ => h1.2.2.block k hk
  have HN0 : Hid (W0.heap.size = w.heap.size + 1 + 1) := by subst hw; show _ = _; simp
  clear h1 hw HH
  go_wp2_with fail
  refine (u8r_keep g L false _ HR0.out (by have := HLL.out; have := HL0.out; omega)).mono ?_
  rintro e w1 ⟨rfl, hr, hb, hk⟩
  have HOx := hid (OB.keep HO0.out hk (by have := HGL.out; omega))
  have HAx := hid (OB.keep HA0.out hk HGL.out)
  have HSx := hid HS0.out.num
  have HLx : Hid ((dp 1 L).length ≤ L.length) := Nat.le_trans (dp_len 1 L) HL0.out
  obtain ⟨x1, hx⟩ : ∃ x, x = AnsP.val (tk 1 L) := ⟨_, rfl⟩
  obtain ⟨M1, hM⟩ : ∃ x, x = dp 1 L := ⟨_, rfl⟩
  obtain ⟨b1, hB⟩ : ∃ x, x = bd 1 L false := ⟨_, rfl⟩
  rw [← hx, ← hM, ← hB] at HSx
  rw [← hM] at HLx
  rw [← hM, ← hB] at hr
  rw [show Value.int .u8 ((AnsP.val (tk 1 L) : Nat) : Int) = .int .u8 (x1 : Int) by rw [hx]]
  have c0 := HOx.out.cell 0 (v := .int .u8 0) rfl
  have f0 := HOx.out.thaw 0
  have hr2 := hr.set (i := 0) (k := w.heap.size + 1) (by have := HGL.out; omega) (.int .u8 (x1 : Int))
  have ho2 : OB 37 (w1.setCell ⟨w.heap.size + 1, 0, none⟩ (.int .u8 (x1 : Int))) (w.heap.size + 1) ⟨x1, 0, 0, 0, 0, [], [], [], [], 0, 0, List.replicate 16 0⟩ := HOx.out.put 0 _ rfl
  have ha2 : OB 37 (w1.setCell ⟨w.heap.size + 1, 0, none⟩ (.int .u8 (x1 : Int))) w.heap.size zro := HAx.out.other (by omega) 0 _
  have hb2 : Below g w (w1.setCell ⟨w.heap.size + 1, 0, none⟩ (.int .u8 (x1 : Int))) := (HB0.out.trans hb).setCell (p := ⟨w.heap.size + 1, 0, none⟩) (by have := HGL.out; show g ≤ w.heap.size + 1; omega) _
  have hk2 : KeepG g w (w1.setCell ⟨w.heap.size + 1, 0, none⟩ (.int .u8 (x1 : Int))) := fun k hk' hg' => (heap_setCell_other _ ⟨w.heap.size + 1, 0, none⟩ k _ (by show k ≠ w.heap.size + 1; omega)).trans ((HK0.out.trans HB0.out hk) k hk' hg')
  clear hr hb hk HOx HAx hx hM hB HO0 HA0 HR0 HB0 HK0 HS0 HL0
  go_upto_region 3 with (fail)
  clear c0 f0
  generalize World.setCell w1 _ _ = V1 at hr2 ho2 ha2 hb2 hk2 ⊢
  have HR1 := hid hr2
  have HO1 := hid ho2
  have HA1 := hid ha2
  have HB1 := hid hb2
  have HK1 := hid hk2
  have HS1 := HSx
  have HL1 := HLx
  clear hr2 ho2 ha2 hb2 hk2 HSx HLx
  go_wp2_with fail
  refine (u8r_keep g M1 b1 _ HR1.out (by have := HLL.out; have := HL1.out; omega)).mono ?_
  rintro e w2 ⟨rfl, hr, hb, hk⟩
  have HOx := hid (OB.keep HO1.out hk (by have := HGL.out; omega))
  have HAx := hid (OB.keep HA1.out hk HGL.out)
  have HSx := hid HS1.out.num
  have HLx : Hid ((dp 1 M1).length ≤ L.length) := Nat.le_trans (dp_len 1 M1) HL1.out
  obtain ⟨x2, hx⟩ : ∃ x, x = AnsP.val (tk 1 M1) := ⟨_, rfl⟩
  obtain ⟨M2, hM⟩ : ∃ x, x = dp 1 M1 := ⟨_, rfl⟩
  obtain ⟨b2, hB⟩ : ∃ x, x = bd 1 M1 b1 := ⟨_, rfl⟩
  rw [← hx, ← hM, ← hB] at HSx
  rw [← hM] at HLx
  rw [← hM, ← hB] at hr
  rw [show Value.int .u8 ((AnsP.val (tk 1 M1) : Nat) : Int) = .int .u8 (x2 : Int) by rw [hx]]
  have c0 := HOx.out.cell 1 (v := .int .u8 0) rfl
  have f0 := HOx.out.thaw 1
  have hr2 := hr.set (i := 1) (k := w.heap.size + 1) (by have := HGL.out; omega) (.int .u8 (x2 : Int))
  have ho2 : OB 37 (w2.setCell ⟨w.heap.size + 1, 1, none⟩ (.int .u8 (x2 : Int))) (w.heap.size + 1) ⟨x1, x2, 0, 0, 0, [], [], [], [], 0, 0, List.replicate 16 0⟩ := HOx.out.put 1 _ rfl
  have ha2 : OB 37 (w2.setCell ⟨w.heap.size + 1, 1, none⟩ (.int .u8 (x2 : Int))) w.heap.size zro := HAx.out.other (by omega) 1 _
  have hb2 : Below g w (w2.setCell ⟨w.heap.size + 1, 1, none⟩ (.int .u8 (x2 : Int))) := (HB1.out.trans hb).setCell (p := ⟨w.heap.size + 1, 1, none⟩) (by have := HGL.out; show g ≤ w.heap.size + 1; omega) _
  have hk2 : KeepG g w (w2.setCell ⟨w.heap.size + 1, 1, none⟩ (.int .u8 (x2 : Int))) := fun k hk' hg' => (heap_setCell_other _ ⟨w.heap.size + 1, 1, none⟩ k _ (by show k ≠ w.heap.size + 1; omega)).trans ((HK1.out.trans HB1.out hk) k hk' hg')
  clear hr hb hk HOx HAx hx hM hB HO1 HA1 HR1 HB1 HK1 HS1 HL1
  go_upto_region 4 with (fail)
  clear c0 f0
  generalize World.setCell w2 _ _ = V2 at hr2 ho2 ha2 hb2 hk2 ⊢
  have HR2 := hid hr2
  have HO2 := hid ho2
  have HA2 := hid ha2
  have HB2 := hid hb2
  have HK2 := hid hk2
  have HS2 := HSx
  have HL2 := HLx
  clear hr2 ho2 ha2 hb2 hk2 HSx HLx
  go_wp2_with fail
  refine (i64r_keep g M2 b2 _ HR2.out (by have := HLL.out; have := HL2.out; omega)).mono ?_
  rintro e w3 ⟨rfl, hr, hb, hk⟩
  have HOx := hid (OB.keep HO2.out hk (by have := HGL.out; omega))
  have HAx := hid (OB.keep HA2.out hk HGL.out)
  have HSx := hid HS2.out.num
  have HLx : Hid ((dp 8 M2).length ≤ L.length) := Nat.le_trans (dp_len 8 M2) HL2.out
  obtain ⟨x3, hx⟩ : ∃ x, x = AnsP.val (tk 8 M2) := ⟨_, rfl⟩
  obtain ⟨M3, hM⟩ : ∃ x, x = dp 8 M2 := ⟨_, rfl⟩
  obtain ⟨b3, hB⟩ : ∃ x, x = bd 8 M2 b2 := ⟨_, rfl⟩
  rw [← hx, ← hM, ← hB] at HSx
  rw [← hM] at HLx
  rw [← hM, ← hB] at hr
  rw [show Value.int .i64 (AnsW.sg (AnsP.val (tk 8 M2))) = .int .i64 (AnsW.sg x3) by rw [hx]]
  have c0 := HOx.out.cell 2 (v := .int .i64 0) rfl
  have f0 := HOx.out.thaw 2
  have hr2 := hr.set (i := 2) (k := w.heap.size + 1) (by have := HGL.out; omega) (.int .i64 (AnsW.sg x3))
  have ho2 : OB 37 (w3.setCell ⟨w.heap.size + 1, 2, none⟩ (.int .i64 (AnsW.sg x3))) (w.heap.size + 1) ⟨x1, x2, x3, 0, 0, [], [], [], [], 0, 0, List.replicate 16 0⟩ := HOx.out.put 2 _ rfl
  have ha2 : OB 37 (w3.setCell ⟨w.heap.size + 1, 2, none⟩ (.int .i64 (AnsW.sg x3))) w.heap.size zro := HAx.out.other (by omega) 2 _
  have hb2 : Below g w (w3.setCell ⟨w.heap.size + 1, 2, none⟩ (.int .i64 (AnsW.sg x3))) := (HB2.out.trans hb).setCell (p := ⟨w.heap.size + 1, 2, none⟩) (by have := HGL.out; show g ≤ w.heap.size + 1; omega) _
  have hk2 : KeepG g w (w3.setCell ⟨w.heap.size + 1, 2, none⟩ (.int .i64 (AnsW.sg x3))) := fun k hk' hg' => (heap_setCell_other _ ⟨w.heap.size + 1, 2, none⟩ k _ (by show k ≠ w.heap.size + 1; omega)).trans ((HK2.out.trans HB2.out hk) k hk' hg')
  clear hr hb hk HOx HAx hx hM hB HO2 HA2 HR2 HB2 HK2 HS2 HL2
  go_upto_region 5 with (fail)
  clear c0 f0
  generalize World.setCell w3 _ _ = V3 at hr2 ho2 ha2 hb2 hk2 ⊢
  have HR3 := hid hr2
  have HO3 := hid ho2
  have HA3 := hid ha2
  have HB3 := hid hb2
  have HK3 := hid hk2
  have HS3 := HSx
  have HL3 := HLx
  clear hr2 ho2 ha2 hb2 hk2 HSx HLx
  go_wp2_with fail
  refine (i64r_keep g M3 b3 _ HR3.out (by have := HLL.out; have := HL3.out; omega)).mono ?_
  rintro e w4 ⟨rfl, hr, hb, hk⟩
  have HOx := hid (OB.keep HO3.out hk (by have := HGL.out; omega))
  have HAx := hid (OB.keep HA3.out hk HGL.out)
  have HSx := hid HS3.out.num
  have HLx : Hid ((dp 8 M3).length ≤ L.length) := Nat.le_trans (dp_len 8 M3) HL3.out
  obtain ⟨x4, hx⟩ : ∃ x, x = AnsP.val (tk 8 M3) := ⟨_, rfl⟩
  obtain ⟨M4, hM⟩ : ∃ x, x = dp 8 M3 := ⟨_, rfl⟩
  obtain ⟨b4, hB⟩ : ∃ x, x = bd 8 M3 b3 := ⟨_, rfl⟩
  rw [← hx, ← hM, ← hB] at HSx
  rw [← hM] at HLx
  rw [← hM, ← hB] at hr
  rw [show Value.int .i64 (AnsW.sg (AnsP.val (tk 8 M3))) = .int .i64 (AnsW.sg x4) by rw [hx]]
  have c0 := HOx.out.cell 3 (v := .int .i64 0) rfl
  have f0 := HOx.out.thaw 3
  have hr2 := hr.set (i := 3) (k := w.heap.size + 1) (by have := HGL.out; omega) (.int .i64 (AnsW.sg x4))
  have ho2 : OB 37 (w4.setCell ⟨w.heap.size + 1, 3, none⟩ (.int .i64 (AnsW.sg x4))) (w.heap.size + 1) ⟨x1, x2, x3, x4, 0, [], [], [], [], 0, 0, List.replicate 16 0⟩ := HOx.out.put 3 _ rfl
  have ha2 : OB 37 (w4.setCell ⟨w.heap.size + 1, 3, none⟩ (.int .i64 (AnsW.sg x4))) w.heap.size zro := HAx.out.other (by omega) 3 _
  have hb2 : Below g w (w4.setCell ⟨w.heap.size + 1, 3, none⟩ (.int .i64 (AnsW.sg x4))) := (HB3.out.trans hb).setCell (p := ⟨w.heap.size + 1, 3, none⟩) (by have := HGL.out; show g ≤ w.heap.size + 1; omega) _
  have hk2 : KeepG g w (w4.setCell ⟨w.heap.size + 1, 3, none⟩ (.int .i64 (AnsW.sg x4))) := fun k hk' hg' => (heap_setCell_other _ ⟨w.heap.size + 1, 3, none⟩ k _ (by show k ≠ w.heap.size + 1; omega)).trans ((HK3.out.trans HB3.out hk) k hk' hg')
  clear hr hb hk HOx HAx hx hM hB HO3 HA3 HR3 HB3 HK3 HS3 HL3
  go_upto_region 6 with (fail)
  clear c0 f0
  generalize World.setCell w4 _ _ = V4 at hr2 ho2 ha2 hb2 hk2 ⊢
  have HR4 := hid hr2
  have HO4 := hid ho2
  have HA4 := hid ha2
  have HB4 := hid hb2
  have HK4 := hid hk2
  have HS4 := HSx
  have HL4 := HLx
  clear hr2 ho2 ha2 hb2 hk2 HSx HLx
  go_wp2_with fail
  refine (i64r_keep g M4 b4 _ HR4.out (by have := HLL.out; have := HL4.out; omega)).mono ?_
  rintro e w5 ⟨rfl, hr, hb, hk⟩
  have HOx := hid (OB.keep HO4.out hk (by have := HGL.out; omega))
  have HAx := hid (OB.keep HA4.out hk HGL.out)
  have HSx := hid HS4.out.num
  have HLx : Hid ((dp 8 M4).length ≤ L.length) := Nat.le_trans (dp_len 8 M4) HL4.out
  obtain ⟨x5, hx⟩ : ∃ x, x = AnsP.val (tk 8 M4) := ⟨_, rfl⟩
  obtain ⟨M5, hM⟩ : ∃ x, x = dp 8 M4 := ⟨_, rfl⟩
  obtain ⟨b5, hB⟩ : ∃ x, x = bd 8 M4 b4 := ⟨_, rfl⟩
  rw [← hx, ← hM, ← hB] at HSx
  rw [← hM] at HLx
  rw [← hM, ← hB] at hr
  rw [show Value.int .i64 (AnsW.sg (AnsP.val (tk 8 M4))) = .int .i64 (AnsW.sg x5) by rw [hx]]
  have c0 := HOx.out.cell 4 (v := .int .i64 0) rfl
  have f0 := HOx.out.thaw 4
  have hr2 := hr.set (i := 4) (k := w.heap.size + 1) (by have := HGL.out; omega) (.int .i64 (AnsW.sg x5))
  have ho2 : OB 37 (w5.setCell ⟨w.heap.size + 1, 4, none⟩ (.int .i64 (AnsW.sg x5))) (w.heap.size + 1) ⟨x1, x2, x3, x4, x5, [], [], [], [], 0, 0, List.replicate 16 0⟩ := HOx.out.put 4 _ rfl
  have ha2 : OB 37 (w5.setCell ⟨w.heap.size + 1, 4, none⟩ (.int .i64 (AnsW.sg x5))) w.heap.size zro := HAx.out.other (by omega) 4 _
  have hb2 : Below g w (w5.setCell ⟨w.heap.size + 1, 4, none⟩ (.int .i64 (AnsW.sg x5))) := (HB4.out.trans hb).setCell (p := ⟨w.heap.size + 1, 4, none⟩) (by have := HGL.out; show g ≤ w.heap.size + 1; omega) _
  have hk2 : KeepG g w (w5.setCell ⟨w.heap.size + 1, 4, none⟩ (.int .i64 (AnsW.sg x5))) := fun k hk' hg' => (heap_setCell_other _ ⟨w.heap.size + 1, 4, none⟩ k _ (by show k ≠ w.heap.size + 1; omega)).trans ((HK4.out.trans HB4.out hk) k hk' hg')
  clear hr hb hk HOx HAx hx hM hB HO4 HA4 HR4 HB4 HK4 HS4 HL4
  go_upto_region 7 with (fail)
  clear c0 f0
  generalize World.setCell w5 _ _ = V5 at hr2 ho2 ha2 hb2 hk2 ⊢
  have HR5 := hid hr2
  have HO5 := hid ho2
  have HA5 := hid ha2
  have HB5 := hid hb2
  have HK5 := hid hk2
  have HS5 := HSx
  have HL5 := HLx
  clear hr2 ho2 ha2 hb2 hk2 HSx HLx
  go_wp2_with fail
  refine (strr_keep g M5 b5 _ HR5.out (by have := HLL.out; have := HL5.out; omega)).mono ?_
  rintro e w6 ⟨rfl, hr, hb, hk⟩
  have HOx := hid (OB.keep HO5.out hk (by have := HGL.out; omega))
  have HAx := hid (OB.keep HA5.out hk HGL.out)
  have HSx := hid HS5.out.txt
  have HLx : Hid ((td M5).length ≤ L.length) := Nat.le_trans (Nat.le_trans (dp_len _ _) (dp_len 4 M5)) HL5.out
  obtain ⟨x6, hx⟩ : ∃ x, x = tt M5 := ⟨_, rfl⟩
  obtain ⟨M6, hM⟩ : ∃ x, x = td M5 := ⟨_, rfl⟩
  obtain ⟨b6, hB⟩ : ∃ x, x = tb M5 b5 := ⟨_, rfl⟩
  rw [← hx, ← hM, ← hB] at HSx
  rw [← hM] at HLx
  rw [← hM, ← hB] at hr
  rw [show Value.string (strOf (tt M5)) = .string (strOf x6) by rw [hx]]
  have c0 := HOx.out.cell 5 (v := .string ⟨#[]⟩) rfl
  have f0 := HOx.out.thaw 5
  have hr2 := hr.set (i := 5) (k := w.heap.size + 1) (by have := HGL.out; omega) (.string (strOf x6))
  have ho2 : OB 37 (w6.setCell ⟨w.heap.size + 1, 5, none⟩ (.string (strOf x6))) (w.heap.size + 1) ⟨x1, x2, x3, x4, x5, x6, [], [], [], 0, 0, List.replicate 16 0⟩ := HOx.out.put 5 _ rfl
  have ha2 : OB 37 (w6.setCell ⟨w.heap.size + 1, 5, none⟩ (.string (strOf x6))) w.heap.size zro := HAx.out.other (by omega) 5 _
  have hb2 : Below g w (w6.setCell ⟨w.heap.size + 1, 5, none⟩ (.string (strOf x6))) := (HB5.out.trans hb).setCell (p := ⟨w.heap.size + 1, 5, none⟩) (by have := HGL.out; show g ≤ w.heap.size + 1; omega) _
  have hk2 : KeepG g w (w6.setCell ⟨w.heap.size + 1, 5, none⟩ (.string (strOf x6))) := fun k hk' hg' => (heap_setCell_other _ ⟨w.heap.size + 1, 5, none⟩ k _ (by show k ≠ w.heap.size + 1; omega)).trans ((HK5.out.trans HB5.out hk) k hk' hg')
  clear hr hb hk HOx HAx hx hM hB HO5 HA5 HR5 HB5 HK5 HS5 HL5
  go_upto_region 8 with (fail)
  clear c0 f0
  generalize World.setCell w6 _ _ = V6 at hr2 ho2 ha2 hb2 hk2 ⊢
  have HR6 := hid hr2
  have HO6 := hid ho2
  have HA6 := hid ha2
  have HB6 := hid hb2
  have HK6 := hid hk2
  have HS6 := HSx
  have HL6 := HLx
  clear hr2 ho2 ha2 hb2 hk2 HSx HLx
  go_wp2_with fail
  refine (strr_keep g M6 b6 _ HR6.out (by have := HLL.out; have := HL6.out; omega)).mono ?_
  rintro e w7 ⟨rfl, hr, hb, hk⟩
  have HOx := hid (OB.keep HO6.out hk (by have := HGL.out; omega))
  have HAx := hid (OB.keep HA6.out hk HGL.out)
  have HSx := hid HS6.out.txt
  have HLx : Hid ((td M6).length ≤ L.length) := Nat.le_trans (Nat.le_trans (dp_len _ _) (dp_len 4 M6)) HL6.out
  obtain ⟨x7, hx⟩ : ∃ x, x = tt M6 := ⟨_, rfl⟩
  obtain ⟨M7, hM⟩ : ∃ x, x = td M6 := ⟨_, rfl⟩
  obtain ⟨b7, hB⟩ : ∃ x, x = tb M6 b6 := ⟨_, rfl⟩
  rw [← hx, ← hM, ← hB] at HSx
  rw [← hM] at HLx
  rw [← hM, ← hB] at hr
  rw [show Value.string (strOf (tt M6)) = .string (strOf x7) by rw [hx]]
  have c0 := HOx.out.cell 6 (v := .string ⟨#[]⟩) rfl
  have f0 := HOx.out.thaw 6
  have hr2 := hr.set (i := 6) (k := w.heap.size + 1) (by have := HGL.out; omega) (.string (strOf x7))
  have ho2 : OB 37 (w7.setCell ⟨w.heap.size + 1, 6, none⟩ (.string (strOf x7))) (w.heap.size + 1) ⟨x1, x2, x3, x4, x5, x6, x7, [], [], 0, 0, List.replicate 16 0⟩ := HOx.out.put 6 _ rfl
  have ha2 : OB 37 (w7.setCell ⟨w.heap.size + 1, 6, none⟩ (.string (strOf x7))) w.heap.size zro := HAx.out.other (by omega) 6 _
  have hb2 : Below g w (w7.setCell ⟨w.heap.size + 1, 6, none⟩ (.string (strOf x7))) := (HB6.out.trans hb).setCell (p := ⟨w.heap.size + 1, 6, none⟩) (by have := HGL.out; show g ≤ w.heap.size + 1; omega) _
  have hk2 : KeepG g w (w7.setCell ⟨w.heap.size + 1, 6, none⟩ (.string (strOf x7))) := fun k hk' hg' => (heap_setCell_other _ ⟨w.heap.size + 1, 6, none⟩ k _ (by show k ≠ w.heap.size + 1; omega)).trans ((HK6.out.trans HB6.out hk) k hk' hg')
  clear hr hb hk HOx HAx hx hM hB HO6 HA6 HR6 HB6 HK6 HS6 HL6
  go_upto_region 9 with (fail)
  clear c0 f0
  generalize World.setCell w7 _ _ = V7 at hr2 ho2 ha2 hb2 hk2 ⊢
  have HR7 := hid hr2
  have HO7 := hid ho2
  have HA7 := hid ha2
  have HB7 := hid hb2
  have HK7 := hid hk2
  have HS7 := HSx
  have HL7 := HLx
  clear hr2 ho2 ha2 hb2 hk2 HSx HLx
  go_wp2_with fail
  refine (strr_keep g M7 b7 _ HR7.out (by have := HLL.out; have := HL7.out; omega)).mono ?_
  rintro e w8 ⟨rfl, hr, hb, hk⟩
  have HOx := hid (OB.keep HO7.out hk (by have := HGL.out; omega))
  have HAx := hid (OB.keep HA7.out hk HGL.out)
  have HSx := hid HS7.out.txt
  have HLx : Hid ((td M7).length ≤ L.length) := Nat.le_trans (Nat.le_trans (dp_len _ _) (dp_len 4 M7)) HL7.out
  obtain ⟨x8, hx⟩ : ∃ x, x = tt M7 := ⟨_, rfl⟩
  obtain ⟨M8, hM⟩ : ∃ x, x = td M7 := ⟨_, rfl⟩
  obtain ⟨b8, hB⟩ : ∃ x, x = tb M7 b7 := ⟨_, rfl⟩
  rw [← hx, ← hM, ← hB] at HSx
  rw [← hM] at HLx
  rw [← hM, ← hB] at hr
  rw [show Value.string (strOf (tt M7)) = .string (strOf x8) by rw [hx]]
  have c0 := HOx.out.cell 7 (v := .string ⟨#[]⟩) rfl
  have f0 := HOx.out.thaw 7
  have hr2 := hr.set (i := 7) (k := w.heap.size + 1) (by have := HGL.out; omega) (.string (strOf x8))
  have ho2 : OB 37 (w8.setCell ⟨w.heap.size + 1, 7, none⟩ (.string (strOf x8))) (w.heap.size + 1) ⟨x1, x2, x3, x4, x5, x6, x7, x8, [], 0, 0, List.replicate 16 0⟩ := HOx.out.put 7 _ rfl
  have ha2 : OB 37 (w8.setCell ⟨w.heap.size + 1, 7, none⟩ (.string (strOf x8))) w.heap.size zro := HAx.out.other (by omega) 7 _
  have hb2 : Below g w (w8.setCell ⟨w.heap.size + 1, 7, none⟩ (.string (strOf x8))) := (HB7.out.trans hb).setCell (p := ⟨w.heap.size + 1, 7, none⟩) (by have := HGL.out; show g ≤ w.heap.size + 1; omega) _
  have hk2 : KeepG g w (w8.setCell ⟨w.heap.size + 1, 7, none⟩ (.string (strOf x8))) := fun k hk' hg' => (heap_setCell_other _ ⟨w.heap.size + 1, 7, none⟩ k _ (by show k ≠ w.heap.size + 1; omega)).trans ((HK7.out.trans HB7.out hk) k hk' hg')
  clear hr hb hk HOx HAx hx hM hB HO7 HA7 HR7 HB7 HK7 HS7 HL7
  go_upto_region 10 with (fail)
  clear c0 f0
  generalize World.setCell w8 _ _ = V8 at hr2 ho2 ha2 hb2 hk2 ⊢
  have HR8 := hid hr2
  have HO8 := hid ho2
  have HA8 := hid ha2
  have HB8 := hid hb2
  have HK8 := hid hk2
  have HS8 := HSx
  have HL8 := HLx
  clear hr2 ho2 ha2 hb2 hk2 HSx HLx
  go_wp2_with fail
  refine (strr_keep g M8 b8 _ HR8.out (by have := HLL.out; have := HL8.out; omega)).mono ?_
  rintro e w9 ⟨rfl, hr, hb, hk⟩
  have HOx := hid (OB.keep HO8.out hk (by have := HGL.out; omega))
  have HAx := hid (OB.keep HA8.out hk HGL.out)
  have HSx := hid HS8.out.txt
  have HLx : Hid ((td M8).length ≤ L.length) := Nat.le_trans (Nat.le_trans (dp_len _ _) (dp_len 4 M8)) HL8.out
  obtain ⟨x9, hx⟩ : ∃ x, x = tt M8 := ⟨_, rfl⟩
  obtain ⟨M9, hM⟩ : ∃ x, x = td M8 := ⟨_, rfl⟩
  obtain ⟨b9, hB⟩ : ∃ x, x = tb M8 b8 := ⟨_, rfl⟩
  rw [← hx, ← hM, ← hB] at HSx
  rw [← hM] at HLx
  rw [← hM, ← hB] at hr
  rw [show Value.string (strOf (tt M8)) = .string (strOf x9) by rw [hx]]
  have c0 := HOx.out.cell 8 (v := .string ⟨#[]⟩) rfl
  have f0 := HOx.out.thaw 8
  have hr2 := hr.set (i := 8) (k := w.heap.size + 1) (by have := HGL.out; omega) (.string (strOf x9))
  have ho2 : OB 37 (w9.setCell ⟨w.heap.size + 1, 8, none⟩ (.string (strOf x9))) (w.heap.size + 1) ⟨x1, x2, x3, x4, x5, x6, x7, x8, x9, 0, 0, List.replicate 16 0⟩ := HOx.out.put 8 _ rfl
  have ha2 : OB 37 (w9.setCell ⟨w.heap.size + 1, 8, none⟩ (.string (strOf x9))) w.heap.size zro := HAx.out.other (by omega) 8 _
  have hb2 : Below g w (w9.setCell ⟨w.heap.size + 1, 8, none⟩ (.string (strOf x9))) := (HB8.out.trans hb).setCell (p := ⟨w.heap.size + 1, 8, none⟩) (by have := HGL.out; show g ≤ w.heap.size + 1; omega) _
  have hk2 : KeepG g w (w9.setCell ⟨w.heap.size + 1, 8, none⟩ (.string (strOf x9))) := fun k hk' hg' => (heap_setCell_other _ ⟨w.heap.size + 1, 8, none⟩ k _ (by show k ≠ w.heap.size + 1; omega)).trans ((HK8.out.trans HB8.out hk) k hk' hg')
  clear hr hb hk HOx HAx hx hM hB HO8 HA8 HR8 HB8 HK8 HS8 HL8
  go_upto_region 11 with (fail)
  clear c0 f0
  generalize World.setCell w9 _ _ = V9 at hr2 ho2 ha2 hb2 hk2 ⊢
  have HR9 := hid hr2
  have HO9 := hid ho2
  have HA9 := hid ha2
  have HB9 := hid hb2
  have HK9 := hid hk2
  have HS9 := HSx
  have HL9 := HLx
  clear hr2 ho2 ha2 hb2 hk2 HSx HLx
  go_wp2_with fail
  refine (i64r_keep g M9 b9 _ HR9.out (by have := HLL.out; have := HL9.out; omega)).mono ?_
  rintro e w10 ⟨rfl, hr, hb, hk⟩
  have HOx := hid (OB.keep HO9.out hk (by have := HGL.out; omega))
  have HAx := hid (OB.keep HA9.out hk HGL.out)
  have HSx := hid HS9.out.num
  have HLx : Hid ((dp 8 M9).length ≤ L.length) := Nat.le_trans (dp_len 8 M9) HL9.out
  obtain ⟨x10, hx⟩ : ∃ x, x = AnsP.val (tk 8 M9) := ⟨_, rfl⟩
  obtain ⟨M10, hM⟩ : ∃ x, x = dp 8 M9 := ⟨_, rfl⟩
  obtain ⟨b10, hB⟩ : ∃ x, x = bd 8 M9 b9 := ⟨_, rfl⟩
  rw [← hx, ← hM, ← hB] at HSx
  rw [← hM] at HLx
  rw [← hM, ← hB] at hr
  rw [show Value.int .i64 (AnsW.sg (AnsP.val (tk 8 M9))) = .int .i64 (AnsW.sg x10) by rw [hx]]
  have c0 := HOx.out.cell 9 (v := .int .i64 0) rfl
  have f0 := HOx.out.thaw 9
  have hr2 := hr.set (i := 9) (k := w.heap.size + 1) (by have := HGL.out; omega) (.int .i64 (AnsW.sg x10))
  have ho2 : OB 37 (w10.setCell ⟨w.heap.size + 1, 9, none⟩ (.int .i64 (AnsW.sg x10))) (w.heap.size + 1) ⟨x1, x2, x3, x4, x5, x6, x7, x8, x9, x10, 0, List.replicate 16 0⟩ := HOx.out.put 9 _ rfl
  have ha2 : OB 37 (w10.setCell ⟨w.heap.size + 1, 9, none⟩ (.int .i64 (AnsW.sg x10))) w.heap.size zro := HAx.out.other (by omega) 9 _
  have hb2 : Below g w (w10.setCell ⟨w.heap.size + 1, 9, none⟩ (.int .i64 (AnsW.sg x10))) := (HB9.out.trans hb).setCell (p := ⟨w.heap.size + 1, 9, none⟩) (by have := HGL.out; show g ≤ w.heap.size + 1; omega) _
  have hk2 : KeepG g w (w10.setCell ⟨w.heap.size + 1, 9, none⟩ (.int .i64 (AnsW.sg x10))) := fun k hk' hg' => (heap_setCell_other _ ⟨w.heap.size + 1, 9, none⟩ k _ (by show k ≠ w.heap.size + 1; omega)).trans ((HK9.out.trans HB9.out hk) k hk' hg')
  clear hr hb hk HOx HAx hx hM hB HO9 HA9 HR9 HB9 HK9 HS9 HL9
  go_upto_region 12 with (fail)
  clear c0 f0
  generalize World.setCell w10 _ _ = V10 at hr2 ho2 ha2 hb2 hk2 ⊢
  have HR10 := hid hr2
  have HO10 := hid ho2
  have HA10 := hid ha2
  have HB10 := hid hb2
  have HK10 := hid hk2
  have HS10 := HSx
  have HL10 := HLx
  clear hr2 ho2 ha2 hb2 hk2 HSx HLx
  go_wp2_with fail
  refine (i64r_keep g M10 b10 _ HR10.out (by have := HLL.out; have := HL10.out; omega)).mono ?_
  rintro e w11 ⟨rfl, hr, hb, hk⟩
  have HOx := hid (OB.keep HO10.out hk (by have := HGL.out; omega))
  have HAx := hid (OB.keep HA10.out hk HGL.out)
  have HSx := hid HS10.out.num
  have HLx : Hid ((dp 8 M10).length ≤ L.length) := Nat.le_trans (dp_len 8 M10) HL10.out
  obtain ⟨x11, hx⟩ : ∃ x, x = AnsP.val (tk 8 M10) := ⟨_, rfl⟩
  obtain ⟨M11, hM⟩ : ∃ x, x = dp 8 M10 := ⟨_, rfl⟩
  obtain ⟨b11, hB⟩ : ∃ x, x = bd 8 M10 b10 := ⟨_, rfl⟩
  rw [← hx, ← hM, ← hB] at HSx
  rw [← hM] at HLx
  rw [← hM, ← hB] at hr
  rw [show Value.int .i64 (AnsW.sg (AnsP.val (tk 8 M10))) = .int .i64 (AnsW.sg x11) by rw [hx]]
  have c0 := HOx.out.cell 10 (v := .int .i64 0) rfl
  have f0 := HOx.out.thaw 10
  have hr2 := hr.set (i := 10) (k := w.heap.size + 1) (by have := HGL.out; omega) (.int .i64 (AnsW.sg x11))
  have ho2 : OB 37 (w11.setCell ⟨w.heap.size + 1, 10, none⟩ (.int .i64 (AnsW.sg x11))) (w.heap.size + 1) ⟨x1, x2, x3, x4, x5, x6, x7, x8, x9, x10, x11, List.replicate 16 0⟩ := HOx.out.put 10 _ rfl
  have ha2 : OB 37 (w11.setCell ⟨w.heap.size + 1, 10, none⟩ (.int .i64 (AnsW.sg x11))) w.heap.size zro := HAx.out.other (by omega) 10 _
  have hb2 : Below g w (w11.setCell ⟨w.heap.size + 1, 10, none⟩ (.int .i64 (AnsW.sg x11))) := (HB10.out.trans hb).setCell (p := ⟨w.heap.size + 1, 10, none⟩) (by have := HGL.out; show g ≤ w.heap.size + 1; omega) _
  have hk2 : KeepG g w (w11.setCell ⟨w.heap.size + 1, 10, none⟩ (.int .i64 (AnsW.sg x11))) := fun k hk' hg' => (heap_setCell_other _ ⟨w.heap.size + 1, 10, none⟩ k _ (by show k ≠ w.heap.size + 1; omega)).trans ((HK10.out.trans HB10.out hk) k hk' hg')
  clear hr hb hk HOx HAx hx hM hB HO10 HA10 HR10 HB10 HK10 HS10 HL10
  go_upto_region 13 with (fail)
  clear c0 f0
  generalize World.setCell w11 _ _ = V11 at hr2 ho2 ha2 hb2 hk2 ⊢
  have HR11 := hid hr2
  have HO11 := hid ho2
  have HA11 := hid ha2
  have HB11 := hid hb2
  have HK11 := hid hk2
  have HS11 := HSx
  have HL11 := HLx
  clear hr2 ho2 ha2 hb2 hk2 HSx HLx
  obtain ⟨K, hK⟩ : ∃ K : O, K = ⟨x1, x2, x3, x4, x5, x6, x7, x8, x9, x10, x11, List.replicate 16 0⟩ := ⟨_, rfl⟩
  rw [← hK] at HO11
  have HKR : Hid (K.r = fills M11 0) := by show _ = _; rw [hK, fills_zero]
  have HSK : Hid (Sound L [] K M11 b11) := by rw [hK]; exact HS11.out
  clear hK HS11
  go_wp2
  go_loopw [4, 42] (fun _ vk wr => ∃ (k : Nat) (b : Bool), k ≤ 16 ∧ vk = .int .i64 (k : Int) ∧ Hid (b = (b11 || decide (M11.length < k))) ∧ Hid (IsR g (M11.drop k) b wr) ∧ Hid (OB 37 wr (w.heap.size + 1) { K with r := fills M11 k }) ∧ Hid (OB 37 wr w.heap.size zro) ∧ Hid (Below g w wr) ∧ Hid (KeepG g w wr)) (fun _ vk _ => 16 - (intOf vk).toNat)
  case atStart => exact ⟨0, b11, by omega, rfl, by show _ = _; simp, by rw [List.drop_zero]; exact HR11.out, by show OB _ _ _ _; rw [← HKR.out]; exact HO11.out, HA11.out, HB11.out, HK11.out⟩
  case round =>
    clear HO11 HA11 HR11 HB11 HK11
    obtain ⟨k, b, hk, rfl, HBB, HR, HO, HA, HB, HK⟩ := hrel
    by_cases hlt : k < 16
    · go_wp2_with fail
      refine (u8r_keep g (M11.drop k) b _ HR.out (by have := HLL.out; have := HL11.out; rw [List.length_drop]; omega)).mono ?_
      rintro e w2 ⟨rfl, hr, hb, hk'⟩
      obtain ⟨d, hd, hde⟩ := tk_one (M11.drop k)
      have HDE : Hid (d = M11.getD k 0) := by show _ = _; rw [hde]; simp [List.getD_eq_getElem?_getD]
      rw [hd]
      rw [dp_one, List.drop_drop] at hr
      have HBN : Hid (bd 1 (M11.drop k) b = (b11 || decide (M11.length < k + 1))) := by
        show _ = _
        unfold bd
        rw [HBB.out, List.length_drop, Bool.or_assoc]
        congr 1
        rw [Bool.eq_iff_iff]
        simp
        omega
      obtain ⟨b2, hb2'⟩ : ∃ x, x = bd 1 (M11.drop k) b := ⟨_, rfl⟩
      rw [← hb2'] at hr HBN
      have HOx := hid (OB.keep HO.out hk' (by have := HGL.out; omega))
      have HAx := hid (OB.keep HA.out hk' HGL.out)
      have c0 := HOx.out.cell (11 + k) (v := .int .u8 0) (by
        show (cells _)[11 + k]? = _
        rw [Nat.add_comm]
        unfold cells
        simp only [List.getElem?_cons_succ]
        simp [bcells, fills, hlt])
      have f0 := HOx.out.thaw (11 + k)
      have hr2 := hr.set (i := 11 + k) (k := w.heap.size + 1) (by have := HGL.out; omega) (.int .u8 (d.toNat : Int))
      have ho2 : OB 37 (w2.setCell ⟨w.heap.size + 1, 11 + k, none⟩ (.int .u8 (d.toNat : Int))) (w.heap.size + 1) { K with r := fills M11 (k + 1) } := HOx.out.put (11 + k) _ (by rw [cells_set, ← fills_next, HDE.out])
      have ha2 : OB 37 (w2.setCell ⟨w.heap.size + 1, 11 + k, none⟩ (.int .u8 (d.toNat : Int))) w.heap.size zro := HAx.out.other (by omega) _ _
      have hb2 : Below g w (w2.setCell ⟨w.heap.size + 1, 11 + k, none⟩ (.int .u8 (d.toNat : Int))) := (HB.out.trans hb).setCell (p := ⟨w.heap.size + 1, 11 + k, none⟩) (by have := HGL.out; show g ≤ w.heap.size + 1; omega) _
      have hk2 : KeepG g w (w2.setCell ⟨w.heap.size + 1, 11 + k, none⟩ (.int .u8 (d.toNat : Int))) := fun i hk1 hg' => (heap_setCell_other _ ⟨w.heap.size + 1, 11 + k, none⟩ i _ (by show i ≠ w.heap.size + 1; omega)).trans ((HK.out.trans HB.out hk') i hk1 hg')
      have HR2 := hid hr2
      have HO2 := hid ho2
      have HA2 := hid ha2
      have HB2 := hid hb2
      have HK2 := hid hk2
      clear hr hb hk' HOx HAx hd hde hb2' hr2 ho2 ha2 hb2 hk2
      go_wp2
      go_roundw
      case rel => exact ⟨k + 1, b2, by omega, by go_num, HBN.out, by first | exact HR2.out | (rw [Nat.add_comm k 1]; exact HR2.out), HO2.out, HA2.out, HB2.out, HK2.out⟩
      case measure => simp [intOf]; omega
    · obtain rfl : k = 16 := by omega
      have hr16 : ({ K with r := fills M11 16 } : O).r.length = 16 := fills_len _ _
      have hld := HO.out.load hr16 Try.underlying37 (by kernel_rfl)
      have HR16 := hid hr16
      have HYES : Hid (b = false → dec1 L = some ({ K with r := fills M11 16 }, M11.drop 16)) := fun e => by
        have h1 := HBB.out
        rw [e] at h1
        have h2 : b11 = false := by
          cases h : b11 with
          | false => rfl
          | true => rw [h, Bool.true_or] at h1; cases h1
        have h3 : ¬ M11.length < 16 := by
          intro h
          rw [h2, decide_eq_true h] at h1
          cases h1
        rw [HSK.out.yes h2, rdf, if_pos (by omega), fills_all _ (by omega)]
      have HNO : Hid (b = true → dec1 L = none) := fun e => by
        have h1 := HBB.out
        rw [e] at h1
        cases h : b11 with
        | true => exact HSK.out.no h
        | false =>
          rw [h, Bool.false_or] at h1
          have h3 : M11.length < 16 := of_decide_eq_true h1.symm
          rw [HSK.out.yes h, rdf, if_neg (by omega)]
      have HROW := hid (HA.out.row { K with r := fills M11 16 })
      have HRR := hid (HR.out.row HGL.out (cells { K with r := fills M11 16 }).toArray)
      have HBR := hid (below_row HB.out (Nat.le_of_lt HGL.out) (cells { K with r := fills M11 16 }).toArray)
      have HKR2 : Hid (KeepG g w (wr.setRow w.heap.size (cells { K with r := fills M11 16 }).toArray)) := fun i hi hg' => (setRow_other wr w.heap.size i _ (by omega)).trans (HK.out i hi hg')
      have HLE : Hid ((M11.drop 16).length ≤ L.length) := by have := HL11.out; show _ ≤ _; rw [List.length_drop]; omega
      have HLD := hid hld
      clear hr16 hld
      go_wp2_with (first | refine load_as HLD.out (.tmp 3) rfl rfl rfl ?_ | refine store_op HA.out (size_cells (by rfl)) { K with r := fills M11 16 } HR16.out (.tmp 2) (.tmp 51) rfl rfl rfl rfl (by kernel_rfl) ?_)
      refine bodyPost_ret (res_read HROW.out HR16.out _ rfl) rfl ⟨_, _, b, rfl, HR16.out, HRR.out, HBR.out, HKR2.out, HYES.out, HNO.out, HLE.out⟩
end Go.Proofs.Ytafnekilnbhhlaa.ScrD
