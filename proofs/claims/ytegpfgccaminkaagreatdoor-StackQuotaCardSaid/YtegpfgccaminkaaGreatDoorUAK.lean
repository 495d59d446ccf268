/- Texts that belong together: PrsD, Pbx, PrsH, PrsK, PrsI, OpqA, OpqB, PrsE, PrsF, PrsJ, PrsN, UtfP. -/
import Derived.Test.YtegpfgccaminkaaGreatDoorUAJ
import Derived.Test.YtegpfgccaminkaaGreatDoorUAF
import Derived.Test.YtegpfgccaminkaaGreatDoorUAA
import Derived.Test.YtegpfgccaminkaaGreatDoorUAD
set_option linter.unusedSimpArgs false
set_option linter.unusedVariables false
namespace Go.Proofs.YtegpfgccaminkaaGreatDoor.PrsD
open Go.RowKit Base Regs Base2 UtfA UtfL UrlA HstC Spl PrsP PrsA PrsQ PrsB Ubx PrsC
theorem size_of {L : List UInt8} {n : Nat} (h : L.length ≤ n) : (strOf L).size ≤ n := by rw [size_strOf]; exact h
theorem str_tl (L : List UInt8) : (strOf L).toList = L := by rw [Lib.toList_data]; rfl
theorem ans_some {w w' : World} {o : Option U} {u : U} {A : Option Addr} {n c : Nat} (ho : o = some u) (hb : Below w.heap.size w w') (hp : Own w w' u A n c) : AnsO w o (.returned (.tuple #[.agg (cells u (.slice A n c)), .bool true])) w' :=
 ⟨hb, u, A, n, c, true, rfl, hp, .inl ⟨ho, rfl⟩⟩
theorem cutB_len (b : UInt8) : ∀ L : List UInt8, (cutB b L).1.length ≤ L.length ∧ (cutB b L).2.1.length ≤ L.length
 | [] => by simp [cutB]
 | c :: L => by
  have h := cutB_len b L
  unfold cutB
  split
  ·simp
  ·simp only [List.length_cons]
   omega
end Go.Proofs.YtegpfgccaminkaaGreatDoor.PrsD
namespace Go.Proofs.YtegpfgccaminkaaGreatDoor.Pbx
open Go.RowKit Base Base2 PrsP
def pcells (p : Parts) : Array Value := #[.string (strOf p.sch), .string (strOf p.rest), .string (strOf p.qry), .string (strOf p.frg), .bool p.hq, .bool p.hf]
def P0 : Parts := ⟨[], [], [], [], false, false⟩
def PB (w : World) (g : Nat) (p : Parts) : Prop := w.heap[g]? = some (.cells (pcells p) 151 (0, 0))
variable {w w' : World} {g : Nat} {p : Parts}
theorem PB.lt (h : PB w g p) : g < w.heap.size := (Array.getElem?_eq_some_iff.1 h).1
theorem PB.below (h : PB w g p) (hb : Below w.heap.size w w') : PB w' g p := (hb.block g h.lt).trans h
theorem PB.facts (h : PB w g p) : w.cell? ⟨g, 0, none⟩ = some (.string (strOf p.sch)) ∧ w.cell? ⟨g, 1, none⟩ = some (.string (strOf p.rest)) ∧ w.cell? ⟨g, 2, none⟩ = some (.string (strOf p.qry)) ∧ w.cell? ⟨g, 3, none⟩ = some (.string (strOf p.frg)) ∧ w.cell? ⟨g, 4, none⟩ = some (.bool p.hq) ∧ w.cell? ⟨g, 5, none⟩ = some (.bool p.hf) :=
 ⟨cell_of_row w g 0 _ _ _ h, cell_of_row w g 1 _ _ _ h, cell_of_row w g 2 _ _ _ h, cell_of_row w g 3 _ _ _ h, cell_of_row w g 4 _ _ _ h, cell_of_row w g 5 _ _ _ h⟩
theorem PB.thaw (h : PB w g p) : w.frozen? ⟨g, 0, none⟩ = false ∧ w.frozen? ⟨g, 1, none⟩ = false ∧ w.frozen? ⟨g, 2, none⟩ = false ∧ w.frozen? ⟨g, 3, none⟩ = false ∧ w.frozen? ⟨g, 4, none⟩ = false ∧ w.frozen? ⟨g, 5, none⟩ = false :=
 ⟨frozen_of_row w g 0 _ _ h, frozen_of_row w g 1 _ _ h, frozen_of_row w g 2 _ _ h, frozen_of_row w g 3 _ _ h, frozen_of_row w g 4 _ _ h, frozen_of_row w g 5 _ _ h⟩
theorem PB.sch (h : PB w g p) (s : List UInt8) : PB (w.setCell ⟨g, 0, none⟩ (.string (strOf s))) g { p with sch := s } := heap_setCell_same w g 0 _ _ _ h
theorem PB.rest (h : PB w g p) (s : List UInt8) : PB (w.setCell ⟨g, 1, none⟩ (.string (strOf s))) g { p with rest := s } := heap_setCell_same w g 1 _ _ _ h
theorem PB.qry (h : PB w g p) (s : List UInt8) : PB (w.setCell ⟨g, 2, none⟩ (.string (strOf s))) g { p with qry := s } := heap_setCell_same w g 2 _ _ _ h
theorem PB.frg (h : PB w g p) (s : List UInt8) : PB (w.setCell ⟨g, 3, none⟩ (.string (strOf s))) g { p with frg := s } := heap_setCell_same w g 3 _ _ _ h
theorem PB.hq (h : PB w g p) (b : Bool) : PB (w.setCell ⟨g, 4, none⟩ (.bool b)) g { p with hq := b } := heap_setCell_same w g 4 _ _ _ h
theorem PB.hf (h : PB w g p) (b : Bool) : PB (w.setCell ⟨g, 5, none⟩ (.bool b)) g { p with hf := b } := heap_setCell_same w g 5 _ _ _ h
theorem PB.set (h : PB w g p) {k i : Nat} (x : Value) (hk : g ≠ k) : PB (w.setCell ⟨k, i, none⟩ x) g p := by
 unfold PB
 rw [heap_setCell_other _ _ _ _ hk]
 exact h
theorem PB.row (h : PB w g p) (q : Parts) : PB (w.setRow g (pcells q)) g q := setRow_heap w g (pcells p) (pcells q) _ (0, 0) h
theorem store_parts {ops : Array Oper} {rest : List Oper} {o : Oper} {a : Act} {Q : Exit → Act → World → Prop} (hU : PB w g p) (q : Parts) (x y : Operand) (ho : o.op = .store 151 x y) (hgd : o.guard = none)
  (hx : a.eval x = .pointer (some ⟨g, 0, none⟩)) (hy : a.eval y = .agg (pcells q))
  (h : wpList Tryz.prog ops Q rest (a.put o.dst undef) (w.setRow g (pcells q))) : wpList Tryz.prog ops Q (o :: rest) a w :=
 wpList_store_row hgd 151 x y ho g (pcells q) hx hy 151 (pcells p) hU (by kernel_rfl) rfl (by simp [pcells, Value.oneCell']) h
theorem resP {fn : Func} {a : Tmp} (h : fn.results = #[.cell a 151]) (hU : PB w g p) (tmps : Array Value) (h2 : tmps.getD a undef = .pointer (some ⟨g, 0, none⟩)) :
  (results fn tmps).run Tryz.prog w = .ok (.agg (pcells p)) w :=
 results_cell_row h tmps w g _ _ _ _ h2 hU Tryz.underlying151 rfl (by kernel_rfl)
end Go.Proofs.YtegpfgccaminkaaGreatDoor.Pbx
namespace Go.Proofs.YtegpfgccaminkaaGreatDoor.PrsH
open Go.RowKit Base Regs Base2 UtfA UtfL UrlA PrsP PrsA PrsQ PrsB Ubx Pbx PrsC PrsD Spl
set_option maxRecDepth 100000 in
set_option maxHeartbeats 16000000 in
theorem apart_any (T : List UInt8) (w : World) (hs : T.length ≤ 1000000) (hM : Max w) : Calls Tryz.prog 70 #[.string (strOf T)] w fun e w' => e = .returned (.agg (pcells (PrsP.apart T))) ∧ Below w.heap.size w w' := by
 obtain ⟨O, hO⟩ : ∃ O, O = PrsP.apart T := ⟨_, rfl⟩
 rw [← hO]
 obtain ⟨F1, F2, fb, hHF⟩ : ∃ a b c, cutB 35 T = (a, b, c) := ⟨_, _, _, rfl⟩
 obtain ⟨Q1, Q2, qb, hHQ⟩ : ∃ a b c, cutB 63 F1 = (a, b, c) := ⟨_, _, _, rfl⟩
 obtain ⟨C1, C2, cb, hHC⟩ : ∃ a b c, cutB 58 Q1 = (a, b, c) := ⟨_, _, _, rfl⟩
 have hl1 := cutB_len 35 T
 have hl2 := cutB_len 63 F1
 have hl3 := cutB_len 58 Q1
 rw [hHF] at hl1
 rw [hHQ] at hl2
 rw [hHC] at hl3
 simp only at hl1 hl2 hl3
 unfold PrsP.apart at hO
 rw [hHF] at hO
 simp only at hO
 rw [hHQ] at hO
 simp only at hO
 rw [hHC] at hO
 simp only at hO
 have HF : ∀ w : World, Max w → Calls Tryz.prog 103 #[.string (strOf T), .string ⟨#[35]⟩] w fun e w' => e = .returned (.tuple #[.string (strOf F1), .string (strOf F2), .bool fb]) ∧ Below w.heap.size w w' := fun w ⟨m, hm⟩ => (Tryz.strings_Cut (strOf T) ⟨#[35]⟩ m w (by rw [size_strOf]; omega) hm).mono fun e w' ⟨h1, q, h2⟩ => ⟨by rw [h1, show (strOf T).data.toList = T from rfl, show (⟨#[35]⟩ : ByteArray).data.toList = [35] from rfl, cut_cutB, hHF]; rfl, by rw [h2]; exact Base.below_drewN (Below.refl _ _) _⟩
 have HQ : ∀ w : World, Max w → Calls Tryz.prog 103 #[.string (strOf F1), .string ⟨#[63]⟩] w fun e w' => e = .returned (.tuple #[.string (strOf Q1), .string (strOf Q2), .bool qb]) ∧ Below w.heap.size w w' := fun w ⟨m, hm⟩ => (Tryz.strings_Cut (strOf F1) ⟨#[63]⟩ m w (by rw [size_strOf]; omega) hm).mono fun e w' ⟨h1, q, h2⟩ => ⟨by rw [h1, show (strOf F1).data.toList = F1 from rfl, show (⟨#[63]⟩ : ByteArray).data.toList = [63] from rfl, cut_cutB, hHQ]; rfl, by rw [h2]; exact Base.below_drewN (Below.refl _ _) _⟩
 have HC : ∀ w : World, Max w → Calls Tryz.prog 103 #[.string (strOf Q1), .string ⟨#[58]⟩] w fun e w' => e = .returned (.tuple #[.string (strOf C1), .string (strOf C2), .bool cb]) ∧ Below w.heap.size w w' := fun w ⟨m, hm⟩ => (Tryz.strings_Cut (strOf Q1) ⟨#[58]⟩ m w (by rw [size_strOf]; omega) hm).mono fun e w' ⟨h1, q, h2⟩ => ⟨by rw [h1, show (strOf Q1).data.toList = Q1 from rfl, show (⟨#[58]⟩ : ByteArray).data.toList = [58] from rfl, cut_cutB, hHC]; rfl, by rw [h2]; exact Base.below_drewN (Below.refl _ _) _⟩
 have HF9 := hid HF
 have HQ9 := hid HQ
 have HC9 := hid HC
 have HIS : Hid (∀ w : World, Calls Tryz.prog 104 #[.string (strOf C1)] w fun e w' => e = .returned (.bool (isSch C1)) ∧ w' = w) := fun w => isScheme_any (strOf C1) w (size_of (by omega))
 have HLO : Hid (∀ w : World, Calls Tryz.prog 96 #[.string (strOf C1)] w fun e w' => e = .returned (.string (strOf (lower C1))) ∧ Below w.heap.size w w') := fun w => lower_any (strOf C1) w (by rw [size_strOf]; unfold maxLen; omega)
 have HO := hid hO
 have HM := hid hM
 clear HF HQ HC hHF hHQ hHC hO hM hl1 hl2 hl3
 go_enter Tryz.func70, Tryz.ntmps70
 go_upto_region 1 with (fail)
 generalize hw : World.alloc w _ = w1
 have h1 : PB w1 (w.heap.size) (P0) ∧ Below w.heap.size w w1 := by
  subst hw
  exact laid1 w _ _
 clear hw
 have LE_r : Hid (w.heap.size ≤ w.heap.size) := (Below.refl w.heap.size w).size
 have HBw1 := hid (bel (Below.refl w.heap.size w) h1.2)
 have HXrw1 := hid h1.1
 clear h1
 go_upto_region 2 with (fail)
 generalize hw : World.alloc w1 _ = w2
 have h1 : PB w2 (w1.heap.size) (P0) ∧ Below w1.heap.size w1 w2 := by
  subst hw
  exact laid1 w1 _ _
 clear hw
 have hlr := HXrw1.out.lt
 have NE_r_u : Hid (w.heap.size ≠ w1.heap.size) := by show _ ≠ _; omega
 have NE_u_r : Hid (w1.heap.size ≠ w.heap.size) := by show _ ≠ _; omega
 clear hlr
 have LE_u : Hid (w.heap.size ≤ w1.heap.size) := HBw1.out.size
 have HXrw2 := hid (HXrw1.out.below h1.2)
 have HBw2 := hid (bel HBw1.out h1.2)
 have HXuw2 := hid h1.1
 clear HXrw1 HBw1
 clear h1
 go_wp2_with fail
 refine (HF9.out _ (HM.out.below HBw2.out)).mono ?_
 rintro e w3 ⟨rfl, hbx⟩
 have HXrw3 := hid (HXrw2.out.below hbx)
 have HXuw3 := hid (HXuw2.out.below hbx)
 have HBw3 := hid (bel HBw2.out hbx)
 clear HXrw2 HXuw2 HBw2
 clear hbx
 have cx3 := HXuw3.out.facts.2.2.2.1
 have fx3 := HXuw3.out.thaw.2.2.2.1
 have cx5 := HXuw3.out.facts.2.2.2.2.2
 have fx5 := HXuw3.out.thaw.2.2.2.2.2
 go_upto_region 3 with (fail)
 have hxr := ((HXrw3.out.set (k := w1.heap.size) (i := 3) (.string (strOf F2)) NE_r_u.out).set (k := w1.heap.size) (i := 5) (.bool fb) NE_r_u.out)
 have hxu := ((HXuw3.out.frg F2).hf fb)
 have hb := ((HBw3.out.setCell (p := ⟨w1.heap.size, 3, none⟩) LE_u.out (.string (strOf F2))).setCell (p := ⟨w1.heap.size, 5, none⟩) LE_u.out (.bool fb))
 clear HXrw3 HXuw3 HBw3
 clear cx3 fx3 cx5 fx5
 generalize (World.setCell (World.setCell w3 ⟨w1.heap.size, 3, none⟩ (.string (strOf F2))) ⟨w1.heap.size, 5, none⟩ (.bool fb)) = w4 at hxr hxu hb ⊢
 have HXrw4 : Hid (PB w4 (w.heap.size) (P0)) := hxr
 clear hxr
 have HXuw4 : Hid (PB w4 (w1.heap.size) ({ P0 with frg := F2, hf := fb })) := hxu
 clear hxu
 have HBw4 := hid hb
 clear hb
 go_wp2_with fail
 refine (HQ9.out _ (HM.out.below HBw4.out)).mono ?_
 rintro e w5 ⟨rfl, hbx⟩
 have HXrw5 := hid (HXrw4.out.below hbx)
 have HXuw5 := hid (HXuw4.out.below hbx)
 have HBw5 := hid (bel HBw4.out hbx)
 clear HXrw4 HXuw4 HBw4
 clear hbx
 have cx2 := HXuw5.out.facts.2.2.1
 have fx2 := HXuw5.out.thaw.2.2.1
 have cx4 := HXuw5.out.facts.2.2.2.2.1
 have fx4 := HXuw5.out.thaw.2.2.2.2.1
 go_upto_region 4 with (fail)
 have hxr := ((HXrw5.out.set (k := w1.heap.size) (i := 2) (.string (strOf Q2)) NE_r_u.out).set (k := w1.heap.size) (i := 4) (.bool qb) NE_r_u.out)
 have hxu := ((HXuw5.out.qry Q2).hq qb)
 have hb := ((HBw5.out.setCell (p := ⟨w1.heap.size, 2, none⟩) LE_u.out (.string (strOf Q2))).setCell (p := ⟨w1.heap.size, 4, none⟩) LE_u.out (.bool qb))
 clear HXrw5 HXuw5 HBw5
 clear cx2 fx2 cx4 fx4
 generalize (World.setCell (World.setCell w5 ⟨w1.heap.size, 2, none⟩ (.string (strOf Q2))) ⟨w1.heap.size, 4, none⟩ (.bool qb)) = w6 at hxr hxu hb ⊢
 have HXrw6 : Hid (PB w6 (w.heap.size) (P0)) := hxr
 clear hxr
 have HXuw6 : Hid (PB w6 (w1.heap.size) ({ P0 with frg := F2, hf := fb, qry := Q2, hq := qb })) := hxu
 clear hxu
 have HBw6 := hid hb
 clear hb
 have cx1 := HXuw6.out.facts.2.1
 have fx1 := HXuw6.out.thaw.2.1
 go_upto_region 5 with (fail)
 have hxr := (HXrw6.out.set (k := w1.heap.size) (i := 1) (.string (strOf Q1)) NE_r_u.out)
 have hxu := (HXuw6.out.rest Q1)
 have hb := (HBw6.out.setCell (p := ⟨w1.heap.size, 1, none⟩) LE_u.out (.string (strOf Q1)))
 clear HXrw6 HXuw6 HBw6
 clear cx1 fx1
 generalize (World.setCell w6 ⟨w1.heap.size, 1, none⟩ (.string (strOf Q1))) = w7 at hxr hxu hb ⊢
 have HXrw7 : Hid (PB w7 (w.heap.size) (P0)) := hxr
 clear hxr
 have HXuw7 : Hid (PB w7 (w1.heap.size) ({ P0 with frg := F2, hf := fb, qry := Q2, hq := qb, rest := Q1 })) := hxu
 clear hxu
 have HBw7 := hid hb
 clear hb
 go_wp2_with fail
 refine (HC9.out _ (HM.out.below HBw7.out)).mono ?_
 rintro e w8 ⟨rfl, hbx⟩
 have HXrw8 := hid (HXrw7.out.below hbx)
 have HXuw8 := hid (HXuw7.out.below hbx)
 have HBw8 := hid (bel HBw7.out hbx)
 clear HXrw7 HXuw7 HBw7
 clear hbx
 cases cb with
 | false =>
  have HO3 : Hid (O = ⟨[], Q1, Q2, F2, qb, fb⟩) := by show _ = _; rw [HO.out]; first | done | rfl | simp
  clear HO
  obtain ⟨p0, p1, p2, p3, p4, p5⟩ := HXuw8.out.facts
  go_wp2_with (refine store_parts HXrw8.out ({ P0 with frg := F2, hf := fb, qry := Q2, hq := qb, rest := Q1 }) (.tmp 2) (.tmp 41) rfl rfl rfl rfl ?_)
  try simp only [Exit.inBlock, Exit.then]
  exact bodyPost_ret (w := World.setRow w8 (w.heap.size) (pcells ({ P0 with frg := F2, hf := fb, qry := Q2, hq := qb, rest := Q1 }))) (resP (p := { P0 with frg := F2, hf := fb, qry := Q2, hq := qb, rest := Q1 }) rfl (HXrw8.out.row ({ P0 with frg := F2, hf := fb, qry := Q2, hq := qb, rest := Q1 })) _ rfl) rfl ⟨by rw [HO3.out]; first | done | rfl, below_setRow HBw8.out LE_r.out _⟩
 | true =>
  cases hi : isSch C1 with
  | false =>
   have HO3 : Hid (O = ⟨[], Q1, Q2, F2, qb, fb⟩) := by show _ = _; rw [HO.out, hi]; first | done | rfl | simp
   rw [hi] at HIS
   clear HO hi
   go_wp2_with fail
   refine (HIS.out _).mono ?_
   rintro e wx ⟨rfl, hwx⟩
   obtain rfl : w8 = wx := by first | exact hwx | exact hwx.symm
   clear hwx
   obtain ⟨p0, p1, p2, p3, p4, p5⟩ := HXuw8.out.facts
   go_wp2_with (refine store_parts HXrw8.out ({ P0 with frg := F2, hf := fb, qry := Q2, hq := qb, rest := Q1 }) (.tmp 2) (.tmp 41) rfl rfl rfl rfl ?_)
   try simp only [Exit.inBlock, Exit.then]
   exact bodyPost_ret (w := World.setRow w8 (w.heap.size) (pcells ({ P0 with frg := F2, hf := fb, qry := Q2, hq := qb, rest := Q1 }))) (resP (p := { P0 with frg := F2, hf := fb, qry := Q2, hq := qb, rest := Q1 }) rfl (HXrw8.out.row ({ P0 with frg := F2, hf := fb, qry := Q2, hq := qb, rest := Q1 })) _ rfl) rfl ⟨by rw [HO3.out]; first | done | rfl, below_setRow HBw8.out LE_r.out _⟩
  | true =>
   have HO3 : Hid (O = ⟨lower C1, C2, Q2, F2, qb, fb⟩) := by show _ = _; rw [HO.out, hi]; first | done | rfl | simp
   rw [hi] at HIS
   clear HO hi
   go_wp2_with fail
   refine (HIS.out _).mono ?_
   rintro e wx ⟨rfl, hwx⟩
   obtain rfl : w8 = wx := by first | exact hwx | exact hwx.symm
   clear hwx
   go_wp2_with fail
   refine (HLO.out _).mono ?_
   rintro e w9 ⟨rfl, hbx⟩
   have HXrw9 := hid (HXrw8.out.below hbx)
   have HXuw9 := hid (HXuw8.out.below hbx)
   have HBw9 := hid (bel HBw8.out hbx)
   clear HXrw8 HXuw8 HBw8
   clear hbx
   have cx0 := HXuw9.out.facts.1
   have fx0 := HXuw9.out.thaw.1
   have cx1 := HXuw9.out.facts.2.1
   have fx1 := HXuw9.out.thaw.2.1
   go_upto_region 8 with (fail)
   have hxr := ((HXrw9.out.set (k := w1.heap.size) (i := 0) (.string (strOf (lower C1))) NE_r_u.out).set (k := w1.heap.size) (i := 1) (.string (strOf C2)) NE_r_u.out)
   have hxu := ((HXuw9.out.sch (lower C1)).rest C2)
   have hb := ((HBw9.out.setCell (p := ⟨w1.heap.size, 0, none⟩) LE_u.out (.string (strOf (lower C1)))).setCell (p := ⟨w1.heap.size, 1, none⟩) LE_u.out (.string (strOf C2)))
   clear HXrw9 HXuw9 HBw9
   clear cx0 fx0 cx1 fx1
   generalize (World.setCell (World.setCell w9 ⟨w1.heap.size, 0, none⟩ (.string (strOf (lower C1)))) ⟨w1.heap.size, 1, none⟩ (.string (strOf C2))) = w10 at hxr hxu hb ⊢
   have HXrw10 : Hid (PB w10 (w.heap.size) (P0)) := hxr
   clear hxr
   have HXuw10 : Hid (PB w10 (w1.heap.size) ({ P0 with frg := F2, hf := fb, qry := Q2, hq := qb, rest := C2, sch := lower C1 })) := hxu
   clear hxu
   have HBw10 := hid hb
   clear hb
   obtain ⟨p0, p1, p2, p3, p4, p5⟩ := HXuw10.out.facts
   go_wp2_with (refine store_parts HXrw10.out ({ P0 with frg := F2, hf := fb, qry := Q2, hq := qb, rest := C2, sch := lower C1 }) (.tmp 2) (.tmp 41) rfl rfl rfl rfl ?_)
   try simp only [Exit.inBlock, Exit.then]
   exact bodyPost_ret (w := World.setRow w10 (w.heap.size) (pcells ({ P0 with frg := F2, hf := fb, qry := Q2, hq := qb, rest := C2, sch := lower C1 }))) (resP (p := { P0 with frg := F2, hf := fb, qry := Q2, hq := qb, rest := C2, sch := lower C1 }) rfl (HXrw10.out.row ({ P0 with frg := F2, hf := fb, qry := Q2, hq := qb, rest := C2, sch := lower C1 })) _ rfl) rfl ⟨by rw [HO3.out]; first | done | rfl, below_setRow HBw10.out LE_r.out _⟩
set_option maxRecDepth 100000 in
set_option maxHeartbeats 16000000 in
theorem finish_any (u : U) (p : Parts) (A : Option Addr) (n c : Nat) (w : World) (h1 : p.qry.length ≤ 1000000) (h2 : p.frg.length ≤ 1000000) : Calls Tryz.prog 73 #[.agg (cells u (.slice A n c)), .agg (pcells p)] w fun e w' => e = .returned (.agg (cells (PrsP.finish u p) (.slice A n c))) ∧ Below w.heap.size w w' := by
 obtain ⟨O, hO⟩ : ∃ O, O = PrsP.finish u p := ⟨_, rfl⟩
 rw [← hO]
 have HSP : Hid (∀ w : World, Calls Tryz.prog 112 #[.string (strOf u.sch)] w fun e w' => e = .returned (.bool (special u.sch)) ∧ w' = w) := fun w => special_any (strOf u.sch) w
 obtain ⟨pv, hpv⟩ : ∃ q, q = Value.slice A n c := ⟨_, rfl⟩
 obtain ⟨s, r, q, f, hq, hf⟩ := p
 have HO := hid hO
 clear hO
 simp only at h1 h2
 go_enter Tryz.func73, Tryz.ntmps73
 go_upto_region 1 with (fail)
 generalize hw : World.alloc (World.alloc (World.alloc w _) _) _ = w1
 have h1 : UB w1 (w.heap.size) (u) (.slice A n c) ∧ PB w1 ((w.heap.size + 1)) (⟨s, r, q, f, hq, hf⟩) ∧ UB w1 ((w.heap.size + 1 + 1)) (U0) (.slice none 0 0) ∧ Below w.heap.size w w1 := by
  subst hw
  exact laid3 w _ _ _ _ _ _
 clear hw
 have NE_u_p : Hid (w.heap.size ≠ (w.heap.size + 1)) := by show _ ≠ _; omega
 have NE_u_r : Hid (w.heap.size ≠ (w.heap.size + 1 + 1)) := by show _ ≠ _; omega
 have LE_u : Hid (w.heap.size ≤ w.heap.size) := by show _ ≤ _; omega
 have NE_p_u : Hid ((w.heap.size + 1) ≠ w.heap.size) := by show _ ≠ _; omega
 have NE_p_r : Hid ((w.heap.size + 1) ≠ (w.heap.size + 1 + 1)) := by show _ ≠ _; omega
 have LE_p : Hid (w.heap.size ≤ (w.heap.size + 1)) := by show _ ≤ _; omega
 have NE_r_u : Hid ((w.heap.size + 1 + 1) ≠ w.heap.size) := by show _ ≠ _; omega
 have NE_r_p : Hid ((w.heap.size + 1 + 1) ≠ (w.heap.size + 1)) := by show _ ≠ _; omega
 have LE_r : Hid (w.heap.size ≤ (w.heap.size + 1 + 1)) := by show _ ≤ _; omega
 have HXuw1 := hid h1.1
 have HXpw1 := hid h1.2.1
 have HXrw1 := hid h1.2.2.1
 have HBw1 := hid h1.2.2.2
 clear h1
 cases hq with
 | false =>
  have HO2 : Hid (O = if hf = true then { u with hf := true, frg := EscE.enc 1 f } else u) := by show _ = _; rw [HO.out]; unfold PrsP.finish; first | done | rfl | simp
  obtain ⟨p0, p1, p2, p3, p4, p5⟩ := HXpw1.out.facts
  go_upto_region 6 with (fail)
  clear p0 p1 p2 p3 p4 p5
  cases hf with
  | false =>
   have HO3 : Hid (O = u) := by show _ = _; rw [HO2.out]; first | done | rfl | simp
   obtain ⟨p0, p1, p2, p3, p4, p5⟩ := HXpw1.out.facts
   obtain ⟨c0, c1, c2', c3, c4, c5, c6, c7, c8, c9, c10, c11, c12⟩ := HXuw1.out.facts
   go_wp2_with (refine store_box HXrw1.out (u) A n c (.tmp 4) (.tmp 26) rfl rfl rfl rfl ?_)
   try simp only [Exit.inBlock, Exit.then]
   exact bodyPost_ret (w := World.setRow w1 (w.heap.size + 1 + 1) (cells (u) (.slice A n c))) (res1 (u := u) (p := .slice A n c) rfl (HXrw1.out.row (u) _) _ rfl) rfl ⟨by rw [HO3.out]; first | done | rfl, below_setRow HBw1.out LE_r.out _⟩
  | true =>
   have HO3 : Hid (O = { u with hf := true, frg := EscE.enc 1 f }) := by show _ = _; rw [HO2.out]; first | done | rfl | simp
   obtain ⟨p0, p1, p2, p3, p4, p5⟩ := HXpw1.out.facts
   have hcv := fun (w : World) s => run_bytes_of_string (P := Tryz.prog) w 9 39 5 s Tryz.underlying9 Tryz.underlying39 Tryz.underlying5
   go_wp2_with fail
   clear hcv
   refine (EscE.encode_any 1 _ _ _ f _ (rds_made (strOf f) _ _ _) (size_of (by omega))).mono ?_
   rintro e w2 ⟨rfl, hb0⟩
   have hbx : Below w1.heap.size w1 w2 := bel (((Below.refl w1.heap.size w1).alloc (Nat.le_refl _) _).drew) hb0
   clear hb0
   have HXuw2 := hid (HXuw1.out.below hbx)
   have HXpw2 := hid (HXpw1.out.below hbx)
   have HXrw2 := hid (HXrw1.out.below hbx)
   have HBw2 := hid (bel HBw1.out hbx)
   clear HXuw1 HXpw1 HXrw1 HBw1
   clear hbx
   clear p0 p1 p2 p3 p4 p5
   have cx10 := HXuw2.out.facts.2.2.2.2.2.2.2.2.2.2.1
   have fx10 := HXuw2.out.thaw.2.2.2.2.2.2.2.2.2.2.1
   have cx12 := HXuw2.out.facts.2.2.2.2.2.2.2.2.2.2.2.2
   have fx12 := HXuw2.out.thaw.2.2.2.2.2.2.2.2.2.2.2.2
   go_upto_region 8 with (fail)
   have hxu := ((HXuw2.out.hf true).frg (EscE.enc 1 f))
   have hxp := ((HXpw2.out.set (k := w.heap.size) (i := 10) (.bool true) NE_p_u.out).set (k := w.heap.size) (i := 12) (.string (strOf (EscE.enc 1 f))) NE_p_u.out)
   have hxr := ((HXrw2.out.set (k := w.heap.size) (i := 10) (.bool true) NE_r_u.out).set (k := w.heap.size) (i := 12) (.string (strOf (EscE.enc 1 f))) NE_r_u.out)
   have hb := ((HBw2.out.setCell (p := ⟨w.heap.size, 10, none⟩) LE_u.out (.bool true)).setCell (p := ⟨w.heap.size, 12, none⟩) LE_u.out (.string (strOf (EscE.enc 1 f))))
   clear HXuw2 HXpw2 HXrw2 HBw2
   clear cx10 fx10 cx12 fx12
   generalize (World.setCell (World.setCell w2 ⟨w.heap.size, 10, none⟩ (.bool true)) ⟨w.heap.size, 12, none⟩ (.string (strOf (EscE.enc 1 f)))) = w3 at hxu hxp hxr hb ⊢
   have HXuw3 : Hid (UB w3 (w.heap.size) ({ u with hf := true, frg := EscE.enc 1 f }) (.slice A n c)) := hxu
   clear hxu
   have HXpw3 : Hid (PB w3 ((w.heap.size + 1)) (⟨s, r, q, f, false, true⟩)) := hxp
   clear hxp
   have HXrw3 : Hid (UB w3 ((w.heap.size + 1 + 1)) (U0) (.slice none 0 0)) := hxr
   clear hxr
   have HBw3 := hid hb
   clear hb
   obtain ⟨c0, c1, c2', c3, c4, c5, c6, c7, c8, c9, c10, c11, c12⟩ := HXuw3.out.facts
   go_wp2_with (refine store_box HXrw3.out ({ u with hf := true, frg := EscE.enc 1 f }) A n c (.tmp 4) (.tmp 26) rfl rfl rfl rfl ?_)
   try simp only [Exit.inBlock, Exit.then]
   exact bodyPost_ret (w := World.setRow w3 (w.heap.size + 1 + 1) (cells ({ u with hf := true, frg := EscE.enc 1 f }) (.slice A n c))) (res1 (u := { u with hf := true, frg := EscE.enc 1 f }) (p := .slice A n c) rfl (HXrw3.out.row ({ u with hf := true, frg := EscE.enc 1 f }) _) _ rfl) rfl ⟨by rw [HO3.out]; first | done | rfl, below_setRow HBw3.out LE_r.out _⟩
 | true =>
  cases hs : special u.sch with
  | false =>
   have HO2 : Hid (O = if hf = true then { { u with hq := true, qry := EscE.enc 2 q } with hf := true, frg := EscE.enc 1 f } else { u with hq := true, qry := EscE.enc 2 q }) := by show _ = _; rw [HO.out]; unfold PrsP.finish; simp only [hs]; first | done | rfl | simp
   rw [hs] at HSP
   clear hs
   obtain ⟨p0, p1, p2, p3, p4, p5⟩ := HXpw1.out.facts
   have cs0 := HXuw1.out.facts.1
   go_wp2_with fail
   refine (HSP.out _).mono ?_
   rintro e wx ⟨rfl, hwx⟩
   obtain rfl : w1 = wx := by first | exact hwx | exact hwx.symm
   clear hwx
   have hcv := fun (w : World) s => run_bytes_of_string (P := Tryz.prog) w 9 39 5 s Tryz.underlying9 Tryz.underlying39 Tryz.underlying5
   go_wp2_with fail
   clear hcv
   refine (EscE.encode_any 2 _ _ _ q _ (rds_made (strOf q) _ _ _) (size_of (by omega))).mono ?_
   rintro e w2 ⟨rfl, hb0⟩
   have hbx : Below w1.heap.size w1 w2 := bel (((Below.refl w1.heap.size w1).alloc (Nat.le_refl _) _).drew) hb0
   clear hb0
   have HXuw2 := hid (HXuw1.out.below hbx)
   have HXpw2 := hid (HXpw1.out.below hbx)
   have HXrw2 := hid (HXrw1.out.below hbx)
   have HBw2 := hid (bel HBw1.out hbx)
   clear HXuw1 HXpw1 HXrw1 HBw1
   clear hbx
   clear p0 p1 p2 p3 p4 p5
   clear cs0
   have cx9 := HXuw2.out.facts.2.2.2.2.2.2.2.2.2.1
   have fx9 := HXuw2.out.thaw.2.2.2.2.2.2.2.2.2.1
   have cx11 := HXuw2.out.facts.2.2.2.2.2.2.2.2.2.2.2.1
   have fx11 := HXuw2.out.thaw.2.2.2.2.2.2.2.2.2.2.2.1
   go_upto_region 6 with (fail)
   have hxu := ((HXuw2.out.hq true).qry (EscE.enc 2 q))
   have hxp := ((HXpw2.out.set (k := w.heap.size) (i := 9) (.bool true) NE_p_u.out).set (k := w.heap.size) (i := 11) (.string (strOf (EscE.enc 2 q))) NE_p_u.out)
   have hxr := ((HXrw2.out.set (k := w.heap.size) (i := 9) (.bool true) NE_r_u.out).set (k := w.heap.size) (i := 11) (.string (strOf (EscE.enc 2 q))) NE_r_u.out)
   have hb := ((HBw2.out.setCell (p := ⟨w.heap.size, 9, none⟩) LE_u.out (.bool true)).setCell (p := ⟨w.heap.size, 11, none⟩) LE_u.out (.string (strOf (EscE.enc 2 q))))
   clear HXuw2 HXpw2 HXrw2 HBw2
   clear cx9 fx9 cx11 fx11
   generalize (World.setCell (World.setCell w2 ⟨w.heap.size, 9, none⟩ (.bool true)) ⟨w.heap.size, 11, none⟩ (.string (strOf (EscE.enc 2 q)))) = w3 at hxu hxp hxr hb ⊢
   have HXuw3 : Hid (UB w3 (w.heap.size) ({ u with hq := true, qry := EscE.enc 2 q }) (.slice A n c)) := hxu
   clear hxu
   have HXpw3 : Hid (PB w3 ((w.heap.size + 1)) (⟨s, r, q, f, true, hf⟩)) := hxp
   clear hxp
   have HXrw3 : Hid (UB w3 ((w.heap.size + 1 + 1)) (U0) (.slice none 0 0)) := hxr
   clear hxr
   have HBw3 := hid hb
   clear hb
   cases hf with
   | false =>
    have HO3 : Hid (O = { u with hq := true, qry := EscE.enc 2 q }) := by show _ = _; rw [HO2.out]; first | done | rfl | simp
    obtain ⟨p0, p1, p2, p3, p4, p5⟩ := HXpw3.out.facts
    obtain ⟨c0, c1, c2', c3, c4, c5, c6, c7, c8, c9, c10, c11, c12⟩ := HXuw3.out.facts
    go_wp2_with (refine store_box HXrw3.out ({ u with hq := true, qry := EscE.enc 2 q }) A n c (.tmp 4) (.tmp 26) rfl rfl rfl rfl ?_)
    try simp only [Exit.inBlock, Exit.then]
    exact bodyPost_ret (w := World.setRow w3 (w.heap.size + 1 + 1) (cells ({ u with hq := true, qry := EscE.enc 2 q }) (.slice A n c))) (res1 (u := { u with hq := true, qry := EscE.enc 2 q }) (p := .slice A n c) rfl (HXrw3.out.row ({ u with hq := true, qry := EscE.enc 2 q }) _) _ rfl) rfl ⟨by rw [HO3.out]; first | done | rfl, below_setRow HBw3.out LE_r.out _⟩
   | true =>
    have HO3 : Hid (O = { u with hq := true, qry := EscE.enc 2 q, hf := true, frg := EscE.enc 1 f }) := by show _ = _; rw [HO2.out]; first | done | rfl | simp
    obtain ⟨p0, p1, p2, p3, p4, p5⟩ := HXpw3.out.facts
    have hcv := fun (w : World) s => run_bytes_of_string (P := Tryz.prog) w 9 39 5 s Tryz.underlying9 Tryz.underlying39 Tryz.underlying5
    go_wp2_with fail
    clear hcv
    refine (EscE.encode_any 1 _ _ _ f _ (rds_made (strOf f) _ _ _) (size_of (by omega))).mono ?_
    rintro e w4 ⟨rfl, hb0⟩
    have hbx : Below w3.heap.size w3 w4 := bel (((Below.refl w3.heap.size w3).alloc (Nat.le_refl _) _).drew) hb0
    clear hb0
    have HXuw4 := hid (HXuw3.out.below hbx)
    have HXpw4 := hid (HXpw3.out.below hbx)
    have HXrw4 := hid (HXrw3.out.below hbx)
    have HBw4 := hid (bel HBw3.out hbx)
    clear HXuw3 HXpw3 HXrw3 HBw3
    clear hbx
    clear p0 p1 p2 p3 p4 p5
    have cx10 := HXuw4.out.facts.2.2.2.2.2.2.2.2.2.2.1
    have fx10 := HXuw4.out.thaw.2.2.2.2.2.2.2.2.2.2.1
    have cx12 := HXuw4.out.facts.2.2.2.2.2.2.2.2.2.2.2.2
    have fx12 := HXuw4.out.thaw.2.2.2.2.2.2.2.2.2.2.2.2
    go_upto_region 8 with (fail)
    have hxu := ((HXuw4.out.hf true).frg (EscE.enc 1 f))
    have hxp := ((HXpw4.out.set (k := w.heap.size) (i := 10) (.bool true) NE_p_u.out).set (k := w.heap.size) (i := 12) (.string (strOf (EscE.enc 1 f))) NE_p_u.out)
    have hxr := ((HXrw4.out.set (k := w.heap.size) (i := 10) (.bool true) NE_r_u.out).set (k := w.heap.size) (i := 12) (.string (strOf (EscE.enc 1 f))) NE_r_u.out)
    have hb := ((HBw4.out.setCell (p := ⟨w.heap.size, 10, none⟩) LE_u.out (.bool true)).setCell (p := ⟨w.heap.size, 12, none⟩) LE_u.out (.string (strOf (EscE.enc 1 f))))
    clear HXuw4 HXpw4 HXrw4 HBw4
    clear cx10 fx10 cx12 fx12
    generalize (World.setCell (World.setCell w4 ⟨w.heap.size, 10, none⟩ (.bool true)) ⟨w.heap.size, 12, none⟩ (.string (strOf (EscE.enc 1 f)))) = w5 at hxu hxp hxr hb ⊢
    have HXuw5 : Hid (UB w5 (w.heap.size) ({ u with hq := true, qry := EscE.enc 2 q, hf := true, frg := EscE.enc 1 f }) (.slice A n c)) := hxu
    clear hxu
    have HXpw5 : Hid (PB w5 ((w.heap.size + 1)) (⟨s, r, q, f, true, true⟩)) := hxp
    clear hxp
    have HXrw5 : Hid (UB w5 ((w.heap.size + 1 + 1)) (U0) (.slice none 0 0)) := hxr
    clear hxr
    have HBw5 := hid hb
    clear hb
    obtain ⟨c0, c1, c2', c3, c4, c5, c6, c7, c8, c9, c10, c11, c12⟩ := HXuw5.out.facts
    go_wp2_with (refine store_box HXrw5.out ({ u with hq := true, qry := EscE.enc 2 q, hf := true, frg := EscE.enc 1 f }) A n c (.tmp 4) (.tmp 26) rfl rfl rfl rfl ?_)
    try simp only [Exit.inBlock, Exit.then]
    exact bodyPost_ret (w := World.setRow w5 (w.heap.size + 1 + 1) (cells ({ u with hq := true, qry := EscE.enc 2 q, hf := true, frg := EscE.enc 1 f }) (.slice A n c))) (res1 (u := { u with hq := true, qry := EscE.enc 2 q, hf := true, frg := EscE.enc 1 f }) (p := .slice A n c) rfl (HXrw5.out.row ({ u with hq := true, qry := EscE.enc 2 q, hf := true, frg := EscE.enc 1 f }) _) _ rfl) rfl ⟨by rw [HO3.out]; first | done | rfl, below_setRow HBw5.out LE_r.out _⟩
  | true =>
   have HO2 : Hid (O = if hf = true then { { u with hq := true, qry := EscE.enc 3 q } with hf := true, frg := EscE.enc 1 f } else { u with hq := true, qry := EscE.enc 3 q }) := by show _ = _; rw [HO.out]; unfold PrsP.finish; simp only [hs]; first | done | rfl | simp
   rw [hs] at HSP
   clear hs
   obtain ⟨p0, p1, p2, p3, p4, p5⟩ := HXpw1.out.facts
   have cs0 := HXuw1.out.facts.1
   go_wp2_with fail
   refine (HSP.out _).mono ?_
   rintro e wx ⟨rfl, hwx⟩
   obtain rfl : w1 = wx := by first | exact hwx | exact hwx.symm
   clear hwx
   have hcv := fun (w : World) s => run_bytes_of_string (P := Tryz.prog) w 9 39 5 s Tryz.underlying9 Tryz.underlying39 Tryz.underlying5
   go_wp2_with fail
   clear hcv
   refine (EscE.encode_any 3 _ _ _ q _ (rds_made (strOf q) _ _ _) (size_of (by omega))).mono ?_
   rintro e w2 ⟨rfl, hb0⟩
   have hbx : Below w1.heap.size w1 w2 := bel (((Below.refl w1.heap.size w1).alloc (Nat.le_refl _) _).drew) hb0
   clear hb0
   have HXuw2 := hid (HXuw1.out.below hbx)
   have HXpw2 := hid (HXpw1.out.below hbx)
   have HXrw2 := hid (HXrw1.out.below hbx)
   have HBw2 := hid (bel HBw1.out hbx)
   clear HXuw1 HXpw1 HXrw1 HBw1
   clear hbx
   clear p0 p1 p2 p3 p4 p5
   clear cs0
   have cx9 := HXuw2.out.facts.2.2.2.2.2.2.2.2.2.1
   have fx9 := HXuw2.out.thaw.2.2.2.2.2.2.2.2.2.1
   have cx11 := HXuw2.out.facts.2.2.2.2.2.2.2.2.2.2.2.1
   have fx11 := HXuw2.out.thaw.2.2.2.2.2.2.2.2.2.2.2.1
   go_upto_region 6 with (fail)
   have hxu := ((HXuw2.out.hq true).qry (EscE.enc 3 q))
   have hxp := ((HXpw2.out.set (k := w.heap.size) (i := 9) (.bool true) NE_p_u.out).set (k := w.heap.size) (i := 11) (.string (strOf (EscE.enc 3 q))) NE_p_u.out)
   have hxr := ((HXrw2.out.set (k := w.heap.size) (i := 9) (.bool true) NE_r_u.out).set (k := w.heap.size) (i := 11) (.string (strOf (EscE.enc 3 q))) NE_r_u.out)
   have hb := ((HBw2.out.setCell (p := ⟨w.heap.size, 9, none⟩) LE_u.out (.bool true)).setCell (p := ⟨w.heap.size, 11, none⟩) LE_u.out (.string (strOf (EscE.enc 3 q))))
   clear HXuw2 HXpw2 HXrw2 HBw2
   clear cx9 fx9 cx11 fx11
   generalize (World.setCell (World.setCell w2 ⟨w.heap.size, 9, none⟩ (.bool true)) ⟨w.heap.size, 11, none⟩ (.string (strOf (EscE.enc 3 q)))) = w3 at hxu hxp hxr hb ⊢
   have HXuw3 : Hid (UB w3 (w.heap.size) ({ u with hq := true, qry := EscE.enc 3 q }) (.slice A n c)) := hxu
   clear hxu
   have HXpw3 : Hid (PB w3 ((w.heap.size + 1)) (⟨s, r, q, f, true, hf⟩)) := hxp
   clear hxp
   have HXrw3 : Hid (UB w3 ((w.heap.size + 1 + 1)) (U0) (.slice none 0 0)) := hxr
   clear hxr
   have HBw3 := hid hb
   clear hb
   cases hf with
   | false =>
    have HO3 : Hid (O = { u with hq := true, qry := EscE.enc 3 q }) := by show _ = _; rw [HO2.out]; first | done | rfl | simp
    obtain ⟨p0, p1, p2, p3, p4, p5⟩ := HXpw3.out.facts
    obtain ⟨c0, c1, c2', c3, c4, c5, c6, c7, c8, c9, c10, c11, c12⟩ := HXuw3.out.facts
    go_wp2_with (refine store_box HXrw3.out ({ u with hq := true, qry := EscE.enc 3 q }) A n c (.tmp 4) (.tmp 26) rfl rfl rfl rfl ?_)
    try simp only [Exit.inBlock, Exit.then]
    exact bodyPost_ret (w := World.setRow w3 (w.heap.size + 1 + 1) (cells ({ u with hq := true, qry := EscE.enc 3 q }) (.slice A n c))) (res1 (u := { u with hq := true, qry := EscE.enc 3 q }) (p := .slice A n c) rfl (HXrw3.out.row ({ u with hq := true, qry := EscE.enc 3 q }) _) _ rfl) rfl ⟨by rw [HO3.out]; first | done | rfl, below_setRow HBw3.out LE_r.out _⟩
   | true =>
    have HO3 : Hid (O = { u with hq := true, qry := EscE.enc 3 q, hf := true, frg := EscE.enc 1 f }) := by show _ = _; rw [HO2.out]; first | done | rfl | simp
    obtain ⟨p0, p1, p2, p3, p4, p5⟩ := HXpw3.out.facts
    have hcv := fun (w : World) s => run_bytes_of_string (P := Tryz.prog) w 9 39 5 s Tryz.underlying9 Tryz.underlying39 Tryz.underlying5
    go_wp2_with fail
    clear hcv
    refine (EscE.encode_any 1 _ _ _ f _ (rds_made (strOf f) _ _ _) (size_of (by omega))).mono ?_
    rintro e w4 ⟨rfl, hb0⟩
    have hbx : Below w3.heap.size w3 w4 := bel (((Below.refl w3.heap.size w3).alloc (Nat.le_refl _) _).drew) hb0
    clear hb0
    have HXuw4 := hid (HXuw3.out.below hbx)
    have HXpw4 := hid (HXpw3.out.below hbx)
    have HXrw4 := hid (HXrw3.out.below hbx)
    have HBw4 := hid (bel HBw3.out hbx)
    clear HXuw3 HXpw3 HXrw3 HBw3
    clear hbx
    clear p0 p1 p2 p3 p4 p5
    have cx10 := HXuw4.out.facts.2.2.2.2.2.2.2.2.2.2.1
    have fx10 := HXuw4.out.thaw.2.2.2.2.2.2.2.2.2.2.1
    have cx12 := HXuw4.out.facts.2.2.2.2.2.2.2.2.2.2.2.2
    have fx12 := HXuw4.out.thaw.2.2.2.2.2.2.2.2.2.2.2.2
    go_upto_region 8 with (fail)
    have hxu := ((HXuw4.out.hf true).frg (EscE.enc 1 f))
    have hxp := ((HXpw4.out.set (k := w.heap.size) (i := 10) (.bool true) NE_p_u.out).set (k := w.heap.size) (i := 12) (.string (strOf (EscE.enc 1 f))) NE_p_u.out)
    have hxr := ((HXrw4.out.set (k := w.heap.size) (i := 10) (.bool true) NE_r_u.out).set (k := w.heap.size) (i := 12) (.string (strOf (EscE.enc 1 f))) NE_r_u.out)
    have hb := ((HBw4.out.setCell (p := ⟨w.heap.size, 10, none⟩) LE_u.out (.bool true)).setCell (p := ⟨w.heap.size, 12, none⟩) LE_u.out (.string (strOf (EscE.enc 1 f))))
    clear HXuw4 HXpw4 HXrw4 HBw4
    clear cx10 fx10 cx12 fx12
    generalize (World.setCell (World.setCell w4 ⟨w.heap.size, 10, none⟩ (.bool true)) ⟨w.heap.size, 12, none⟩ (.string (strOf (EscE.enc 1 f)))) = w5 at hxu hxp hxr hb ⊢
    have HXuw5 : Hid (UB w5 (w.heap.size) ({ u with hq := true, qry := EscE.enc 3 q, hf := true, frg := EscE.enc 1 f }) (.slice A n c)) := hxu
    clear hxu
    have HXpw5 : Hid (PB w5 ((w.heap.size + 1)) (⟨s, r, q, f, true, true⟩)) := hxp
    clear hxp
    have HXrw5 : Hid (UB w5 ((w.heap.size + 1 + 1)) (U0) (.slice none 0 0)) := hxr
    clear hxr
    have HBw5 := hid hb
    clear hb
    obtain ⟨c0, c1, c2', c3, c4, c5, c6, c7, c8, c9, c10, c11, c12⟩ := HXuw5.out.facts
    go_wp2_with (refine store_box HXrw5.out ({ u with hq := true, qry := EscE.enc 3 q, hf := true, frg := EscE.enc 1 f }) A n c (.tmp 4) (.tmp 26) rfl rfl rfl rfl ?_)
    try simp only [Exit.inBlock, Exit.then]
    exact bodyPost_ret (w := World.setRow w5 (w.heap.size + 1 + 1) (cells ({ u with hq := true, qry := EscE.enc 3 q, hf := true, frg := EscE.enc 1 f }) (.slice A n c))) (res1 (u := { u with hq := true, qry := EscE.enc 3 q, hf := true, frg := EscE.enc 1 f }) (p := .slice A n c) rfl (HXrw5.out.row ({ u with hq := true, qry := EscE.enc 3 q, hf := true, frg := EscE.enc 1 f }) _) _ rfl) rfl ⟨by rw [HO3.out]; first | done | rfl, below_setRow HBw5.out LE_r.out _⟩
end Go.Proofs.YtegpfgccaminkaaGreatDoor.PrsH
namespace Go.Proofs.YtegpfgccaminkaaGreatDoor.OpqA
open Go.RowKit Base Regs Base2 UtfA UtfL UrlA PrsP PrsA PrsQ PrsB Ubx Pbx PrsC PrsD HstC Spl PrsH
set_option maxRecDepth 100000 in
set_option maxHeartbeats 16000000 in
theorem plain_opq (p : Parts) (w : World) (hs : p.rest.length ≤ 900000) (h47 : Lib.hasPrefix p.rest [47] = false) (h32 : Lib.hasSuffix (EscE.enc 0 p.rest) [32] = false) : Calls Tryz.prog 118 #[.agg (pcells p)] w (AnsO w (some { U0 with sch := p.sch, port := -1, opq := true, txt := EscE.enc 0 p.rest })) := by
 obtain ⟨s, r, q, f, hq, hf⟩ := p
 simp only at hs h47 h32 ⊢
 obtain ⟨E, hE⟩ : ∃ E, E = EscE.enc 0 r := ⟨_, rfl⟩
 rw [← hE] at h32 ⊢
 obtain ⟨O, hO⟩ : ∃ O, O = some ({ U0 with sch := s, port := -1, opq := true, txt := E } : U) := ⟨_, rfl⟩
 rw [← hO]
 have h472 : Lib.hasPrefix r [47, 47] = false := by
  unfold Lib.hasPrefix at h47 ⊢
  cases r with
  | nil => rfl
  | cons c t => simp only [List.isPrefixOf, Bool.and_true] at h47 ⊢; rw [h47]; rfl
 have HP2 : Hid (∀ w : World, Calls Tryz.prog 113 #[.string (strOf r), .string ⟨#[47, 47]⟩] w fun e w' => e = .returned (.bool false) ∧ w' = w) := fun w => by rw [← h472]; exact Tryz.strings_HasPrefix (strOf r) ⟨#[47, 47]⟩ w
 have HP1 : Hid (∀ w : World, Calls Tryz.prog 113 #[.string (strOf r), .string ⟨#[47]⟩] w fun e w' => e = .returned (.bool false) ∧ w' = w) := fun w => by rw [← h47]; exact Tryz.strings_HasPrefix (strOf r) ⟨#[47]⟩ w
 have hEl : E.length ≤ 3000000 := by rw [hE]; have := EscE.enc_len 0 r; omega
 have HEN : Hid (∀ (A : Option Addr) (n c : Nat) (w : World), Rds w A n (bcells r) → n ≤ 1073741824 → Calls Tryz.prog 120 #[.int .i64 0, .slice A n c] w fun e w' => e = .returned (.string (strOf E)) ∧ Below w.heap.size w w') := fun A n c w h1 h2 => by rw [hE]; exact EscE.encode_any 0 A n c r w h1 h2
 obtain ⟨TS, hTS⟩ : ∃ x, x = Lib.trimSuffix E [32] := ⟨_, rfl⟩
 have HCS : Hid (∀ w : World, Calls Tryz.prog 185 #[.string (strOf E), .string ⟨#[32]⟩] w fun e w' => e = .returned (.tuple #[.string (strOf TS), .bool false]) ∧ w' = w) := fun w => by rw [hTS, ← h32]; exact Tryz.strings_CutSuffix (strOf E) ⟨#[32]⟩ w (by rw [size_strOf]; omega)
 have HO := hid hO
 clear hO h47 h472 h32 hTS hE
 go_enter Tryz.func118, Tryz.ntmps118
 go_upto_region 1 with (fail)
 generalize hw : World.alloc (World.alloc w _) _ = w1
 have h1 : PB w1 (w.heap.size) (⟨s, r, q, f, hq, hf⟩) ∧ UB w1 ((w.heap.size + 1)) (U0) (.slice none 0 0) ∧ Below w.heap.size w w1 := by
  subst hw
  exact laid2 w _ _ _ _
 clear hw
 have NE_p_r : Hid (w.heap.size ≠ (w.heap.size + 1)) := by show _ ≠ _; omega
 have NE_r_p : Hid ((w.heap.size + 1) ≠ w.heap.size) := by show _ ≠ _; omega
 have LE_p : Hid (w.heap.size ≤ w.heap.size) := Nat.le_refl _
 have LE_r : Hid (w.heap.size ≤ (w.heap.size + 1)) := Nat.le_succ _
 have HXpw1 := hid h1.1
 have HXrw1 := hid h1.2.1
 have HBw1 := hid h1.2.2
 clear h1
 obtain ⟨p0, p1, p2, p3, p4, p5⟩ := HXpw1.out.facts
 go_upto_region 7 with (fail)
 generalize hw : World.alloc w1 _ = w2
 have h1 : UB w2 (w1.heap.size) ({ U0 with sch := s, port := -1 }) (.slice none 0 0) ∧ Below w1.heap.size w1 w2 := by
  subst hw
  exact laid1 w1 _ _
 clear hw
 have hlp := HXpw1.out.lt
 have NE_p_u : Hid (w.heap.size ≠ w1.heap.size) := by show _ ≠ _; omega
 have NE_u_p : Hid (w1.heap.size ≠ w.heap.size) := by show _ ≠ _; omega
 clear hlp
 have hlr := HXrw1.out.lt
 have NE_r_u : Hid ((w.heap.size + 1) ≠ w1.heap.size) := by show _ ≠ _; omega
 have NE_u_r : Hid (w1.heap.size ≠ (w.heap.size + 1)) := by show _ ≠ _; omega
 clear hlr
 have LE_u : Hid (w.heap.size ≤ w1.heap.size) := HBw1.out.size
 have HXpw2 := hid (HXpw1.out.below h1.2)
 have HXrw2 := hid (HXrw1.out.below h1.2)
 have HBw2 := hid (bel HBw1.out h1.2)
 have HXuw2 := hid h1.1
 clear HXpw1 HXrw1 HBw1
 clear h1
 clear p0 p1 p2 p3 p4 p5
 obtain ⟨p0, p1, p2, p3, p4, p5⟩ := HXpw2.out.facts
 go_wp2_with fail
 refine (HP2.out _).mono ?_
 rintro e wx ⟨rfl, hwx⟩
 obtain rfl : w2 = wx := by first | exact hwx | exact hwx.symm
 clear hwx
 go_wp2_with fail
 refine (HP1.out _).mono ?_
 rintro e wx ⟨rfl, hwx⟩
 obtain rfl : w2 = wx := by first | exact hwx | exact hwx.symm
 clear hwx
 clear p0 p1 p2 p3 p4 p5
 have cx6 := HXuw2.out.facts.2.2.2.2.2.2.1
 have fx6 := HXuw2.out.thaw.2.2.2.2.2.2.1
 go_upto_region 3 with (fail)
 have hxp := (HXpw2.out.set (k := w1.heap.size) (i := 6) (.bool true) NE_p_u.out)
 have hxr := (HXrw2.out.set (k := w1.heap.size) (i := 6) (.bool true) NE_r_u.out)
 have hxu := (HXuw2.out.opq true)
 have hb := (HBw2.out.setCell (p := ⟨w1.heap.size, 6, none⟩) LE_u.out (.bool true))
 clear HXpw2 HXrw2 HXuw2 HBw2
 clear cx6 fx6
 generalize (World.setCell w2 ⟨w1.heap.size, 6, none⟩ (.bool true)) = w3 at hxp hxr hxu hb ⊢
 have HXpw3 : Hid (PB w3 (w.heap.size) (⟨s, r, q, f, hq, hf⟩)) := hxp
 clear hxp
 have HXrw3 : Hid (UB w3 ((w.heap.size + 1)) (U0) (.slice none 0 0)) := hxr
 clear hxr
 have HXuw3 : Hid (UB w3 (w1.heap.size) ({ U0 with sch := s, port := -1, opq := true }) (.slice none 0 0)) := hxu
 clear hxu
 have HBw3 := hid hb
 clear hb
 obtain ⟨p0, p1, p2, p3, p4, p5⟩ := HXpw3.out.facts
 have hcv := fun (w : World) s => run_bytes_of_string (P := Tryz.prog) w 9 39 5 s Tryz.underlying9 Tryz.underlying39 Tryz.underlying5
 go_wp2_with fail
 clear hcv
 refine (HEN.out _ _ _ _ (rds_made (strOf r) _ _ _) (size_of (by omega))).mono ?_
 rintro e w4 ⟨rfl, hb0⟩
 have hbx : Below w3.heap.size w3 w4 := bel (((Below.refl w3.heap.size w3).alloc (Nat.le_refl _) _).drew) hb0
 clear hb0
 have HXpw4 := hid (HXpw3.out.below hbx)
 have HXrw4 := hid (HXrw3.out.below hbx)
 have HXuw4 := hid (HXuw3.out.below hbx)
 have HBw4 := hid (bel HBw3.out hbx)
 clear HXpw3 HXrw3 HXuw3 HBw3
 clear hbx
 clear p0 p1 p2 p3 p4 p5
 have cx7 := HXuw4.out.facts.2.2.2.2.2.2.2.1
 have fx7 := HXuw4.out.thaw.2.2.2.2.2.2.2.1
 go_upto_region 4 with (fail)
 have hxp := (HXpw4.out.set (k := w1.heap.size) (i := 7) (.string (strOf E)) NE_p_u.out)
 have hxr := (HXrw4.out.set (k := w1.heap.size) (i := 7) (.string (strOf E)) NE_r_u.out)
 have hxu := (HXuw4.out.txt E)
 have hb := (HBw4.out.setCell (p := ⟨w1.heap.size, 7, none⟩) LE_u.out (.string (strOf E)))
 clear HXpw4 HXrw4 HXuw4 HBw4
 clear cx7 fx7
 generalize (World.setCell w4 ⟨w1.heap.size, 7, none⟩ (.string (strOf E))) = w5 at hxp hxr hxu hb ⊢
 have HXpw5 : Hid (PB w5 (w.heap.size) (⟨s, r, q, f, hq, hf⟩)) := hxp
 clear hxp
 have HXrw5 : Hid (UB w5 ((w.heap.size + 1)) (U0) (.slice none 0 0)) := hxr
 clear hxr
 have HXuw5 : Hid (UB w5 (w1.heap.size) ({ U0 with sch := s, port := -1, opq := true, txt := E }) (.slice none 0 0)) := hxu
 clear hxu
 have HBw5 := hid hb
 clear hb
 have cx7 := HXuw5.out.facts.2.2.2.2.2.2.2.1
 go_wp2_with fail
 refine (HCS.out _).mono ?_
 rintro e wx ⟨rfl, hwx⟩
 obtain rfl : w5 = wx := by first | exact hwx | exact hwx.symm
 clear hwx
 go_upto_region 11 with (fail)
 clear cx7
 have HO5 : Hid (O = some { U0 with sch := s, port := -1, opq := true, txt := E }) := HO
 obtain ⟨c0, c1, c2', c3, c4, c5, c6, c7, c8, c9, c10, c11, c12⟩ := HXuw5.out.facts
 go_wp2_with (refine store_box HXrw5.out { U0 with sch := s, port := -1, opq := true, txt := E } none 0 0 (.tmp 2) (.tmp 56) rfl rfl rfl rfl ?_)
 try simp only [Exit.inBlock, Exit.then]
 exact bodyPost_ret (w := World.setRow w5 (w.heap.size + 1) (cells { U0 with sch := s, port := -1, opq := true, txt := E } (.slice none 0 0))) (res2 (u := { U0 with sch := s, port := -1, opq := true, txt := E }) (p := .slice none 0 0) rfl (HXrw5.out.row { U0 with sch := s, port := -1, opq := true, txt := E } _) true _ rfl rfl) rfl (ans_some (u := { U0 with sch := s, port := -1, opq := true, txt := E }) HO5.out (below_setRow HBw5.out LE_r.out _) (own_nil _ _ rfl))
end Go.Proofs.YtegpfgccaminkaaGreatDoor.OpqA
namespace Go.Proofs.YtegpfgccaminkaaGreatDoor.OpqB
open Go.RowKit Base Regs Base2 UtfA UtfL UrlA PrsP PrsA PrsQ PrsB Ubx Pbx PrsC PrsD HstC Spl PrsH OpqA
set_option maxRecDepth 100000 in
set_option maxHeartbeats 16000000 in
theorem resolve_opq (p : Parts) (w : World) (hs : p.rest.length ≤ 700000) (hs1 : p.sch ≠ FILE) (hsp : special p.sch = false) (h0 : p.sch ≠ []) (h47 : Lib.hasPrefix p.rest [47] = false) (h32 : Lib.hasSuffix (EscE.enc 0 p.rest) [32] = false) : Calls Tryz.prog 72 #[.agg (pcells p), .pointer none] w (AnsO w (some { U0 with sch := p.sch, port := -1, opq := true, txt := EscE.enc 0 p.rest })) := by
 obtain ⟨s, rt, q, f, hq, hf⟩ := p
 simp only at hs hs1 hsp h0 h47 h32 ⊢
 obtain ⟨O, hO⟩ : ∃ O, O = some ({ U0 with sch := s, port := -1, opq := true, txt := EscE.enc 0 rt } : U) := ⟨_, rfl⟩
 rw [← hO]
 have HSP : Hid (∀ w : World, Calls Tryz.prog 112 #[.string (strOf s)] w fun e w' => e = .returned (.bool false) ∧ w' = w) := fun w => by rw [← hsp]; exact special_any (strOf s) w
 have HPL : Hid (∀ w : World, Calls Tryz.prog 118 #[.agg (pcells ⟨s, rt, q, f, hq, hf⟩)] w (AnsO w O)) := fun w => by rw [hO]; exact plain_opq ⟨s, rt, q, f, hq, hf⟩ w (by show rt.length ≤ _; omega) h47 h32
 clear hO hsp h47 h32
 go_enter Tryz.func72, Tryz.ntmps72
 go_upto_region 1 with (fail)
 generalize hw : World.alloc (World.alloc w _) _ = w1
 have h1 : PB w1 (w.heap.size) (⟨s, rt, q, f, hq, hf⟩) ∧ UB w1 ((w.heap.size + 1)) (U0) (.slice none 0 0) ∧ Below w.heap.size w w1 := by
  subst hw
  exact laid2 w _ _ _ _
 clear hw
 have LE_p : Hid (w.heap.size ≤ w.heap.size) := Nat.le_refl _
 have LE_r : Hid (w.heap.size ≤ (w.heap.size + 1)) := Nat.le_succ _
 have HXpw1 := hid h1.1
 have HXrw1 := hid h1.2.1
 have HBw1 := hid h1.2.2
 clear h1
 obtain ⟨p0, p1, p2, p3, p4, p5⟩ := HXpw1.out.facts
 have e0hs1 : ((strOf s).toList == [102, 105, 108, 101]) = false := by rw [str_tl, beq_eq_false_iff_ne]; exact hs1
 have e1hs1 : ¬ (strOf s).toList = [102, 105, 108, 101] := by rw [str_tl]; exact hs1
 go_wp2_with fail
 refine (HSP.out _).mono ?_
 rintro e wx ⟨rfl, hwx⟩
 obtain rfl : w1 = wx := by first | exact hwx | exact hwx.symm
 clear hwx
 have e0h0 : ((strOf s).toList == []) = false := by rw [str_tl, beq_eq_false_iff_ne]; exact h0
 have e1h0 : ¬ (strOf s).toList = [] := by rw [str_tl]; exact h0
 have e2 : (strOf s).toList.isEmpty = false := by rw [str_tl]; simpa using h0
 clear h0 hs1
 go_wp2_with fail
 refine (HPL.out _).mono ?_
 rintro e w2 ⟨hbx, u', A', n', c', ok, rfl, hown, hoo⟩
 have HLr : Hid ((w.heap.size + 1) < w1.heap.size) := HXrw1.out.lt
 have HOW := hid hown
 have HOO := hid hoo
 clear hown hoo
 have HXpw2 := hid (HXpw1.out.below hbx)
 have HXrw2 := hid (HXrw1.out.below hbx)
 have HBw2 := hid (bel HBw1.out hbx)
 have HOB : Hid (w.heap.size ≤ w1.heap.size) := HBw1.out.size
 clear HXpw1 HXrw1 HBw1
 clear hbx
 go_wp2_with (refine store_box HXrw2.out u' A' n' c' (.tmp 4) (.tmp 71) rfl rfl rfl rfl ?_)
 try simp only [Exit.inBlock, Exit.then]
 exact bodyPost_ret (w := World.setRow w2 (w.heap.size + 1) (cells u' (.slice A' n' c'))) (res2 (u := u') (p := .slice A' n' c') rfl (HXrw2.out.row u' _) ok _ rfl rfl) rfl ⟨below_setRow HBw2.out LE_r.out _, u', A', n', c', ok, rfl, (HOW.out.row HLr.out _).base HOB.out, HOO.out⟩
end Go.Proofs.YtegpfgccaminkaaGreatDoor.OpqB
namespace Go.Proofs.YtegpfgccaminkaaGreatDoor.UtfP
open Go.RowKit Base UtfR UtfE
def Chr (r : Int) : Prop := 0 ≤ r ∧ r ≤ 1114111 ∧ ¬ (55296 ≤ r ∧ r ≤ 57343)
instance (r : Int) : Decidable (Chr r) := by unfold Chr; exact inferInstance
def u (x : Int) : UInt8 := x.toNat.toUInt8
theorem u_nat (x : Int) (h0 : 0 ≤ x) (h1 : x ≤ 255) : ((u x).toNat : Int) = x := by
 unfold u
 simp
 omega
theorem enc1 (r : Int) (h0 : 0 ≤ r) (h1 : r ≤ 127) : Lib.encodeRune r = [u r] := by unfold Lib.encodeRune; rw [Lib.encodeRuneZ_one h0 h1]; rfl
theorem enc2 (r : Int) (h0 : 128 ≤ r) (h1 : r ≤ 2047) : Lib.encodeRune r = [u (192 + r / 64), u (128 + r % 64)] := by unfold Lib.encodeRune; rw [Lib.encodeRuneZ_two h0 h1]; rfl
theorem enc3 (r : Int) (h : (2048 ≤ r ∧ r < 55296) ∨ (57343 < r ∧ r ≤ 65535)) : Lib.encodeRune r = [u (224 + r / 4096), u (128 + r / 64 % 64), u (128 + r % 64)] := by unfold Lib.encodeRune; rw [Lib.encodeRuneZ_three h]; rfl
theorem enc4 (r : Int) (h0 : 65536 ≤ r) (h1 : r ≤ 1114111) : Lib.encodeRune r = [u (240 + r / 262144), u (128 + r / 4096 % 64), u (128 + r / 64 % 64), u (128 + r % 64)] := by unfold Lib.encodeRune; rw [Lib.encodeRuneZ_four h0 h1]; rfl
theorem u_of (c : UInt8) : u (c.toNat : Int) = c := by unfold u; simp
theorem u_eq (x : Int) (c : UInt8) (h : x = (c.toNat : Int)) : u x = c := by rw [h, u_of]
theorem rd_whole (x : UInt8) (t : List UInt8) :
  ((rd (x :: t)).2.2 = true → Chr (rd (x :: t)).1 ∧ Lib.encodeRune (rd (x :: t)).1 = (x :: t).take (rd (x :: t)).2.1.toNat) ∧ ((rd (x :: t)).2.2 = false → (rd (x :: t)).1 = 65533) := by
 have hx : (x.toNat : Int) < 256 := by have := x.toNat_lt; omega
 simp only [rd]
 by_cases a : (x.toNat : Int) ≤ 127
 ·rw [if_pos a]
  refine ⟨fun _ => ⟨by unfold Chr; simp only; omega, ?_⟩, fun h => by cases h⟩
  simp only
  rw [enc1 _ (by omega) a, u_of]
  rfl
 rw [if_neg a]
 by_cases b : (x.toNat : Int) ≤ 193 ∨ 245 ≤ (x.toNat : Int)
 ·rw [if_pos b]
  exact ⟨(fun h => by cases h), fun _ => rfl⟩
 rw [if_neg b]
 by_cases c2 : (x.toNat : Int) ≤ 223
 ·rw [if_pos c2]
  have el : lo x.toNat = 128 := by unfold lo; (repeat' split) <;> omega
  have eh : hi x.toNat = 191 := by unfold hi; (repeat' split) <;> omega
  match t with
  | [] => simp [tail]
  | y :: t =>
   have hy : (y.toNat : Int) < 256 := by have := y.toNat_lt; omega
   rw [tail, el, eh]
   by_cases d : (y.toNat : Int) < 128 ∨ 191 < (y.toNat : Int)
   ·rw [if_pos d]; exact ⟨(fun h => by cases h), fun _ => rfl⟩
   ·rw [if_neg d, tail]
    refine ⟨fun _ => ⟨by unfold Chr; simp only; omega, ?_⟩, fun h => by cases h⟩
    simp only
    rw [enc2 _ (by omega) (by omega), u_eq _ x (by omega), u_eq _ y (by omega)]
    rfl
 rw [if_neg c2]
 by_cases c3 : (x.toNat : Int) ≤ 239
 ·rw [if_pos c3]
  match t with
  | [] => simp [tail]
  | y :: t =>
   have hy : (y.toNat : Int) < 256 := by have := y.toNat_lt; omega
   rw [tail]
   by_cases d : (y.toNat : Int) < lo x.toNat ∨ hi x.toNat < (y.toNat : Int)
   ·rw [if_pos d]; exact ⟨(fun h => by cases h), fun _ => rfl⟩
   ·rw [if_neg d]
    have hd : 128 ≤ (y.toNat : Int) ∧ (y.toNat : Int) ≤ 191 ∧ ((x.toNat : Int) = 224 → 160 ≤ (y.toNat : Int)) ∧ ((x.toNat : Int) = 237 → (y.toNat : Int) ≤ 159) := by
     unfold lo hi at d
     (repeat' split at d) <;> omega
    match t with
    | [] => simp [tail]
    | z :: t =>
     have hz : (z.toNat : Int) < 256 := by have := z.toNat_lt; omega
     rw [tail]
     by_cases f : (z.toNat : Int) < 128 ∨ 191 < (z.toNat : Int)
     ·rw [if_pos f]; exact ⟨(fun h => by cases h), fun _ => rfl⟩
     ·rw [if_neg f, tail]
      refine ⟨fun _ => ⟨by unfold Chr; simp only; omega, ?_⟩, fun h => by cases h⟩
      simp only
      rw [enc3 _ (by omega), u_eq _ x (by omega), u_eq _ y (by omega), u_eq _ z (by omega)]
      rfl
 ·rw [if_neg c3]
  match t with
  | [] => simp [tail]
  | y :: t =>
   have hy : (y.toNat : Int) < 256 := by have := y.toNat_lt; omega
   rw [tail]
   by_cases d : (y.toNat : Int) < lo x.toNat ∨ hi x.toNat < (y.toNat : Int)
   ·rw [if_pos d]; exact ⟨(fun h => by cases h), fun _ => rfl⟩
   ·rw [if_neg d]
    have hd : 128 ≤ (y.toNat : Int) ∧ (y.toNat : Int) ≤ 191 ∧ ((x.toNat : Int) = 240 → 144 ≤ (y.toNat : Int)) ∧ ((x.toNat : Int) = 244 → (y.toNat : Int) ≤ 143) := by
     unfold lo hi at d
     (repeat' split at d) <;> omega
    match t with
    | [] => simp [tail]
    | z :: t =>
     have hz : (z.toNat : Int) < 256 := by have := z.toNat_lt; omega
     rw [tail]
     by_cases f : (z.toNat : Int) < 128 ∨ 191 < (z.toNat : Int)
     ·rw [if_pos f]; exact ⟨(fun h => by cases h), fun _ => rfl⟩
     ·rw [if_neg f]
      match t with
      | [] => simp [tail]
      | v :: t =>
       have hv : (v.toNat : Int) < 256 := by have := v.toNat_lt; omega
       rw [tail]
       by_cases g : (v.toNat : Int) < 128 ∨ 191 < (v.toNat : Int)
       ·rw [if_pos g]; exact ⟨(fun h => by cases h), fun _ => rfl⟩
       ·rw [if_neg g, tail]
        refine ⟨fun _ => ⟨by unfold Chr; simp only; omega, ?_⟩, fun h => by cases h⟩
        simp only
        rw [enc4 _ (by omega) (by omega), u_eq _ x (by omega), u_eq _ y (by omega), u_eq _ z (by omega), u_eq _ v (by omega)]
        rfl
theorem enc_ne (r : Int) (t : List UInt8) : Lib.encodeRune r ++ t ≠ [] := by
 intro h
 have := rune_len r
 have e := congrArg List.length h
 simp at e
 rw [e.1] at this
 simp at this
theorem enc_cons (r : Int) (l : List Int) : enc (r :: l) = Lib.encodeRune r ++ enc l := by simp [enc]
theorem chr_bad : Chr 65533 := by decide
theorem chr_dec : ∀ (n : Nat) (L : List UInt8), L.length ≤ n → ∀ r ∈ dec L, Chr r
 | _, [], _, r, h => by simp [dec_nil] at h
 | 0, _ :: _, h, _, _ => by simp at h
 | n + 1, x :: t, hl, r, h => by
  have hs := rd_size x t
  rw [dec_cons, List.mem_cons] at h
  rcases h with rfl | h
  ·cases hw : (rd (x :: t)).2.2
   ·rw [(rd_whole x t).2 hw]; exact chr_bad
   ·exact ((rd_whole x t).1 hw).1
  ·exact chr_dec n _ (by simp only [List.length_drop, List.length_cons] at hl ⊢; omega) r h
theorem dec_chr (L : List UInt8) : ∀ r ∈ dec L, Chr r := chr_dec _ L (Nat.le_refl _)
end Go.Proofs.YtegpfgccaminkaaGreatDoor.UtfP
