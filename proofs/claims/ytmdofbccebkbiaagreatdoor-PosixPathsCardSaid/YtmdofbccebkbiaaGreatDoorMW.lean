/- Texts that belong together: PosU, BldF, PosV, PosW, PosX. -/
import Derived.Test.YtmdofbccebkbiaaGreatDoorMV
import Derived.Test.YtmdofbccebkbiaaGreatDoorMA
import Derived.Test.YtmdofbccebkbiaaGreatDoorMP
import Derived.Shelf.Strings.BuilderF
import Derived.Test.YtmdofbccebkbiaaGreatDoorME
import Derived.Test.YtmdofbccebkbiaaGreatDoorMO
import Derived.Test.YtmdofbccebkbiaaGreatDoorMS
set_option linter.unusedSimpArgs false
set_option linter.unusedVariables false
namespace Go.Proofs.YtmdofbccebkbiaaGreatDoor.PosU
open Go.RowKit Base Regs Base2 Base3 SlsP PosQ Sls PosA PosB PosC
open Go.Proofs.YtmdofbccebkbiaaGreatDoor.PosS (seg)
open Go.Proofs.YtmdofbccebkbiaaGreatDoor.Spl (Max)
def fcells (h : List UInt8) (p : Value) : Array Value := #[.string ⟨#[102, 105, 108, 101]⟩, .string ⟨#[]⟩, .string ⟨#[]⟩, .string (strOf h), .bool true, .int .i64 (-1), .bool false, .string ⟨#[]⟩, p, .bool false, .bool false, .string ⟨#[]⟩, .string ⟨#[]⟩]
def zcells : Array Value := #[.string ⟨#[]⟩, .string ⟨#[]⟩, .string ⟨#[]⟩, .string ⟨#[]⟩, .bool false, .int .i64 0, .bool false, .string ⟨#[]⟩, .slice none 0 0, .bool false, .bool false, .string ⟨#[]⟩, .string ⟨#[]⟩]
def Bx (w : World) (g : Nat) (cs : Array Value) : Prop := w.heap[g]? = some (.cells cs 25 (0, 0))
variable {w w' : World} {g : Nat} {cs ds : Array Value}
theorem Bx.lt (h : Bx w g cs) : g < w.heap.size := (Array.getElem?_eq_some_iff.1 h).1
theorem Bx.below (h : Bx w g cs) (hb : Below w.heap.size w w') : Bx w' g cs := (hb.block g h.lt).trans h
theorem Bx.under {B : Nat} (h : Bx w g cs) (hb : Below B w w') (hg : g < B) : Bx w' g cs := (hb.block g hg).trans h
theorem Bx.load (h : Bx w g cs) (hs : cs.size = 13) : (loadVar 25 ⟨g, 0, none⟩).run Tryz.prog w = .ok (.agg cs) w :=
 run_loadVar_row w g _ _ cs (0, 0) _ h Tryz.underlying25 rfl (by rw [hs]; kernel_rfl)
theorem Bx.path {h : List UInt8} {p : Value} (hB : Bx w g (fcells h p)) (q : Value) : Bx (w.setCell ⟨g, 8, none⟩ q) g (fcells h q) := heap_setCell_same w g 8 _ _ _ hB
theorem Bx.set {k i : Nat} (h : Bx w g cs) (x : Value) (hk : g ≠ k) : Bx (w.setCell ⟨k, i, none⟩ x) g cs := (heap_setCell_other w ⟨k, i, none⟩ g x hk).trans h
theorem Bx.cell8 {h : List UInt8} {p : Value} (hB : Bx w g (fcells h p)) : w.cell? ⟨g, 8, none⟩ = some p ∧ w.frozen? ⟨g, 8, none⟩ = false := ⟨cell_of_row w g 8 _ _ _ hB, frozen_of_row w g 8 _ _ hB⟩
theorem Bx.facts {h : List UInt8} {p : Value} (hB : Bx w g (fcells h p)) : w.cell? ⟨g, 0, none⟩ = some (.string ⟨#[102, 105, 108, 101]⟩) ∧ w.cell? ⟨g, 1, none⟩ = some (.string ⟨#[]⟩) ∧ w.cell? ⟨g, 2, none⟩ = some (.string ⟨#[]⟩) ∧ w.cell? ⟨g, 3, none⟩ = some (.string (strOf h)) ∧ w.cell? ⟨g, 4, none⟩ = some (.bool true) ∧ w.cell? ⟨g, 5, none⟩ = some (.int .i64 (-1)) ∧ w.cell? ⟨g, 6, none⟩ = some (.bool false) ∧ w.cell? ⟨g, 7, none⟩ = some (.string ⟨#[]⟩) ∧ w.cell? ⟨g, 8, none⟩ = some (p) ∧ w.cell? ⟨g, 9, none⟩ = some (.bool false) ∧ w.cell? ⟨g, 10, none⟩ = some (.bool false) ∧ w.cell? ⟨g, 11, none⟩ = some (.string ⟨#[]⟩) ∧ w.cell? ⟨g, 12, none⟩ = some (.string ⟨#[]⟩) :=
 ⟨cell_of_row w g 0 _ _ _ hB, cell_of_row w g 1 _ _ _ hB, cell_of_row w g 2 _ _ _ hB, cell_of_row w g 3 _ _ _ hB, cell_of_row w g 4 _ _ _ hB, cell_of_row w g 5 _ _ _ hB, cell_of_row w g 6 _ _ _ hB, cell_of_row w g 7 _ _ _ hB, cell_of_row w g 8 _ _ _ hB, cell_of_row w g 9 _ _ _ hB, cell_of_row w g 10 _ _ _ hB, cell_of_row w g 11 _ _ _ hB, cell_of_row w g 12 _ _ _ hB⟩
theorem Bx.row (h : Bx w g cs) (ds : Array Value) : Bx (w.setRow g ds) g ds := setRow_heap w g cs ds _ (0, 0) h
theorem laid (w : World) (a : Array Value) (T : TypeId) : (w.alloc (.cells a T)).heap[w.heap.size]? = some (.cells a T (0, 0)) ∧ Below w.heap.size w (w.alloc (.cells a T)) :=
 ⟨heap_alloc_new w _, (Below.refl _ _).alloc (Nat.le_refl _) _⟩
theorem store_cs {ops : Array Oper} {rest : List Oper} {o : Oper} {a : Act} {Q : Exit → Act → World → Prop} (hU : Bx w g cs) (ds : Array Value) (hs : cs.size = 13) (hs2 : ds.size = 13) (h1 : ds.all (·.oneCell') = true) (x y : Operand) (ho : o.op = .store 25 x y) (hgd : o.guard = none)
  (hx : a.eval x = .pointer (some ⟨g, 0, none⟩)) (hy : a.eval y = .agg ds)
  (h : wpList Tryz.prog ops Q rest (a.put o.dst undef) (w.setRow g ds)) : wpList Tryz.prog ops Q (o :: rest) a w :=
 wpList_store_row hgd 25 x y ho g ds hx hy 25 cs hU (by rw [hs2]; kernel_rfl) (by rw [hs, hs2]) h1 h
theorem one_f (h : List UInt8) (A : Option Addr) (n c : Nat) : (fcells h (.slice A n c)).all (·.oneCell') = true := by simp [fcells, Value.oneCell']
theorem one_z : zcells.all (·.oneCell') = true := by simp [zcells, Value.oneCell']
theorem res {fn : Func} {a b : Tmp} (h : fn.results = #[.cell a 25, .tmp b]) (hU : Bx w g cs) (hs : cs.size = 13) (v : Value) (tmps : Array Value) (h2 : tmps.getD a undef = .pointer (some ⟨g, 0, none⟩)) (h3 : tmps.getD b undef = v) :
  (results fn tmps).run Tryz.prog w = .ok (.tuple #[.agg cs, v]) w := by
 have hp' : tmps[a]?.getD undef = .pointer (some ⟨g, 0, none⟩) := by simpa using h2
 have hq' : tmps[b]?.getD undef = v := by simpa using h3
 simp [results, h, hp', hq', asAddr, hU.load hs]
theorem below_setRow {B : Nat} {w0 : World} (h : Below B w0 w) (hg : B ≤ g) (ds : Array Value) : Below B w0 (w.setRow g ds) := by
 refine ⟨h.os, h.tape, h.output, ?_, fun k hk => (setRow_other w g k ds (by omega)).trans (h.block k hk)⟩
 simpa [World.setRow] using h.size
theorem below_row {B : Nat} {w0 : World} (h : Below B w0 w) (hg : B ≤ g) (ds : Array Value) : Below B w0 (w.setRow g ds) := below_setRow h hg ds
def AnsF (yes no : Value) (hst : List UInt8) (w : World) (o : Option (List (List UInt8))) (e : Ending) (w' : World) : Prop := Below w.heap.size w w' ∧ match o with
 | none => e = .returned (.tuple #[.agg zcells, no])
 | some l => ∃ A n c, e = .returned (.tuple #[.agg (fcells hst (.slice A n c)), yes]) ∧ w'.ownsRow w.heap.size 9 1 (.slice A n c) n ((l.map strOf).map Value.string)
theorem ansf_none {yes no : Value} {hst : List UInt8} {o : Option (List (List UInt8))} (ho : o = none) (hb : Below w.heap.size w w') : AnsF yes no hst w o (.returned (.tuple #[.agg zcells, no])) w' := by
 subst ho
 exact ⟨hb, rfl⟩
theorem ansf_some {yes no : Value} {hst : List UInt8} {o : Option (List (List UInt8))} {l : List (List UInt8)} (ho : o = some l) (hb : Below w.heap.size w w') {A : Option Addr} {n c : Nat} (hown : w'.ownsRow w.heap.size 9 1 (.slice A n c) n ((l.map strOf).map Value.string)) : AnsF yes no hst w o (.returned (.tuple #[.agg (fcells hst (.slice A n c)), yes])) w' := by
 subst ho
 exact ⟨hb, A, n, c, rfl, hown⟩
theorem owns_set {B n : Nat} {e : TypeId} {v x : Value} {xs : List Value} {i : Nat} (h : w.ownsRow B e 1 v n xs) (hg : g < B) : (w.setCell ⟨g, i, none⟩ x).ownsRow B e 1 v n xs := by
 refine ⟨h.1, ?_⟩
 rcases h.2 with hn | ⟨k, cap, cur, rfl, hb, hh, rest⟩
 ·exact .inl hn
 ·exact .inr ⟨k, cap, cur, rfl, hb, (heap_setCell_other _ _ _ _ (show k ≠ g by omega)).trans hh, rest⟩
theorem owns_row {B n : Nat} {e : TypeId} {v : Value} {xs : List Value} (h : w.ownsRow B e 1 v n xs) (hg : g < B) (ds : Array Value) : (w.setRow g ds).ownsRow B e 1 v n xs := by
 refine ⟨h.1, ?_⟩
 rcases h.2 with hn | ⟨k, cap, cur, rfl, hb, hh, rest⟩
 ·exact .inl hn
 ·exact .inr ⟨k, cap, cur, rfl, hb, (setRow_other _ _ _ _ (show k ≠ g by omega)).trans hh, rest⟩
def RowAt (w : World) (b : Nat) (l : List (List UInt8)) : Prop := w.heap[b]? = some (.cells ((l.map strOf).map Value.string).toArray 9 (0, 0))
theorem RowAt.lt {b : Nat} {l : List (List UInt8)} (h : RowAt w b l) : b < w.heap.size := (Array.getElem?_eq_some_iff.1 h).1
theorem RowAt.cell {b : Nat} {l : List (List UInt8)} (h : RowAt w b l) (k : Nat) (hk : k < l.length) : w.cell? ⟨b, k, none⟩ = some (.string (strOf l[k])) := (cell_of_row w b k _ _ _ h).trans (by simp [hk])
theorem split_row (b : UInt8) (s : ByteArray) (w : World) (hs : s.size ≤ 1073741824) (hM : Max w) : Calls Tryz.prog 67 #[.string s, .string ⟨#[b]⟩] w fun e w' => e = .returned (.slice (some ⟨w.heap.size, 0, none⟩) (spl b s.data.toList).length (spl b s.data.toList).length) ∧ RowAt w' w.heap.size (spl b s.data.toList) ∧ Below w.heap.size w w' := by
 obtain ⟨m, hm⟩ := hM
 refine (Tryz.strings_Split s ⟨#[b]⟩ m w (by omega) hm (Nat.le_refl _)).mono ?_
 rintro e w' ⟨rfl, rfl⟩
 have hd := Lib.splitB_data ⟨#[b]⟩ 0 (Lib.countB s ⟨#[b]⟩) s
 rw [show (⟨#[b]⟩ : ByteArray).data.toList = [b] from rfl, Spl.splitK_gen b (spl b) rfl (spl_at b) (spl_not b) _ _ (by rw [← Lib.count_one]; exact Nat.le_refl _)] at hd
 have hl := Lib.splitB_all ⟨#[b]⟩ (Nat.le_refl _) 0 _ s rfl
 generalize Lib.splitB ⟨#[b]⟩ 0 (Lib.countB s ⟨#[b]⟩) s = B at hd hl ⊢
 have hB : B = (spl b s.data.toList).map strOf := by
  rw [← hd, List.map_map]
  conv => lhs; rw [← List.map_id B]
  exact List.map_congr_left fun x _ => (strOf_toList x).symm
 have hn : Lib.countB s ⟨#[b]⟩ + 1 = (spl b s.data.toList).length := by rw [← hl, hB, List.length_map]
 refine ⟨by rw [hn], ?_, (Below.refl _ _).alloc (Nat.le_refl _) _⟩
 unfold RowAt
 rw [← hB]
 exact heap_alloc_new w _
theorem one_cell (w : World) (x : Value) (T : TypeId) : Rds (w.alloc (.cells #[x] T)) (some ⟨w.heap.size, 0, none⟩) 1 [x] :=
 Rds.of_spot rfl (by simp) (fun j hj => by
  simp at hj
  subst hj
  rw [Nat.zero_add, World.cell?_alloc_mark]
  rfl)
theorem one_str (s : ByteArray) : ∀ u ∈ [Value.string s], u.oneCell' = true := by
 intro u hu
 simp at hu
 subst hu
 rfl
def urlP (L : List UInt8) : Option (List (List UInt8)) := if fine L = true then some ((spl 47 (L.drop 1)).map seg) else none
set_option maxRecDepth 100000 in
set_option maxHeartbeats 8000000 in
theorem url_any (s : ByteArray) (w : World) (hs : s.size ≤ 900000) (hM : Max w) :
  Calls Tryz.prog 30 #[.string s] w (AnsF (.int .i64 0) (.int .i64 2) [] w (urlP s.data.toList)) := by
 have hl : s.data.toList.length = s.size := Array.length_toList
 obtain ⟨b, hb⟩ : ∃ b, b = fine s.data.toList := ⟨_, rfl⟩
 obtain ⟨l, hll⟩ : ∃ l, l = spl 47 (s.data.toList.drop 1) := ⟨_, rfl⟩
 obtain ⟨O, hO⟩ : ∃ O, O = urlP s.data.toList := ⟨_, rfl⟩
 rw [← hO]
 have HO : Hid (O = if b = true then some (l.map seg) else none) := by show _ = _; rw [hO, hb, hll]; rfl
 have hlen2 : l.length ≤ s.size + 1 := by rw [hll]; have := length_spl 47 (s.data.toList.drop 1); rw [List.length_drop, hl] at this; omega
 have hxl : ∀ x ∈ l, x.length ≤ s.size := by
  intro x hx
  rw [hll] at hx
  have := spl_len 47 _ x hx
  rw [List.length_drop, hl] at this
  omega
 have hpos : b = true → 1 ≤ s.size := by
  intro h
  rw [hb, fine_iff] at h
  rw [← hl]
  cases e : s.data.toList with
  | nil => rw [e] at h; exact absurd h.2.1 (by decide)
  | cons a t => simp
 have HFI : Hid (∀ w : World, Max w → Calls Tryz.prog 28 #[.string s] w fun e w' => e = .returned (.bool b) ∧ Below w.heap.size w w') := fun w h => by rw [hb]; exact fine_any s w (by omega) h
 have HSP : Hid (∀ w : World, Max w → Calls Tryz.prog 67 #[.string (s.extract 1 s.size), .string ⟨#[47]⟩] w fun e w' => e = .returned (.slice (some ⟨w.heap.size, 0, none⟩) l.length l.length) ∧ RowAt w' w.heap.size l ∧ Below w.heap.size w w') := fun w h => by rw [hll, ← ext1]; exact split_row 47 _ w (by have := ext1_size s; omega) h
 have HPO := hid hpos
 have HM := hid hM
 have HXL := hid hxl
 obtain ⟨i0, hi, hz0, hz1, hz2⟩ := info_parts info_str
 obtain ⟨n, hn⟩ : ∃ n, n = l.length := ⟨_, rfl⟩
 have HN := hid hn
 rw [← hn] at HSP hlen2
 have hn9 : n ≤ 900001 := by omega
 clear hb hll hO hl hxl hpos hlen2 hM hn
 go_enter Tryz.func30, Tryz.ntmps30
 go_upto_region 1 with (fail)
 generalize hw : World.alloc w _ = w1
 have h1 : Bx w1 w.heap.size (zcells) ∧ Below w.heap.size w w1 := by
  subst hw
  exact laid w _ _
 clear hw
 have HX1 := hid h1.1
 have HB1 := hid h1.2
 clear h1
 go_wp2_with fail
 refine (HFI.out _ (HM.out.below HB1.out)).mono ?_
 rintro e w2 ⟨rfl, hb2⟩
 have HX2 := hid (HX1.out.below hb2)
 have HB2 := hid (bel HB1.out hb2)
 clear HX1 HB1 hb2
 cases b with
 | false =>
  have HF : Hid (O = none) := by show _ = _; rw [HO.out]; rfl
  go_wp2_with (refine store_cs HX2.out zcells rfl rfl one_z (.tmp 2) (.tmp 10) rfl rfl rfl rfl ?_)
  try simp only [Exit.inBlock, Exit.then]
  exact bodyPost_ret (w := World.setRow w2 w.heap.size zcells) (res rfl (HX2.out.row zcells) rfl (.int .i64 2) _ rfl rfl) rfl (ansf_none HF.out (below_row HB2.out (Nat.le_refl _) zcells))
 | true =>
  have HF : Hid (O = some (l.map seg)) := by show _ = _; rw [HO.out]; rfl
  have h0i : (1 : Int) ≤ (s.size : Int) := by have := HPO.out rfl; omega
  go_upto_region 4 with (fail)
  generalize hw : World.alloc w2 _ = w3
  have h1 : Bx w3 w2.heap.size (fcells [] (.slice none 0 0)) ∧ Below w2.heap.size w2 w3 := by
   subst hw
   exact laid w2 _ _
  clear hw
  have HX3 := hid (HX2.out.below h1.2)
  have HU3 := hid h1.1
  have HB3 := hid (bel HB2.out h1.2)
  have HG : Hid (w.heap.size < w2.heap.size) := HX2.out.lt
  have HG3 : Hid (w2.heap.size < w3.heap.size) := HU3.out.lt
  clear h1
  go_wp2_with fail
  refine (HSP.out _ (HM.out.below HB3.out)).mono ?_
  rintro e w4 ⟨rfl, hrow, hb4⟩
  have HX4 := hid (HX3.out.below hb4)
  have HU4 := hid (HU3.out.below hb4)
  have HB4 := hid (bel HB3.out hb4)
  have HR4 := hid hrow
  have HG4 : Hid (w3.heap.size < w4.heap.size) := hrow.lt
  obtain ⟨gu, hgu⟩ : ∃ gu, gu = w2.heap.size := ⟨_, rfl⟩
  obtain ⟨gr, hgr⟩ : ∃ gr, gr = w3.heap.size := ⟨_, rfl⟩
  rw [← hgr] at HG3 HG4 HR4 ⊢
  rw [← hgu] at HG HG3 HU4 ⊢
  clear hrow hb4 HX3 HU3 HB3 HX2 HB2 hgu hgr
  go_wp2
  go_loopw [6, 16] (fun _ vk wr => ∃ (k : Nat) (A : Option Addr) (c : Nat), k ≤ n ∧ vk = .int .i64 (k : Int) ∧ Hid (wr.ownsRow w4.heap.size 9 1 (.slice A k c) k ((((l.take k).map seg).map strOf).map Value.string)) ∧ Hid (Bx wr gu (fcells [] (.slice A k c))) ∧ Hid (Bx wr w.heap.size zcells) ∧ Hid (RowAt wr gr l) ∧ Hid (Below w.heap.size w wr) ∧ w4.heap.size ≤ wr.heap.size) (fun _ vk _ => n - (intOf vk).toNat)
  case atStart => exact ⟨0, none, 0, Nat.zero_le _, rfl, World.ownsRow_nil _ _ _ _, HU4.out, HX4.out, HR4.out, HB4.out, Nat.le_refl _⟩
  case round =>
   clear HU4 HX4 HR4 HB4
   obtain ⟨k, A, c, hk, rfl, HOW, HU, HX, HR, HB, hsz⟩ := hrel
   have HSZ := hid hsz
   by_cases hlt : k < n
   ·obtain ⟨x, hxd⟩ : ∃ x, x = l[k]'(by rw [← HN.out]; exact hlt) := ⟨_, rfl⟩
    have hc := HR.out.cell k (by rw [← HN.out]; exact hlt)
    rw [← hxd] at hc
    have hxs : x.length ≤ 900000 := by rw [hxd]; have := HXL.out _ (List.getElem_mem (l := l) (n := k) (by rw [← HN.out]; exact hlt)); omega
    obtain ⟨sx, hsx⟩ : ∃ sx, sx = strOf (seg x) := ⟨_, rfl⟩
    have HSG : Hid (∀ w : World, Calls Tryz.prog 71 #[.string (strOf x)] w fun e w' => e = .returned (.string sx) ∧ Below w.heap.size w w') := fun w => by rw [hsx]; exact segment_any (strOf x) w (by rw [size_strOf]; omega)
    obtain ⟨R, hRd⟩ : ∃ R, R = (((l.take k).map seg).map strOf).map Value.string := ⟨_, rfl⟩
    rw [← hRd] at HOW
    have HR2 : Hid ((((l.take (k + 1)).map seg).map strOf).map Value.string = R ++ [Value.string sx]) := by
     show _ = _
     rw [take_snoc l k (by rw [← HN.out]; exact hlt), ← hxd, List.map_append, List.map_append, List.map_append, ← hRd, hsx]
     rfl
    clear hxd hxs hsx hRd
    go_upto_region 7 with (fail)
    refine wp_region_rel_tail (by kernel_rfl) 5 [is (.pointer (some ⟨gu, 8, none⟩)), is (.slice A k c), is (.string (strOf x)), is (.string sx), row 1 [.string sx]] [[], [0], [], [2], [2, 3], [0, 1, 2, 3, 4]] (by kernel_rfl) ?_ ?_
    ·refine ⟨?_, ?_, ?_, ?_, ?_, trivial⟩
     ·intro t wq hbq hh K hK
      clear hh
      simp only [filled, filledN, upd, Have, is, any, row, pick, Act.put, List.setIfInBounds_toArray, List.set_cons_zero, List.set_cons_succ, Nat.reduceAdd, Nat.reduceEqDiff, reduceIte] at hK ⊢
      go_simp
      exact hK _ _ (Below.refl _ _) rfl
     ·intro t wq hbq hh K hK
      have e0 := hh.1
      simp only [pick] at e0
      replace e0 : t 0 = (.pointer (some ⟨gu, 8, none⟩)) := e0
      clear hh
      simp only [filled, filledN, upd, Have, is, any, row, pick, Act.put, List.setIfInBounds_toArray, List.set_cons_zero, List.set_cons_succ, Nat.reduceAdd, Nat.reduceEqDiff, reduceIte] at hK ⊢
      simp only [e0] at hK ⊢
      have hc8 := (HU.out.below hbq).cell8.1
      go_simp
      exact hK _ _ (Below.refl _ _) rfl
     ·intro t wq hbq hh K hK
      clear hh
      simp only [filled, filledN, upd, Have, is, any, row, pick, Act.put, List.setIfInBounds_toArray, List.set_cons_zero, List.set_cons_succ, Nat.reduceAdd, Nat.reduceEqDiff, reduceIte] at hK ⊢
      go_simp
      exact hK _ _ (Below.refl _ _) rfl
     ·intro t wq hbq hh K hK
      have e2 := hh.1
      simp only [pick] at e2
      replace e2 : t 2 = (.string (strOf x)) := e2
      clear hh
      simp only [filled, filledN, upd, Have, is, any, row, pick, Act.put, List.setIfInBounds_toArray, List.set_cons_zero, List.set_cons_succ, Nat.reduceAdd, Nat.reduceEqDiff, reduceIte] at hK ⊢
      simp only [e2] at hK ⊢
      go_simp
      refine (HSG.out _).mono ?_
      rintro e w9 ⟨rfl, hb9⟩
      exact hK _ _ hb9 rfl
     ·intro t wq hbq hh K hK
      have e3 := hh.2.1
      simp only [pick] at e3
      replace e3 : t 3 = (.string sx) := e3
      clear hh
      simp only [filled, filledN, upd, Have, is, any, row, pick, Act.put, List.setIfInBounds_toArray, List.set_cons_zero, List.set_cons_succ, Nat.reduceAdd, Nat.reduceEqDiff, reduceIte] at hK ⊢
      simp only [e3] at hK ⊢
      go_simp
      exact hK _ _ ((Below.refl _ _).alloc (Nat.le_refl _) _) ⟨_, _, rfl, Nat.le_refl _, by decide, one_cell _ _ _⟩
    ·intro t wq hbq hh
     have f1 := have_get hh 1 (by decide)
     simp only [pick] at f1
     replace f1 : t 1 = (.slice A k c) := f1
     have f4 := have_get hh 4 (by decide)
     simp only [pick] at f4
     clear hh
     simp only [filled, filledN, upd, Have, is, any, row, pick, Act.put, List.setIfInBounds_toArray, List.set_cons_zero, List.set_cons_succ, Nat.reduceAdd, Nat.reduceEqDiff, reduceIte]
     obtain ⟨A4, c4, f4, hc4, hm4, hr4⟩ := f4
     simp only [f1, f4]
     have hownq := owns_below HOW.out hbq
     have HUq := hid (HU.out.below hbq)
     have HXq := hid (HX.out.below hbq)
     have HRq := hid ((hbq.block gr HR.out.lt).trans HR.out : RowAt wq gr l)
     have HBq := hid (bel HB.out hbq)
     have hszq : w4.heap.size ≤ wq.heap.size := Nat.le_trans hsz hbq.size
     have hrefl : Below w4.heap.size wq wq := Below.refl _ _
     refine wpList_app_any rfl _ _ 23 rfl w4.heap.size 9 i0 (.string ByteArray.empty) 16 Tryz.underlying23 hi hz0 hz1 hz2 rfl _ k R rfl hownq hrefl hszq A4 1 c4 [.string sx] rfl hr4 (one_str _) (by unfold maxLen; omega) (by omega) ?_
     intro v7 w7 hown7 hbel7
     obtain ⟨A7, c7, rfl, hc7, hm7, hr7⟩ := owns_form hown7
     have hG1 := HG.out
     have hG2 := HG3.out
     have hG3 := HG4.out
     have hU7 := HUq.out.under hbel7 (by omega)
     have hX7 := HXq.out.under hbel7 (by omega)
     have hR7 : RowAt w7 gr l := (hbel7.block gr (by omega)).trans HRq.out
     have hB7 : Below w.heap.size w w7 := HBq.out.trans (hbel7.mono (by omega))
     have hs7 : w4.heap.size ≤ w7.heap.size := Nat.le_trans hszq hbel7.size
     obtain ⟨hcell8, hfro8⟩ := hU7.cell8
     have HOW8 : Hid ((w7.setCell ⟨gu, 8, none⟩ (.slice A7 (k + 1) c7)).ownsRow w4.heap.size 9 1 (.slice A7 (k + 1) c7) (k + 1) ((((l.take (k + 1)).map seg).map strOf).map Value.string)) := by show World.ownsRow _ _ _ _ _ _ _; rw [HR2.out]; exact owns_set hown7 (by omega)
     have HU8 := hid (hU7.path (.slice A7 (k + 1) c7))
     have HX8 := hid (hX7.set (k := gu) (i := 8) (.slice A7 (k + 1) c7) (by omega))
     have HR8 := hid ((heap_setCell_other w7 ⟨gu, 8, none⟩ gr (.slice A7 (k + 1) c7) (show gr ≠ gu by omega)).trans hR7 : RowAt _ gr l)
     have HB8 := hid (hB7.setCell (p := ⟨gu, 8, none⟩) (by show _ ≤ gu; omega) (.slice A7 (k + 1) c7))
     have hs8 : w4.heap.size ≤ (w7.setCell ⟨gu, 8, none⟩ (.slice A7 (k + 1) c7)).heap.size := by simpa using hs7
     clear hown7 hbel7 hr7 hU7 hX7 hR7 hB7 hownq hrefl hszq hG1 hG2 hG3 hm7 hc7 hs7
     go_wp2
     go_roundw
     case rel => exact ⟨k + 1, A7, c7, by omega, by go_num, HOW8, HU8, HX8, HR8, HB8, hs8⟩
     case measure => simp [intOf]; omega
   ·obtain rfl : k = n := by omega
    have HE : Hid ((l.take k).map seg = l.map seg) := by show _ = _; rw [List.take_of_length_le (by rw [HN.out]; exact Nat.le_refl _)]
    obtain ⟨d0, d1, d2, d3, d4, d5, d6, d7, d8, d9, d10, d11, d12⟩ := HU.out.facts
    go_wp2_with (refine store_cs HX.out (fcells [] (.slice A k c)) rfl rfl (one_f _ _ _ _) (.tmp 2) (.tmp 28) rfl rfl rfl rfl ?_)
    try simp only [Exit.inBlock, Exit.then]
    have how := HOW.out
    rw [HE.out] at how
    have hG : w.heap.size < w4.heap.size := by have h1 := HG.out; have h2 := HG3.out; have h3 := HG4.out; omega
    exact bodyPost_ret (w := World.setRow wr w.heap.size (fcells [] (.slice A k c))) (res rfl (HX.out.row _) rfl (.int .i64 0) _ rfl rfl) rfl (ansf_some HF.out (below_row HB.out (Nat.le_refl _) _) (owns_base (owns_row how hG _) (by omega)))
end Go.Proofs.YtmdofbccebkbiaaGreatDoor.PosU
namespace Go.Proofs.YtmdofbccebkbiaaGreatDoor.BldF
open Go.RowKit Base Base2 BldA BldK
abbrev IsF (B b : Nat) (l : List UInt8) (w : World) : Prop := Lib.IsBuilderF 77 5 B b (Lib.byteCells l) w
theorem isF_of {B b : Nat} {l : List UInt8} {w : World} (h : IsB B b l w) : IsF B b l w := Lib.IsBuilderF.of h
theorem ownsF_below {w w' : World} {base n size : Nat} {e : TypeId} {v : Value} {xs : List Value} (h : w.ownsRowF base e size v n xs) (hb : Below w.heap.size w w') : w'.ownsRowF base e size v n xs := by
 refine ⟨h.1, ?_⟩
 rcases h.2 with hn | ⟨g, cap, cur, fz, rfl, hg, hh, rest⟩
 ·exact .inl hn
 ·exact .inr ⟨g, cap, cur, fz, rfl, hg, (hb.block g (Array.getElem?_eq_some_iff.1 hh).1).trans hh, rest⟩
theorem isF_below {B b : Nat} {l : List UInt8} {w w' : World} (h : IsF B b l w) (hb : Below w.heap.size w w') : IsF B b l w' := by
 rcases h with ⟨h1, v, h2, h3, h4⟩ | ⟨h1, v, h2, h3, h4⟩
 ·exact Or.inl ⟨h1, v, (hb.block _ (Array.getElem?_eq_some_iff.1 h2).1).trans h2, ownsF_below h3 hb, h4⟩
 ·exact Or.inr ⟨h1, v, (hb.block _ (Array.getElem?_eq_some_iff.1 h2).1).trans h2, ownsF_below h3 hb, h4⟩
theorem stringF_any (B b : Nat) (l : List UInt8) (w : World) (h : IsF B b l w) (hBw : B ≤ w.heap.size) :
  Calls Tryz.prog 62 #[.pointer (some ⟨b, 0, none⟩)] w fun e w' => e = .returned (.string (strOf l)) ∧ IsF B b l w' ∧ Below B w w' := Any.Builder_String_any_f Tryz.l169 Tryz.Builder_Extra_169 B b l w h hBw
end Go.Proofs.YtmdofbccebkbiaaGreatDoor.BldF
namespace Go.Proofs.YtmdofbccebkbiaaGreatDoor.PosV
open Go.RowKit Base Base2 SlsP PosQ Sls BldA BldK BldF
open Go.Proofs.YtmdofbccebkbiaaGreatDoor.Spl (Max)
open Go.Proofs.YtmdofbccebkbiaaGreatDoor.UrlP (pth length_pth sum_at sum_take)
def outP (l : List ByteArray) : List UInt8 := l.flatMap fun s => 47 :: EscD.dec s.data.toList
def free47 (l : List ByteArray) : Bool := l.all fun s => !(EscD.dec s.data.toList).contains 47
def posPath (l : List ByteArray) : Option (List UInt8) := if free47 l = true ∧ fine (outP l) = true then some (outP l) else none
def FIL : List UInt8 := [102, 105, 108, 101]
def pathR (sch hst : List UInt8) (b6 : Bool) (l : List ByteArray) : List UInt8 × Int :=
 if sch ≠ FIL ∨ b6 = true then ([], 2) else if hst ≠ [] then ([], 8) else match posPath l with
 | none => ([], 2)
 | some o => (o, 0)
theorem tl (s : ByteArray) : s.toList = s.data.toList := Lib.toList_data s
theorem outP_snoc (l : List ByteArray) (s : ByteArray) : outP (l ++ [s]) = outP l ++ (47 :: EscD.dec s.data.toList) := by simp [outP]
theorem outP_len (l : List ByteArray) : (outP l).length ≤ (pth l).length := by
 induction l with
 | nil => exact Nat.le_refl _
 | cons a l ih =>
  have h := EscD.dec_len a.data.toList
  have e1 : outP (a :: l) = (47 :: EscD.dec a.data.toList) ++ outP l := rfl
  have e2 : pth (a :: l) = (47 :: a.data.toList) ++ pth l := rfl
  rw [e1, e2, List.length_append, List.length_append, List.length_cons, List.length_cons]
  omega
theorem take_snoc (l : List ByteArray) (k : Nat) (h : k < l.length) : l.take (k + 1) = l.take k ++ [l[k]] := List.take_succ_eq_append_getElem h
theorem free_take (l : List ByteArray) (k : Nat) (h : k < l.length) : free47 (l.take (k + 1)) = (free47 (l.take k) && !(EscD.dec l[k].data.toList).contains 47) := by
 unfold free47
 rw [take_snoc l k h, List.all_append]
 simp
theorem free_no {l : List ByteArray} (k : Nat) (h : k < l.length) (hc : (EscD.dec l[k].data.toList).contains 47 = true) : free47 l = false := by
 cases e : free47 l with
 | false => rfl
 | true =>
  have h1 := List.all_eq_true.1 e _ (List.getElem_mem h)
  rw [hc] at h1
  cases h1
set_option maxRecDepth 100000 in
set_option maxHeartbeats 8000000 in
theorem path_any (s0 s1 s2 s3 : ByteArray) (b4 : Bool) (z5 : Int) (b6 : Bool) (s7 : ByteArray) (A : Option Addr) (n cap : Nat) (l : List ByteArray) (b9 b10 : Bool) (s11 s12 : ByteArray) (w : World) (hR : Rds w A n (l.map Value.string)) (hnc : n ≤ cap) (hcm : cap ≤ maxLen) (hl : (pth l).length ≤ 899999) (hM : Max w) :
  Calls Tryz.prog 26 #[.agg #[.string s0, .string s1, .string s2, .string s3, .bool b4, .int .i64 z5, .bool b6, .string s7, .slice A n cap, .bool b9, .bool b10, .string s11, .string s12]] w fun e w' => e = .returned (.tuple #[.string (strOf (pathR s0.data.toList s3.data.toList b6 l).1), .int .i64 (pathR s0.data.toList s3.data.toList b6 l).2]) ∧ Below w.heap.size w w' := by
 have hn : l.length = n := by rw [← hR.1, List.length_map]
 have hpl := length_pth l
 unfold maxLen at hcm
 obtain ⟨V, hV⟩ : ∃ V, V = pathR s0.data.toList s3.data.toList b6 l := ⟨_, rfl⟩
 rw [← hV]
 by_cases e0 : s0.data.toList = FIL
 ·have q0 : (s0.toList == [102, 105, 108, 101]) = true := by rw [tl, e0]; rfl
  cases b6 with
  | true =>
   have HV : Hid (V = ([], 2)) := by show _ = _; rw [hV]; unfold pathR; rw [if_pos (.inr rfl)]
   clear hn hpl hR hl hV e0
   go_enter Tryz.func26, Tryz.ntmps26
   go_wp2
   go_ret2
   exact ⟨by rw [HV.out]; first | done | rfl, (Below.refl _ _).alloc (Nat.le_refl _) _⟩
  | false =>
   by_cases e3 : s3.data.toList = []
   ·have q3 : s3.toList = [] := by rw [tl]; exact e3
    have HV0 : Hid (V = match posPath l with
     | none => ([], 2)
     | some o => (o, 0)) := by show _ = _; rw [hV]; unfold pathR; rw [if_neg (by rintro (h | h); exact h e0; cases h), if_neg (fun h => h e3)]
    have HR := hid hR
    have HN := hid hn
    have HPL := hid hpl
    have HLL := hid hl
    have HM := hid hM
    clear hR hn hpl hl hV hM e0 e3
    go_enter Tryz.func26, Tryz.ntmps26
    go_wp2
    generalize hw1 : w.alloc _ = w1
    have hb1 : Below w.heap.size w w1 := by rw [← hw1]; exact (Below.refl _ _).alloc (Nat.le_refl _) _
    have hs1 : w1.heap.size = w.heap.size + 1 := by rw [← hw1]; simp
    clear hw1
    have HB0 : Hid (IsB (w.heap.size + 1) (w.heap.size + 1) [] (w1.alloc (.cells #[.pointer none, .slice none 0 0] 77))) := by
     have h := Lib.fresh_isBuilder 77 5 w1
     rw [hs1] at h
     exact h
    go_loopw [6, 7, 21] (fun _ _ vk wr => ∃ k : Nat, k ≤ n ∧ vk = .int .i64 (k : Int) ∧ Hid (IsB (w.heap.size + 1) (w.heap.size + 1) (outP (l.take k)) wr) ∧ Hid (Below (w.heap.size + 1) w1 wr) ∧ Hid (free47 (l.take k) = true)) (fun _ _ vk _ => n - (intOf vk).toNat)
    case atStart => exact ⟨0, Nat.zero_le _, rfl, HB0.out, (Below.refl _ _).alloc (by rw [hs1]; exact Nat.le_refl _) _, rfl⟩
    case round =>
     clear HB0
     obtain ⟨k, hk, rfl, HB, HBL, HF⟩ := hrel
     have hsz : w.heap.size + 1 ≤ wr.heap.size := by have := HBL.out.size; rw [hs1] at this; exact this
     by_cases hlt : k < n
     ·have hkl : k < l.length := by rw [HN.out]; exact hlt
      have hRr := HR.out.below (hb1.trans (HBL.out.mono (by omega)))
      obtain ⟨g, off, rfl, hg, hcell⟩ := hRr.spot (by omega)
      have hc := hcell k (by rw [List.length_map]; exact hkl)
      rw [List.getElem_map] at hc
      obtain ⟨s, hs⟩ : ∃ s, s = l[k] := ⟨_, rfl⟩
      rw [← hs] at hc
      obtain ⟨D, hD⟩ : ∃ D, D = EscD.dec s.data.toList := ⟨_, rfl⟩
      have hDl : D.length ≤ s.size := by rw [hD]; have := EscD.dec_len s.data.toList; rwa [show s.data.toList.length = s.size from Array.length_toList] at this
      have HS : Hid (outP (l.take (k + 1)) = outP (l.take k) ++ (47 :: D)) := by show _ = _; rw [take_snoc l k hkl, outP_snoc, ← hs, hD]
      have hsum := sum_at l k hkl
      have hsum2 := sum_take l (k + 1)
      have hpk := outP_len (l.take k)
      rw [length_pth, List.length_take, Nat.min_eq_left (by omega)] at hpk
      have hpl := HPL.out
      have hll := HLL.out
      rw [← hs] at hsum
      have hss : s.size ≤ 899999 := by omega
      have HDC : Hid (∀ w : World, Calls Tryz.prog 59 #[.string s] w fun e w' => ∃ v, e = .returned v ∧ w'.ownsRow w.heap.size 5 1 v D.length (bcells D) ∧ Below w.heap.size w w') := fun w => by rw [hD]; exact EscD.decode_any s w (by omega)
      obtain ⟨q, hq⟩ : ∃ q, q = D.contains 47 := ⟨_, rfl⟩
      have HCT : Hid (∀ w : World, Calls Tryz.prog 60 #[.string (strOf D), .string ⟨#[47]⟩] w fun e w' => e = .returned (.bool q) ∧ w = w') := fun w => by rw [hq]; exact contains1_any 47 (strOf D) w
      have a1 : ∀ w : World, (Op.stringOp .add ⟨#[47]⟩ (strOf D)).run Tryz.prog w = .ok (.string (strOf (47 :: D))) w := fun w => str_add' ⟨#[47]⟩ (strOf D) w (by rw [size_strOf]; show 1 + D.length ≤ _; omega)
      have HLEN : Hid ((outP (l.take k)).length + (1 + D.length) ≤ 140737488355328) := by show _ ≤ _; omega
      have hqf : q = true → posPath l = none := fun h => by
       have := free_no k hkl (by rw [← hs, ← hD, ← hq]; exact h)
       unfold posPath
       rw [this, if_neg (fun h => by cases h.1)]
      have hqn : q = false → free47 (l.take (k + 1)) = true := fun h => by rw [free_take l k hkl, HF.out, ← hs, ← hD, ← hq, h]; rfl
      have HQF := hid hqf
      have HQN := hid hqn
      clear hs hD hq hsum hsum2 hpk hpl hll hRr hcell hkl hqf hqn hDl
      go_wp2_with fail
      refine (HDC.out _).mono ?_
      rintro e w3 ⟨v3, rfl, hown, hb3⟩
      obtain ⟨A3, c3, rfl, hc3, hm3, hr3⟩ := owns_form hown
      have hst := run_string_of 61 9 5 Tryz.underlying61 Tryz.underlying5 Tryz.underlying9 _ c3 hr3
      have hstd := fun k => run_string_of 61 9 5 Tryz.underlying61 Tryz.underlying5 Tryz.underlying9 _ c3 (Rds_drewN hr3 k)
      have HB3 := hid (isB_below HB.out hb3)
      have HBL3 : Hid (Below (w.heap.size + 1) w1 w3) := HBL.out.trans (hb3.mono hsz)
      clear hown hb3 hr3 hm3 hc3
      go_wp2_with fail
      refine (HCT.out _).mono ?_
      rintro e w4 ⟨rfl, hw4⟩
      subst hw4
      clear hst hstd
      cases q with
      | true =>
       have HV1 : Hid (V = ([], 2)) := by show _ = _; rw [HV0.out, HQF.out rfl]
       go_wp2
       go_ret2
       exact ⟨by rw [HV1.out]; first | done | rfl, hb1.trans (HBL3.out.mono (by omega))⟩
      | false =>
       have HFN := hid (HQN.out rfl)
       have hsz3 : w.heap.size + 1 ≤ w3.heap.size := by have := HBL3.out.size; rw [hs1] at this; exact this
       go_wp2_with fail
       refine (write_any _ _ _ _ _ HB3.out (by rw [size_strOf]; have := HLEN.out; simp at this ⊢; omega) hsz3).mono ?_
       rintro e w5 ⟨rfl, hB5, hb5⟩
       have HB5 : Hid (IsB (w.heap.size + 1) (w.heap.size + 1) (outP (l.take (k + 1))) w5) := by show IsB _ _ _ _; rw [HS.out]; exact hB5
       have HBL5 := hid (HBL3.out.trans hb5)
       clear hB5 hb5
       go_wp2
       go_roundw
       case rel => exact ⟨k + 1, by omega, by go_num, HB5, HBL5, HFN⟩
       case measure => simp [intOf]; omega
     ·obtain rfl : k = n := by omega
      have hT : l.take k = l := List.take_of_length_le (by rw [HN.out]; exact Nat.le_refl _)
      rw [hT] at HB HF
      have hol : (outP l).length ≤ 899999 := by have h1 := outP_len l; have h2 := HLL.out; omega
      obtain ⟨O, hO⟩ : ∃ O, O = outP l := ⟨_, rfl⟩
      rw [← hO] at HB hol
      obtain ⟨f, hf⟩ : ∃ f, f = fine O := ⟨_, rfl⟩
      have HFI : Hid (∀ w : World, Max w → Calls Tryz.prog 28 #[.string (strOf O)] w fun e w' => e = .returned (.bool f) ∧ Below w.heap.size w w') := fun w h => by rw [hf]; exact PosB.fine_any (strOf O) w (by rw [size_strOf]; omega) h
      have HVE : Hid (V = if f = true then (O, 0) else ([], 2)) := by
       show _ = _
       rw [HV0.out]
       unfold posPath
       rw [← hO, ← hf]
       cases f with
       | true => rw [if_pos ⟨HF.out, rfl⟩, if_pos rfl]
       | false => rw [if_neg (fun h => by cases h.2), if_neg (by decide)]
      clear hT hO hf hol
      go_wp2_with fail
      refine (stringF_any _ _ _ _ (isF_of HB.out) hsz).mono ?_
      rintro e w3 ⟨rfl, hBS, hb3⟩
      have HBS := hid hBS
      clear hBS
      have HBL3 := hid (HBL.out.trans hb3)
      have HBW : Hid (Below w.heap.size w w3) := hb1.trans (HBL3.out.mono (by omega))
      go_wp2_with fail
      refine (HFI.out _ (HM.out.below HBW.out)).mono ?_
      rintro e w4 ⟨rfl, hb4⟩
      have HBW4 := hid (bel HBW.out hb4)
      cases f with
      | false =>
       have HV1 : Hid (V = ([], 2)) := by show _ = _; rw [HVE.out]; rfl
       clear hb3 hb4 HBS
       go_wp2
       go_ret2
       exact ⟨by rw [HV1.out]; first | done | rfl, HBW4.out⟩
      | true =>
       have HV1 : Hid (V = (O, 0)) := by show _ = _; rw [HVE.out]; rfl
       have HB4 : Hid (IsF (w.heap.size + 1) (w.heap.size + 1) O w4) := isF_below HBS.out hb4
       have hsz4 : w.heap.size + 1 ≤ w4.heap.size := by have h1 := HBL3.out.size; have h2 := hb4.size; rw [hs1] at h1; omega
       clear hb4
       go_wp2_with fail
       refine (stringF_any _ _ _ _ HB4.out hsz4).mono ?_
       rintro e w5 ⟨rfl, _, hb5⟩
       have HBW5 : Hid (Below w.heap.size w w5) := HBW4.out.trans (hb5.mono (by omega))
       clear hb5
       go_wp2
       go_ret2
       exact ⟨by rw [HV1.out]; first | done | rfl, HBW5.out⟩
   ·have q3 : (s3.toList == []) = false := by rw [tl, beq_eq_false_iff_ne]; exact e3
    have q3' : s3.toList.isEmpty = false := by rw [tl]; simpa using e3
    have HV : Hid (V = ([], 8)) := by show _ = _; rw [hV]; unfold pathR; rw [if_neg (by rintro (h | h); exact h e0; cases h), if_pos e3]
    clear hn hpl hR hl hV e0 e3
    go_enter Tryz.func26, Tryz.ntmps26
    go_wp2
    go_ret2
    exact ⟨by rw [HV.out]; first | done | rfl, (Below.refl _ _).alloc (Nat.le_refl _) _⟩
 ·have q0 : (s0.toList == [102, 105, 108, 101]) = false := by rw [tl, beq_eq_false_iff_ne]; exact e0
  have HV : Hid (V = ([], 2)) := by show _ = _; rw [hV]; unfold pathR; rw [if_pos (.inl e0)]
  clear hn hpl hR hl hV e0
  go_enter Tryz.func26, Tryz.ntmps26
  go_wp2
  go_ret2
  exact ⟨by rw [HV.out]; first | done | rfl, (Below.refl _ _).alloc (Nat.le_refl _) _⟩
end Go.Proofs.YtmdofbccebkbiaaGreatDoor.PosV
namespace Go.Proofs.YtmdofbccebkbiaaGreatDoor.PosW
open Go.RowKit Base Base2 SlsP PosQ PosU PosV
open Go.Proofs.YtmdofbccebkbiaaGreatDoor.PosS (seg)
open Go.Proofs.YtmdofbccebkbiaaGreatDoor.Spl (Max)
structure Pt (w : World) (l : List (List UInt8)) (A : Option Addr) (n c : Nat) : Prop where
 rds : Rds w A n ((l.map strOf).map Value.string)
 nc : n ≤ c
 cm : c ≤ maxLen
theorem Pt.below {w w' : World} {l : List (List UInt8)} {A : Option Addr} {n c : Nat} (h : Pt w l A n c) (hb : Below w.heap.size w w') : Pt w' l A n c := ⟨h.rds.below hb, h.nc, h.cm⟩
theorem Pt.of {w : World} {l : List (List UInt8)} {B n : Nat} {A : Option Addr} {c : Nat} (h : w.ownsRow B 9 1 (.slice A n c) n ((l.map strOf).map Value.string)) : Pt w l A n c := by
 obtain ⟨A', c', e, h1, h2, h3⟩ := owns_form h
 cases e
 exact ⟨h3, h1, h2⟩
structure Env (w : World) : Prop where
 pow : Tab.Pow w
 max : Max w
theorem Env.below {w w' : World} (h : Env w) (hb : Below w.heap.size w w') : Env w' := ⟨Tab.Pow.below h.pow hb, h.max.below hb⟩
theorem url_some {T : ByteArray} {l : List (List UInt8)} (ho : urlP T.data.toList = some l) (hs : T.size ≤ 900000) (w : World) (E : Env w) : Calls Tryz.prog 30 #[.string T] w fun e w' => ∃ A n c, e = .returned (.tuple #[.agg #[.string ⟨#[102, 105, 108, 101]⟩, .string ⟨#[]⟩, .string ⟨#[]⟩, .string (strOf []), .bool true, .int .i64 (-1), .bool false, .string ⟨#[]⟩, .slice A n c, .bool false, .bool false, .string ⟨#[]⟩, .string ⟨#[]⟩], .int .i64 0]) ∧ Pt w' l A n c ∧ Below w.heap.size w w' :=
 (url_any T w hs E.max).mono fun e w' h => by
  rw [ho] at h
  obtain ⟨hb, A, n, c, h1, h2⟩ := h
  exact ⟨A, n, c, h1, Pt.of h2, hb⟩
def printF (h : List UInt8) (l : List (List UInt8)) : List UInt8 := UrlP.printL ⟨#[102, 105, 108, 101]⟩ ⟨#[]⟩ ⟨#[]⟩ (strOf h) true (-1) false ⟨#[]⟩ (l.map strOf) false false ⟨#[]⟩ ⟨#[]⟩
theorem print_f (h : List UInt8) (hh : h.length ≤ 1000000) (l : List (List UInt8)) (A : Option Addr) (n c : Nat) (w : World) (hP : Pt w l A n c) (hl : (UrlP.pth (l.map strOf)).length ≤ 1073741824) (E : Env w) : Calls Tryz.prog 31 #[.agg #[.string ⟨#[102, 105, 108, 101]⟩, .string ⟨#[]⟩, .string ⟨#[]⟩, .string (strOf h), .bool true, .int .i64 (-1), .bool false, .string ⟨#[]⟩, .slice A n c, .bool false, .bool false, .string ⟨#[]⟩, .string ⟨#[]⟩]] w fun e w' => e = .returned (.string (strOf (printF h l))) ∧ Below w.heap.size w w' :=
 UrlC.print_any ⟨#[102, 105, 108, 101]⟩ ⟨#[]⟩ ⟨#[]⟩ (strOf h) true (-1) false ⟨#[]⟩ A n c (l.map strOf) false false ⟨#[]⟩ ⟨#[]⟩ w hP.rds hP.nc hP.cm (by decide) (by decide) (by decide) (by rw [size_strOf]; omega) (by decide) (by decide) (by decide) (by decide) (by decide) hl E.pow
set_option maxRecDepth 100000 in
set_option maxHeartbeats 8000000 in
theorem awake_any (w : World) (E : Env w) : Calls Tryz.prog 24 #[] w fun e w' => e = .returned (.bool true) ∧ Below w.heap.size w w' := by
 have hu : urlP [47, 97, 32, 98, 47, 99, 37] = some [[97, 37, 50, 48, 98], [99, 37, 50, 53]] := by decide +kernel
 have HU : Hid (∀ w : World, Env w → Calls Tryz.prog 30 #[.string ⟨#[47, 97, 32, 98, 47, 99, 37]⟩] w fun e w' => ∃ A n c, e = .returned (.tuple #[.agg #[.string ⟨#[102, 105, 108, 101]⟩, .string ⟨#[]⟩, .string ⟨#[]⟩, .string (strOf []), .bool true, .int .i64 (-1), .bool false, .string ⟨#[]⟩, .slice A n c, .bool false, .bool false, .string ⟨#[]⟩, .string ⟨#[]⟩], .int .i64 0]) ∧ Pt w' [[97, 37, 50, 48, 98], [99, 37, 50, 53]] A n c ∧ Below w.heap.size w w') := fun w E => url_some (T := ⟨#[47, 97, 32, 98, 47, 99, 37]⟩) hu (by decide) w E
 obtain ⟨pr, hpr⟩ : ∃ pr, pr = printF [] [[97, 37, 50, 48, 98], [99, 37, 50, 53]] := ⟨_, rfl⟩
 have HPR : Hid (∀ (A : Option Addr) (n c : Nat) (w : World), Pt w [[97, 37, 50, 48, 98], [99, 37, 50, 53]] A n c → Env w → Calls Tryz.prog 31 #[.agg #[.string ⟨#[102, 105, 108, 101]⟩, .string ⟨#[]⟩, .string ⟨#[]⟩, .string (strOf []), .bool true, .int .i64 (-1), .bool false, .string ⟨#[]⟩, .slice A n c, .bool false, .bool false, .string ⟨#[]⟩, .string ⟨#[]⟩]] w fun e w' => e = .returned (.string (strOf pr)) ∧ Below w.heap.size w w') := fun A n c w hP E => by rw [hpr]; exact print_f [] (by decide) _ A n c w hP (by decide +kernel) E
 have hq : ((strOf pr).toList == [102, 105, 108, 101, 58, 47, 47, 47, 97, 37, 50, 48, 98, 47, 99, 37, 50, 53]) = true := by rw [tl, hpr]; decide +kernel
 have HF : Hid (∀ w : World, Max w → Calls Tryz.prog 28 #[.string ⟨#[47]⟩] w fun e w' => e = .returned (.bool true) ∧ Below w.heap.size w w') := fun w h => by
  have hh := PosB.fine_any ⟨#[47]⟩ w (by decide) h
  rw [show fine (⟨#[47]⟩ : ByteArray).data.toList = true by decide +kernel] at hh
  exact hh
 have HE := hid E
 clear hu hpr E
 go_enter Tryz.func24, Tryz.ntmps24
 go_wp2_with fail
 refine (HU.out _ HE.out).mono ?_
 rintro e w1 ⟨A1, n1, c1, rfl, hP, hb1⟩
 have HB1 := hid hb1
 have HE1 := hid (HE.out.below hb1)
 have HP1 := hid hP
 clear hb1 hP
 go_upto_region 2 with (fail)
 generalize hw : World.alloc w1 _ = w2
 have h1 : Bx w2 w1.heap.size (fcells [] (.slice A1 n1 c1)) ∧ Below w1.heap.size w1 w2 := by
  subst hw
  exact laid w1 _ _
 clear hw
 have HB2 := hid (bel HB1.out h1.2)
 have HE2 := hid (HE1.out.below h1.2)
 have HP2 := hid (HP1.out.below h1.2)
 obtain ⟨d0, d1, d2, d3, d4, d5, d6, d7, d8, d9, d10, d11, d12⟩ := h1.1.facts
 clear h1
 go_wp2_with fail
 clear d0 d1 d2 d3 d4 d5 d6 d7 d8 d9 d10 d11 d12
 refine (HPR.out A1 n1 c1 _ HP2.out HE2.out).mono ?_
 rintro e w3 ⟨rfl, hb3⟩
 have HB3 := hid (bel HB2.out hb3)
 have HE3 := hid (HE2.out.below hb3)
 clear hb3
 go_wp2_with fail
 refine (HF.out _ HE3.out.max).mono ?_
 rintro e w4 ⟨rfl, hb4⟩
 have HB4 := hid (bel HB3.out hb4)
 clear hb4
 go_wp2
 go_ret
 exact ⟨by first | rfl | trivial, HB4.out⟩
end Go.Proofs.YtmdofbccebkbiaaGreatDoor.PosW
namespace Go.Proofs.YtmdofbccebkbiaaGreatDoor.PosX
open Go.RowKit Base Base2 SlsP PosQ PosU PosV PrsP PrsY Ubx
open Go.Proofs.YtmdofbccebkbiaaGreatDoor.PosS (seg seg_len dec_seg)
open Go.Proofs.YtmdofbccebkbiaaGreatDoor.PosP (posU Comp pos_again)
open Go.Proofs.YtmdofbccebkbiaaGreatDoor.Spl (Max)
open Go.Proofs.YtmdofbccebkbiaaGreatDoor.Ulw (Pt Env)
theorem glue_len : ∀ l : List (List UInt8), (UrlP.pth (l.map fun x => strOf (seg x))).length ≤ 3 * (glue 47 l).length
 | [] => Nat.zero_le _
 | x :: l => by
  have ih := glue_len l
  have h := seg_len x
  have e1 : UrlP.pth ((x :: l).map fun x => strOf (seg x)) = (47 :: seg x) ++ UrlP.pth (l.map fun x => strOf (seg x)) := rfl
  have e2 : glue 47 (x :: l) = (47 :: x) ++ glue 47 l := rfl
  rw [e1, e2, List.length_append, List.length_append, List.length_cons, List.length_cons]
  omega
theorem head_drop {L : List UInt8} (h : L.head? = some 47) : 47 :: L.drop 1 = L := by
 match L, h with
 | c :: r, h =>
  injection h with h
  rw [h]
  rfl
structure Fin (L : List UInt8) (u : U) : Prop where
 eq : u = posU (spl 47 (L.drop 1))
 url : urlP L = some ((spl 47 (L.drop 1)).map seg)
 len : (UrlP.pth u.pth).length ≤ 3 * L.length
 print : (printU u).length ≤ 3 * L.length + 10
 again : PrsP.url (printU u) none = some u
 back : pathR u.sch u.hst u.opq u.pth = (L, 0)
theorem fin_of {L : List UInt8} (h : fine L = true) : Fin L (posU (spl 47 (L.drop 1))) := by
 obtain ⟨h1, h2, h3, h4⟩ := (fine_iff L).1 h
 have hg : glue 47 (spl 47 (L.drop 1)) = L := by rw [glue_spl, head_drop h2]
 have hcomp : ∀ x ∈ spl 47 (L.drop 1), Comp x := fun x hx => ⟨fun c hc => (spl_out 47 _ x hx c hc).2, (okRow_mem h4 x hx).1, (okRow_mem h4 x hx).2⟩
 have hlen : (UrlP.pth (posU (spl 47 (L.drop 1))).pth).length ≤ 3 * L.length := by
  have := glue_len (spl 47 (L.drop 1))
  rw [hg] at this
  exact this
 refine ⟨rfl, by unfold urlP; rw [if_pos h], hlen, ?_, pos_again (spl_ne 47 _) hcomp, ?_⟩
 ·have e : printU (posU (spl 47 (L.drop 1))) = [102, 105, 108, 101, 58, 47, 47] ++ UrlP.pth (posU (spl 47 (L.drop 1))).pth := by
   unfold printU UrlP.printL UrlP.bareL
   show [102, 105, 108, 101] ++ [58] ++ [47, 47] ++ UrlP.pth (posU (spl 47 (L.drop 1))).pth ++ [] ++ [] = _
   simp
  rw [e, List.length_append]
  simp only [List.length_cons, List.length_nil]
  omega
 ·have e1 : outP (posU (spl 47 (L.drop 1))).pth = L := by
   conv => rhs; rw [← hg]
   unfold outP posU glue
   rw [List.flatMap_map]
   congr 1
   funext x
   show 47 :: EscD.dec (seg x) = 47 :: x
   rw [dec_seg]
  have e2 : free47 (posU (spl 47 (L.drop 1))).pth = true := by
   unfold free47 posU
   rw [List.all_map, List.all_eq_true]
   intro x hx
   show (!(EscD.dec (seg x)).contains 47) = true
   rw [dec_seg]
   cases e : x.contains 47 with
   | false => rfl
   | true =>
    have hm : (47 : UInt8) ∈ x := by simpa using e
    exact absurd rfl ((hcomp x hx).1 47 hm)
  unfold pathR posPath
  rw [e1, e2, h, if_neg (by rintro (h | h); exact h rfl; cases h), if_neg (fun h => h rfl), if_pos ⟨rfl, rfl⟩]
theorem pt_of {w : World} {B : Nat} {l : List (List UInt8)} {A : Option Addr} {n c : Nat} {u : U} (hu : u.pth = l.map fun x => strOf (seg x)) (h : w.ownsRow B 9 1 (.slice A n c) n (((l.map seg).map strOf).map Value.string)) : Pt w u A n c := by
 obtain ⟨A', c', e, h1, h2, h3⟩ := owns_form h
 cases e
 refine ⟨⟨?_, h1, h2⟩⟩
 rw [hu, List.map_map]
 rw [List.map_map, List.map_map] at h3
 exact h3
theorem urlU_some {T : ByteArray} {u : U} (hF : Fin T.data.toList u) (hs : T.size ≤ 900000) (w : World) (E : Env w) : Calls Tryz.prog 30 #[.string T] w fun e w' => ∃ A' n' c', e = .returned (.tuple #[.agg #[.string (strOf u.sch), .string (strOf u.usr), .string (strOf u.pwd), .string (strOf u.hst), .bool u.hh, .int .i64 u.port, .bool u.opq, .string (strOf u.txt), .slice A' n' c', .bool u.hq, .bool u.hf, .string (strOf u.qry), .string (strOf u.frg)], .int .i64 0]) ∧ Pt w' u A' n' c' ∧ Below w.heap.size w w' :=
 (url_any T w hs E.max).mono fun e w' h => by
  rw [hF.url] at h
  obtain ⟨hb, A, n, c, h1, h2⟩ := h
  have hu := hF.eq
  refine ⟨A, n, c, ?_, pt_of (by rw [hu]; rfl) h2, hb⟩
  rw [h1, hu]
  rfl
theorem path_u (u : U) (A : Option Addr) (n c : Nat) (w : World) (hP : Pt w u A n c) (hl : (UrlP.pth u.pth).length ≤ 899999) (E : Env w) : Calls Tryz.prog 26 #[.agg #[.string (strOf u.sch), .string (strOf u.usr), .string (strOf u.pwd), .string (strOf u.hst), .bool u.hh, .int .i64 u.port, .bool u.opq, .string (strOf u.txt), .slice A n c, .bool u.hq, .bool u.hf, .string (strOf u.qry), .string (strOf u.frg)]] w fun e w' => e = .returned (.tuple #[.string (strOf (pathR u.sch u.hst u.opq u.pth).1), .int .i64 (pathR u.sch u.hst u.opq u.pth).2]) ∧ Below w.heap.size w w' :=
 path_any (strOf u.sch) (strOf u.usr) (strOf u.pwd) (strOf u.hst) u.hh u.port u.opq (strOf u.txt) A n c u.pth u.hq u.hf (strOf u.qry) (strOf u.frg) w hP.pth.1 hP.pth.2.1 hP.pth.2.2 hl E.max
theorem print_p {L : List UInt8} {u : U} (hF : Fin L u) (hL : L.length ≤ 10000) (A : Option Addr) (n c : Nat) (w : World) (hP : Pt w u A n c) (E : Env w) : Calls Tryz.prog 31 #[.agg #[.string (strOf u.sch), .string (strOf u.usr), .string (strOf u.pwd), .string (strOf u.hst), .bool u.hh, .int .i64 u.port, .bool u.opq, .string (strOf u.txt), .slice A n c, .bool u.hq, .bool u.hf, .string (strOf u.qry), .string (strOf u.frg)]] w fun e w' => e = .returned (.string (strOf (printU u))) ∧ Below w.heap.size w w' := by
 obtain ⟨hu, _, hl, _, _, _⟩ := hF
 have hf : u.sch.length ≤ 10 ∧ u.usr = [] ∧ u.pwd = [] ∧ u.hst = [] ∧ u.txt = [] ∧ u.qry = [] ∧ u.frg = [] ∧ u.port = -1 := by rw [hu]; exact ⟨by show FILE.length ≤ 10; decide, rfl, rfl, rfl, rfl, rfl, rfl, rfl⟩
 obtain ⟨f0, f1, f2, f3, f4, f5, f6, f7⟩ := hf
 refine UrlC.print_any (strOf u.sch) (strOf u.usr) (strOf u.pwd) (strOf u.hst) u.hh u.port u.opq (strOf u.txt) A n c u.pth u.hq u.hf (strOf u.qry) (strOf u.frg) w hP.pth.1 hP.pth.2.1 hP.pth.2.2 ?_ ?_ ?_ ?_ ?_ ?_ ?_ ?_ ?_ (by omega) E.pow
 ·rw [size_strOf]; omega
 ·rw [f1]; decide
 ·rw [f2]; decide
 ·rw [f3]; decide
 ·rw [f4]; decide
 ·rw [f5]; decide
 ·rw [f6]; decide
 ·rw [f7]; decide
 ·rw [f7]; decide
set_option maxRecDepth 100000 in
set_option maxHeartbeats 8000000 in
theorem refPath_any (s0 s1 s2 s3 : ByteArray) (b4 : Bool) (z5 : Int) (b6 : Bool) (s7 : ByteArray) (A : Option Addr) (n cap : Nat) (l : List ByteArray) (b9 b10 : Bool) (s11 s12 : ByteArray) (w : World) (hR : Rds w A n (l.map Value.string)) (hnc : n ≤ cap) (hcm : cap ≤ maxLen) (hl : (UrlP.pth l).length ≤ 899999) :
  Calls Tryz.prog 27 #[.agg #[.string s0, .string s1, .string s2, .string s3, .bool b4, .int .i64 z5, .bool b6, .string s7, .slice A n cap, .bool b9, .bool b10, .string s11, .string s12]] w fun e w' => e = .returned (.tuple #[.string (strOf (pathR s0.data.toList s3.data.toList b6 l).1), .int .i64 (pathR s0.data.toList s3.data.toList b6 l).2]) ∧ Below w.heap.size w w' := by
 have hn : l.length = n := by rw [← hR.1, List.length_map]
 have hpl := UrlP.length_pth l
 unfold maxLen at hcm
 obtain ⟨V, hV⟩ : ∃ V, V = pathR s0.data.toList s3.data.toList b6 l := ⟨_, rfl⟩
 rw [← hV]
 by_cases e0 : s0.data.toList = FIL
 ·have q0 : (s0.toList == [102, 105, 108, 101]) = true := by rw [PosV.tl, e0]; rfl
  cases b6 with
  | true =>
   have HV : Hid (V = ([], 2)) := by show _ = _; rw [hV]; unfold pathR; rw [if_pos (.inr rfl)]
   clear hn hpl hR hl hV e0
   go_enter Tryz.func27, Tryz.ntmps27
   go_wp2
   go_ret2
   exact ⟨by rw [HV.out]; first | done | rfl, (Below.refl _ _).alloc (Nat.le_refl _) _⟩
  | false =>
   by_cases e3 : s3.data.toList = []
   ·have q3 : s3.toList = [] := by rw [PosV.tl]; exact e3
    have HV0 : Hid (V = match posPath l with
     | none => ([], 2)
     | some o => (o, 0)) := by show _ = _; rw [hV]; unfold pathR; rw [if_neg (by rintro (h | h); exact h e0; cases h), if_neg (fun h => h e3)]; first | done | rfl
    have HR := hid hR
    have HN := hid hn
    have HPL := hid hpl
    have HLL := hid hl
    clear hR hn hpl hl hV e0 e3
    go_enter Tryz.func27, Tryz.ntmps27
    go_upto_region 1 with (fail)
    generalize hw1 : World.alloc w _ = w1
    have hX : w1.heap[w.heap.size]? = some (.cells #[.string s0, .string s1, .string s2, .string s3, .bool b4, .int .i64 z5, .bool false, .string s7, .slice A n cap, .bool b9, .bool b10, .string s11, .string s12] 25 (0, 0)) := by rw [← hw1]; exact heap_alloc_new _ _
    have hb1 : Below w.heap.size w w1 := by rw [← hw1]; exact (Below.refl _ _).alloc (Nat.le_refl _) _
    clear hw1
    have HX := hid hX
    have HB1 := hid hb1
    have hc0 : w1.cell? ⟨w.heap.size, 0, none⟩ = some (.string s0) := cell_of_row w1 _ 0 _ _ _ hX
    have hc3 : w1.cell? ⟨w.heap.size, 3, none⟩ = some (.string s3) := cell_of_row w1 _ 3 _ _ _ hX
    have hc6 : w1.cell? ⟨w.heap.size, 6, none⟩ = some (.bool false) := cell_of_row w1 _ 6 _ _ _ hX
    have hc8 : w1.cell? ⟨w.heap.size, 8, none⟩ = some (.slice A n cap) := cell_of_row w1 _ 8 _ _ _ hX
    clear hX hb1
    go_wp2
    clear hc0 hc3 hc6 hc8
    go_loopw [4, 5, 6, 20] (fun vo _ _ vk wr => ∃ (k : Nat) (X : List UInt8), k ≤ n ∧ vk = .int .i64 (k : Int) ∧ vo = .string (strOf X) ∧ Hid (X = outP (l.take k)) ∧ Hid (Below w.heap.size w wr) ∧ Hid (Below w1.heap.size w1 wr) ∧ Hid (free47 (l.take k) = true)) (fun _ _ _ vk _ => n - (intOf vk).toNat)
    case atStart => exact ⟨0, [], Nat.zero_le _, rfl, rfl, rfl, HB1.out, Below.refl _ _, rfl⟩
    case round =>
     obtain ⟨k, X, hk, rfl, rfl, HXO, HBW, HBL, HF⟩ := hrel
     have hc8 : wr.cell? ⟨w.heap.size, 8, none⟩ = some (.slice A n cap) := (HBL.out.cell (p := ⟨w.heap.size, 8, none⟩) (Array.getElem?_eq_some_iff.1 HX.out).1).trans (cell_of_row w1 _ 8 _ _ _ HX.out)
     by_cases hlt : k < n
     ·have hkl : k < l.length := by rw [HN.out]; exact hlt
      have hRr := HR.out.below HBW.out
      obtain ⟨g, off, rfl, hg, hcell⟩ := hRr.spot (by omega)
      have hc := hcell k (by rw [List.length_map]; exact hkl)
      rw [List.getElem_map] at hc
      obtain ⟨s, hs⟩ : ∃ s, s = l[k] := ⟨_, rfl⟩
      rw [← hs] at hc
      obtain ⟨D, hD⟩ : ∃ D, D = EscD.dec s.data.toList := ⟨_, rfl⟩
      have hDl : D.length ≤ s.size := by rw [hD]; have := EscD.dec_len s.data.toList; rwa [show s.data.toList.length = s.size from Array.length_toList] at this
      obtain ⟨Y, hY⟩ : ∃ Y, Y = X ++ [47] := ⟨_, rfl⟩
      obtain ⟨Z, hZ⟩ : ∃ Z, Z = Y ++ D := ⟨_, rfl⟩
      have HZO : Hid (Z = outP (l.take (k + 1))) := by show _ = _; rw [take_snoc l k hkl, outP_snoc, ← hs, ← hD, hZ, hY, HXO.out]; simp
      have hsum := UrlP.sum_at l k hkl
      have hsum2 := UrlP.sum_take l (k + 1)
      have hpk := outP_len (l.take k)
      rw [UrlP.length_pth, List.length_take, Nat.min_eq_left (by omega), ← HXO.out] at hpk
      have hpl := HPL.out
      have hll := HLL.out
      rw [← hs] at hsum
      have hss : s.size ≤ 899999 := by omega
      have hYl : Y.length = X.length + 1 := by rw [hY]; simp
      have HDC : Hid (∀ w : World, Calls Tryz.prog 63 #[.string s] w fun e w' => e = .returned (.string (strOf D)) ∧ Below w.heap.size w w') := fun w => by rw [hD]; exact EscF.decode_ref s w (by omega)
      obtain ⟨q, hq⟩ : ∃ q, q = D.contains 47 := ⟨_, rfl⟩
      have HCT : Hid (∀ w : World, Calls Tryz.prog 64 #[.string (strOf D), .int .u8 47] w fun e w' => e = .returned (.bool q) ∧ w = w') := fun w => by rw [hq]; exact TokA.has_any (strOf D) 47 w (by rw [size_strOf]; omega)
      have a1 : ∀ w : World, (Op.stringOp .add (strOf X) ⟨#[47]⟩).run Tryz.prog w = .ok (.string (strOf Y)) w := fun w => by
       have h := str_add' (P := Tryz.prog) (strOf X) ⟨#[47]⟩ w (by rw [size_strOf]; show X.length + 1 ≤ _; omega)
       rw [h, hY]
       rfl
      have a2 : ∀ w : World, (Op.stringOp .add (strOf Y) (strOf D)).run Tryz.prog w = .ok (.string (strOf Z)) w := fun w => by rw [str_add Y D w (by omega), hZ]
      have hqf : q = true → posPath l = none := fun h => by
       have := free_no k hkl (by rw [← hs, ← hD, ← hq]; exact h)
       unfold posPath
       rw [this, if_neg (fun h => by cases h.1)]
      have hqn : q = false → free47 (l.take (k + 1)) = true := fun h => by rw [free_take l k hkl, HF.out, ← hs, ← hD, ← hq, h]; rfl
      have HQF := hid hqf
      have HQN := hid hqn
      clear hs hD hq hsum hsum2 hpk hpl hll hRr hcell hkl hqf hqn hDl hY hZ hYl
      go_wp2_with fail
      refine (HDC.out _).mono ?_
      rintro e w3 ⟨rfl, hb3⟩
      have HBW3 := hid (bel HBW.out hb3)
      have HBL3 := hid (bel HBL.out hb3)
      clear hb3 hc8
      go_wp2_with fail
      refine (HCT.out _).mono ?_
      rintro e w4 ⟨rfl, hw4⟩
      subst hw4
      cases q with
      | true =>
       have HV1 : Hid (V = ([], 2)) := by show _ = _; rw [HV0.out, HQF.out rfl]
       go_wp2
       go_ret2
       exact ⟨by rw [HV1.out]; first | done | rfl, HBW3.out⟩
      | false =>
       have HFN := hid (HQN.out rfl)
       go_wp2
       go_roundw
       case rel => exact ⟨k + 1, Z, by omega, by go_num, rfl, HZO, HBW3, HBL3, HFN⟩
       case measure => simp [intOf]; omega
     ·obtain rfl : k = n := by omega
      have hT : l.take k = l := List.take_of_length_le (by rw [HN.out]; exact Nat.le_refl _)
      rw [hT] at HXO HF
      have hol : X.length ≤ 899999 := by rw [HXO.out]; have h1 := outP_len l; have h2 := HLL.out; omega
      obtain ⟨f, hf⟩ : ∃ f, f = fine X := ⟨_, rfl⟩
      have HFI : Hid (∀ w : World, Calls Tryz.prog 29 #[.string (strOf X)] w fun e w' => e = .returned (.bool f) ∧ Below w.heap.size w w') := fun w => by rw [hf]; exact PosB.refFine_any (strOf X) w (by rw [size_strOf]; omega)
      have HVE : Hid (V = if f = true then (X, 0) else ([], 2)) := by
       show _ = _
       rw [HV0.out]
       unfold posPath
       rw [← HXO.out, ← hf]
       cases f with
       | true => rw [if_pos ⟨HF.out, rfl⟩, if_pos rfl]
       | false => rw [if_neg (fun h => by cases h.2), if_neg (by decide)]
      clear hT hf hol hc8
      go_wp2_with fail
      refine (HFI.out _).mono ?_
      rintro e w4 ⟨rfl, hb4⟩
      have HBW4 := hid (bel HBW.out hb4)
      clear hb4
      cases f with
      | false =>
       have HV1 : Hid (V = ([], 2)) := by show _ = _; rw [HVE.out]; rfl
       go_wp2
       go_ret2
       exact ⟨by rw [HV1.out]; first | done | rfl, HBW4.out⟩
      | true =>
       have HV1 : Hid (V = (X, 0)) := by show _ = _; rw [HVE.out]; rfl
       go_wp2
       go_ret2
       exact ⟨by rw [HV1.out]; first | done | rfl, HBW4.out⟩
   ·have q3 : (s3.toList == []) = false := by rw [PosV.tl, beq_eq_false_iff_ne]; exact e3
    have q3' : s3.toList.isEmpty = false := by rw [PosV.tl]; simpa using e3
    have HV : Hid (V = ([], 8)) := by show _ = _; rw [hV]; unfold pathR; rw [if_neg (by rintro (h | h); exact h e0; cases h), if_pos e3]
    clear hn hpl hR hl hV e0 e3
    go_enter Tryz.func27, Tryz.ntmps27
    go_wp2
    go_ret2
    exact ⟨by rw [HV.out]; first | done | rfl, (Below.refl _ _).alloc (Nat.le_refl _) _⟩
 ·have q0 : (s0.toList == [102, 105, 108, 101]) = false := by rw [PosV.tl, beq_eq_false_iff_ne]; exact e0
  have HV : Hid (V = ([], 2)) := by show _ = _; rw [hV]; unfold pathR; rw [if_pos (.inl e0)]
  clear hn hpl hR hl hV e0
  go_enter Tryz.func27, Tryz.ntmps27
  go_wp2
  go_ret2
  exact ⟨by rw [HV.out]; first | done | rfl, (Below.refl _ _).alloc (Nat.le_refl _) _⟩
end Go.Proofs.YtmdofbccebkbiaaGreatDoor.PosX
