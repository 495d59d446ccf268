/- A path's URL, by the code and by the document; boxes that hold a file's URL. -/
import Derived.Test.YtleecmapaihhmaaDoorPosB
import Derived.Test.YtleecmapaihhmaaDoorPosC
import Derived.Test.YtleecmapaihhmaaDoorMB
set_option linter.unusedSimpArgs false
set_option linter.unusedVariables false
namespace Go.Proofs.YtleecmapaihhmaaDoor.PosU
open Go.RowKit Go.Proofs.YtleecmapaihhmaaDoor.Base Go.Proofs.YtleecmapaihhmaaDoor.Regs Go.Proofs.YtleecmapaihhmaaDoor.Base2 Go.Proofs.YtleecmapaihhmaaDoor.Base3 Go.Proofs.YtleecmapaihhmaaDoor.SlsP Go.Proofs.YtleecmapaihhmaaDoor.PosQ Go.Proofs.YtleecmapaihhmaaDoor.Sls Go.Proofs.YtleecmapaihhmaaDoor.PosA Go.Proofs.YtleecmapaihhmaaDoor.PosB Go.Proofs.YtleecmapaihhmaaDoor.PosC
open Go.Proofs.YtleecmapaihhmaaDoor.PosS (seg)
open Go.Proofs.YtleecmapaihhmaaDoor.Spl (Max)

/-- A file's URL's cells: its host, its path's slice. -/
def fcells (h : List UInt8) (p : Value) : Array Value := #[.string ⟨#[102, 105, 108, 101]⟩, .string ⟨#[]⟩, .string ⟨#[]⟩, .string (strOf h), .bool true, .int .i64 (-1), .bool false, .string ⟨#[]⟩, p, .bool false, .bool false, .string ⟨#[]⟩, .string ⟨#[]⟩]
def zcells : Array Value := #[.string ⟨#[]⟩, .string ⟨#[]⟩, .string ⟨#[]⟩, .string ⟨#[]⟩, .bool false, .int .i64 0, .bool false, .string ⟨#[]⟩, .slice none 0 0, .bool false, .bool false, .string ⟨#[]⟩, .string ⟨#[]⟩]
def Bx (w : World) (g : Nat) (cs : Array Value) : Prop := w.heap[g]? = some (.cells cs 25 (0, 0))
variable {w w' : World} {g : Nat} {cs ds : Array Value}
theorem Bx.lt (h : Bx w g cs) : g < w.heap.size := (Array.getElem?_eq_some_iff.1 h).1
theorem Bx.below (h : Bx w g cs) (hb : Below w.heap.size w w') : Bx w' g cs := (hb.block g h.lt).trans h
theorem Bx.under {B : Nat} (h : Bx w g cs) (hb : Below B w w') (hg : g < B) : Bx w' g cs := (hb.block g hg).trans h
theorem Bx.load (h : Bx w g cs) (hs : cs.size = 13) : (loadVar 25 ⟨g, 0, none⟩).run Tryd.prog w = .ok (.agg cs) w :=
  run_loadVar_row w g _ _ cs (0, 0) _ h Tryd.underlying25 rfl (by rw [hs]; kernel_rfl)
theorem Bx.path {h : List UInt8} {p : Value} (hB : Bx w g (fcells h p)) (q : Value) : Bx (w.setCell ⟨g, 8, none⟩ q) g (fcells h q) := heap_setCell_same w g 8 _ _ _ hB
theorem Bx.set {k i : Nat} (h : Bx w g cs) (x : Value) (hk : g ≠ k) : Bx (w.setCell ⟨k, i, none⟩ x) g cs := (heap_setCell_other w ⟨k, i, none⟩ g x hk).trans h
theorem Bx.cell8 {h : List UInt8} {p : Value} (hB : Bx w g (fcells h p)) : w.cell? ⟨g, 8, none⟩ = some p ∧ w.frozen? ⟨g, 8, none⟩ = false := ⟨cell_of_row w g 8 _ _ _ hB, frozen_of_row w g 8 _ _ hB⟩
theorem Bx.facts {h : List UInt8} {p : Value} (hB : Bx w g (fcells h p)) : w.cell? ⟨g, 0, none⟩ = some (.string ⟨#[102, 105, 108, 101]⟩) ∧ w.cell? ⟨g, 1, none⟩ = some (.string ⟨#[]⟩) ∧ w.cell? ⟨g, 2, none⟩ = some (.string ⟨#[]⟩) ∧ w.cell? ⟨g, 3, none⟩ = some (.string (strOf h)) ∧ w.cell? ⟨g, 4, none⟩ = some (.bool true) ∧ w.cell? ⟨g, 5, none⟩ = some (.int .i64 (-1)) ∧ w.cell? ⟨g, 6, none⟩ = some (.bool false) ∧ w.cell? ⟨g, 7, none⟩ = some (.string ⟨#[]⟩) ∧ w.cell? ⟨g, 8, none⟩ = some (p) ∧ w.cell? ⟨g, 9, none⟩ = some (.bool false) ∧ w.cell? ⟨g, 10, none⟩ = some (.bool false) ∧ w.cell? ⟨g, 11, none⟩ = some (.string ⟨#[]⟩) ∧ w.cell? ⟨g, 12, none⟩ = some (.string ⟨#[]⟩) :=
  ⟨cell_of_row w g 0 _ _ _ hB, cell_of_row w g 1 _ _ _ hB, cell_of_row w g 2 _ _ _ hB, cell_of_row w g 3 _ _ _ hB, cell_of_row w g 4 _ _ _ hB, cell_of_row w g 5 _ _ _ hB, cell_of_row w g 6 _ _ _ hB, cell_of_row w g 7 _ _ _ hB, cell_of_row w g 8 _ _ _ hB, cell_of_row w g 9 _ _ _ hB, cell_of_row w g 10 _ _ _ hB, cell_of_row w g 11 _ _ _ hB, cell_of_row w g 12 _ _ _ hB⟩
theorem Bx.row (h : Bx w g cs) (ds : Array Value) : Bx (w.setRow g ds) g ds := setRow_heap w g cs ds _ (0, 0) h
theorem laid (w : World) (a : Array Value) (T : TypeId) : (w.alloc (.cells a T)).heap[w.heap.size]? = some (.cells a T (0, 0)) ∧ Below w.heap.size w (w.alloc (.cells a T)) :=
  ⟨heap_alloc_new w _, (Below.refl _ _).alloc (Nat.le_refl _) _⟩
/-- A whole URL is stored into a box. -/
theorem store_cs {ops : Array Oper} {rest : List Oper} {o : Oper} {a : Act} {Q : Exit → Act → World → Prop} (hU : Bx w g cs) (ds : Array Value) (hs : cs.size = 13) (hs2 : ds.size = 13) (h1 : ds.all (·.oneCell') = true) (x y : Operand) (ho : o.op = .store 25 x y) (hgd : o.guard = none)
    (hx : a.eval x = .pointer (some ⟨g, 0, none⟩)) (hy : a.eval y = .agg ds)
    (h : wpList Tryd.prog ops Q rest (a.put o.dst undef) (w.setRow g ds)) : wpList Tryd.prog ops Q (o :: rest) a w :=
  wpList_store_row hgd 25 x y ho g ds hx hy 25 cs hU (by rw [hs2]; kernel_rfl) (by rw [hs, hs2]) h1 h
theorem size_f (h : List UInt8) (p : Value) : (fcells h p).size = 13 := rfl
theorem one_f (h : List UInt8) (A : Option Addr) (n c : Nat) : (fcells h (.slice A n c)).all (·.oneCell') = true := by simp [fcells, Value.oneCell']
theorem one_z : zcells.all (·.oneCell') = true := by simp [zcells, Value.oneCell']
/-- What is answered: a box and a number, or a box and a word. -/
theorem res {fn : Func} {a b : Tmp} (h : fn.results = #[.cell a 25, .tmp b]) (hU : Bx w g cs) (hs : cs.size = 13) (v : Value) (tmps : Array Value) (h2 : tmps.getD a undef = .pointer (some ⟨g, 0, none⟩)) (h3 : tmps.getD b undef = v) :
    (results fn tmps).run Tryd.prog w = .ok (.tuple #[.agg cs, v]) w := by
  have hp' : tmps[a]?.getD undef = .pointer (some ⟨g, 0, none⟩) := by simpa using h2
  have hq' : tmps[b]?.getD undef = v := by simpa using h3
  simp [results, h, hp', hq', asAddr, hU.load hs]
theorem below_setRow {B : Nat} {w0 : World} (h : Below B w0 w) (hg : B ≤ g) (ds : Array Value) : Below B w0 (w.setRow g ds) := by
  refine ⟨h.os, h.tape, h.output, ?_, fun k hk => (setRow_other w g k ds (by omega)).trans (h.block k hk)⟩
  simpa [World.setRow] using h.size
theorem below_row {B : Nat} {w0 : World} (h : Below B w0 w) (hg : B ≤ g) (ds : Array Value) : Below B w0 (w.setRow g ds) := below_setRow h hg ds
/-- A file's URL of these segments, beside what says that all is well; or none. -/
def AnsF (yes no : Value) (hst : List UInt8) (w : World) (o : Option (List (List UInt8))) (e : Ending) (w' : World) : Prop := Below w.heap.size w w' ∧ match o with
  | none => e = .returned (.tuple #[.agg zcells, no])
  | some l => ∃ A n c, e = .returned (.tuple #[.agg (fcells hst (.slice A n c)), yes]) ∧ w'.ownsRow w.heap.size 9 1 (.slice A n c) n ((l.map strOf).map Value.string)
theorem ansf_none {yes no : Value} {hst : List UInt8} {o : Option (List (List UInt8))} (ho : o = none) (hb : Below w.heap.size w w') : AnsF yes no hst w o (.returned (.tuple #[.agg zcells, no])) w' := by
  subst ho
  exact ⟨hb, rfl⟩
theorem ansf_some {yes no : Value} {hst : List UInt8} {o : Option (List (List UInt8))} {l : List (List UInt8)} (ho : o = some l) (hb : Below w.heap.size w w') {A : Option Addr} {n c : Nat} (hown : w'.ownsRow w.heap.size 9 1 (.slice A n c) n ((l.map strOf).map Value.string)) : AnsF yes no hst w o (.returned (.tuple #[.agg (fcells hst (.slice A n c)), yes])) w' := by
  subst ho
  exact ⟨hb, A, n, c, rfl, hown⟩
theorem owns_set {B n : Nat} {e : TypeId} {v x : Value} {xs : List Value} {i : Nat} (h : w.ownsRow B e 1 v n xs) (hg : g < B) : (w.setCell ⟨g, i, none⟩ x).ownsRow B e 1 v n xs := by
  refine ⟨h.1, ?_⟩
  rcases h.2 with hn | ⟨k, cap, cur, rfl, hb, hh, rest⟩
  · exact .inl hn
  · exact .inr ⟨k, cap, cur, rfl, hb, (heap_setCell_other _ _ _ _ (show k ≠ g by omega)).trans hh, rest⟩
theorem owns_row {B n : Nat} {e : TypeId} {v : Value} {xs : List Value} (h : w.ownsRow B e 1 v n xs) (hg : g < B) (ds : Array Value) : (w.setRow g ds).ownsRow B e 1 v n xs := by
  refine ⟨h.1, ?_⟩
  rcases h.2 with hn | ⟨k, cap, cur, rfl, hb, hh, rest⟩
  · exact .inl hn
  · exact .inr ⟨k, cap, cur, rfl, hb, (setRow_other _ _ _ _ (show k ≠ g by omega)).trans hh, rest⟩
/-- What the code's parts of a text lie in. -/
def RowAt (w : World) (b : Nat) (l : List (List UInt8)) : Prop := w.heap[b]? = some (.cells ((l.map strOf).map Value.string).toArray 9 (0, 0))
theorem RowAt.lt {b : Nat} {l : List (List UInt8)} (h : RowAt w b l) : b < w.heap.size := (Array.getElem?_eq_some_iff.1 h).1
theorem RowAt.cell {b : Nat} {l : List (List UInt8)} (h : RowAt w b l) (k : Nat) (hk : k < l.length) : w.cell? ⟨b, k, none⟩ = some (.string (strOf l[k])) := (cell_of_row w b k _ _ _ h).trans (by simp [hk])
theorem RowAt.rds {b : Nat} {l : List (List UInt8)} (h : RowAt w b l) : Rds w (some ⟨b, 0, none⟩) l.length ((l.map strOf).map Value.string) :=
  Rds.of_spot (by simp) h.lt (fun j hj => by
    have hj' : j < l.length := by simpa using hj
    rw [Nat.zero_add, cell_of_row w b j _ _ _ h]
    simp [hj'])
theorem split_row (b : UInt8) (s : ByteArray) (w : World) (hs : s.size ≤ 1073741824) (hM : Max w) : Calls Tryd.prog 18 #[.string s, .string ⟨#[b]⟩] w fun e w' => e = .returned (.slice (some ⟨w.heap.size, 0, none⟩) (spl b s.data.toList).length (spl b s.data.toList).length) ∧ RowAt w' w.heap.size (spl b s.data.toList) ∧ Below w.heap.size w w' := by
  obtain ⟨m, hm⟩ := hM
  refine (Tryd.strings_Split s ⟨#[b]⟩ m w (by omega) hm (Nat.le_refl _)).mono ?_
  rintro e w' ⟨rfl, rfl⟩
  have hd := Lib.splitB_data ⟨#[b]⟩ 0 (Lib.countB s ⟨#[b]⟩) s
  rw [show (⟨#[b]⟩ : ByteArray).data.toList = [b] from rfl, Spl.splitK_gen b (spl b) rfl (spl_at b) (spl_not b) _ _ (by rw [← Lib.count_one]; exact Nat.le_refl _)] at hd
  have hl := Lib.splitB_all ⟨#[b]⟩ (Nat.le_refl _) 0 _ s rfl
  generalize Lib.splitB ⟨#[b]⟩ 0 (Lib.countB s ⟨#[b]⟩) s = B at hd hl ⊢
  have hB : B = (spl b s.data.toList).map strOf := by
    rw [← hd, List.map_map]
    conv => lhs; rw [← List.map_id B]
    exact List.map_congr_left fun x _ => (strOf_toList x).symm
  have hn : Lib.countB s ⟨#[b]⟩ + 1 = (spl b s.data.toList).length := by rw [← hl, hB, List.length_map]
  refine ⟨by rw [hn], ?_, (Below.refl _ _).alloc (Nat.le_refl _) _⟩
  unfold RowAt
  rw [← hB]
  exact heap_alloc_new w _
theorem one_cell (w : World) (x : Value) (T : TypeId) : Rds (w.alloc (.cells #[x] T)) (some ⟨w.heap.size, 0, none⟩) 1 [x] :=
  Rds.of_spot rfl (by simp) (fun j hj => by
    simp at hj
    subst hj
    rw [Nat.zero_add, World.cell?_alloc_mark]
    rfl)
theorem one_str (s : ByteArray) : ∀ u ∈ [Value.string s], u.oneCell' = true := by
  intro u hu
  simp at hu
  subst hu
  rfl
/-- What a path's URL's segments are. -/
def urlP (L : List UInt8) : Option (List (List UInt8)) := if fine L = true then some ((spl 47 (L.drop 1)).map seg) else none
set_option linter.unusedSimpArgs false in
set_option maxRecDepth 100000 in
set_option maxHeartbeats 8000000 in
theorem refUrl_any (s : ByteArray) (w : World) (hs : s.size ≤ 900000) :
    Calls Tryd.prog 8 #[.string s] w (AnsF (.bool true) (.bool false) [] w (urlP s.data.toList)) := by
  have hl : s.data.toList.length = s.size := Array.length_toList
  obtain ⟨b, hb⟩ : ∃ b, b = fine s.data.toList := ⟨_, rfl⟩
  obtain ⟨l, hll⟩ : ∃ l, l = spl 47 (s.data.toList.drop 1) := ⟨_, rfl⟩
  obtain ⟨O, hO⟩ : ∃ O, O = urlP s.data.toList := ⟨_, rfl⟩
  rw [← hO]
  have HO : Hid (O = if b = true then some (l.map seg) else none) := by show _ = _; rw [hO, hb, hll]; rfl
  have hlen2 : l.length ≤ s.size + 1 := by rw [hll]; have := length_spl 47 (s.data.toList.drop 1); rw [List.length_drop, hl] at this; omega
  have hxl : ∀ x ∈ l, x.length ≤ s.size := by
    intro x hx
    rw [hll] at hx
    have := spl_len 47 _ x hx
    rw [List.length_drop, hl] at this
    omega
  have hpos : b = true → 1 ≤ s.size := by
    intro h
    rw [hb, fine_iff] at h
    rw [← hl]
    cases e : s.data.toList with
    | nil => rw [e] at h; exact absurd h.2.1 (by decide)
    | cons a t => simp
  have HFI : Hid (∀ w : World, Calls Tryd.prog 10 #[.string s] w fun e w' => e = .returned (.bool b) ∧ Below w.heap.size w w') := fun w => by rw [hb]; exact refFine_any s w (by omega)
  have HPA : Hid (∀ w : World, Calls Tryd.prog 20 #[.string (s.extract 1 s.size), .int .u8 47] w (OwnedL w l)) := fun w => by rw [hll, ← ext1]; exact refParts47_any _ w (by have := ext1_size s; omega)
  have HSG : Hid (∀ (A : Option Addr) (n cap : Nat) (w : World), Rds w A n ((l.map strOf).map Value.string) → n ≤ 1000000 → Calls Tryd.prog 19 #[.slice A n cap] w (OwnedL w (l.map seg))) := fun A n cap w h1 h2 => segments_any A n cap l w h1 h2 (fun x hx => by have := hxl x hx; omega)
  have HPO := hid hpos
  have HL2 : Hid (l.length ≤ 1000000) := by show _ ≤ _; omega
  clear hb hll hO hl hxl hpos hlen2
  go_enter Tryd.func8, Tryd.ntmps8
  go_upto_region 1 with (fail)
  generalize hw : World.alloc w _ = w1
  have h1 : Bx w1 w.heap.size (zcells) ∧ Below w.heap.size w w1 := by
    subst hw
    exact laid w _ _
  clear hw
  have HX1 := hid h1.1
  have HB1 := hid h1.2
  clear h1
  go_wp2_with fail
  refine (HFI.out _).mono ?_
  rintro e w2 ⟨rfl, hb2⟩
  have HX2 := hid (HX1.out.below hb2)
  have HB2 := hid (bel HB1.out hb2)
  clear HX1 HB1 hb2
  cases b with
  | false =>
    have HF : Hid (O = none) := by show _ = _; rw [HO.out]; rfl
    go_wp2_with (refine store_cs HX2.out zcells rfl rfl one_z (.tmp 2) (.tmp 7) rfl rfl rfl rfl ?_)
    try simp only [Exit.inBlock, Exit.then]
    exact bodyPost_ret (w := World.setRow w2 w.heap.size zcells) (res rfl (HX2.out.row zcells) rfl (.bool false) _ rfl rfl) rfl (ansf_none HF.out (below_row HB2.out (Nat.le_refl _) zcells))
  | true =>
    have HF : Hid (O = some (l.map seg)) := by show _ = _; rw [HO.out]; rfl
    have h0i : (1 : Int) ≤ (s.size : Int) := by have := HPO.out rfl; omega
    go_wp2_with fail
    refine (HPA.out _).mono ?_
    rintro e w4 ⟨v4, rfl, hown, hb4⟩
    obtain ⟨A4, c4, rfl, hc4, hm4, hr4⟩ := owns_form hown
    have HX4 := hid (HX2.out.below hb4)
    have HB4 := hid (bel HB2.out hb4)
    have HR4 := hid hr4
    clear hown hb4 hr4 hm4 hc4
    go_wp2_with fail
    refine (HSG.out A4 l.length c4 _ HR4.out HL2.out).mono ?_
    rintro e w5 ⟨v5, rfl, hown, hb5⟩
    have HX5 := hid (HX4.out.below hb5)
    have HB5 := hid (bel HB4.out hb5)
    have HO5 : Hid (w5.ownsRow w4.heap.size 9 1 v5 (l.map seg).length (((l.map seg).map strOf).map Value.string)) := hown
    have HLT : Hid (w.heap.size < w4.heap.size) := HX4.out.lt
    obtain ⟨A5, c5, rfl, hc5, hm5, hr5⟩ := owns_form hown
    obtain ⟨n5, hn5⟩ : ∃ n5, n5 = (l.map seg).length := ⟨_, rfl⟩
    rw [← hn5] at HO5 ⊢
    clear hown hb5 hr5 hm5 hc5 hn5
    go_wp2_with (refine store_cs HX5.out (fcells [] (.slice A5 n5 c5)) rfl rfl (one_f _ _ _ _) (.tmp 2) (.tmp 12) rfl rfl rfl rfl ?_)
    try simp only [Exit.inBlock, Exit.then]
    exact bodyPost_ret (w := World.setRow w5 w.heap.size (fcells [] (.slice A5 n5 c5))) (res rfl (HX5.out.row _) rfl (.bool true) _ rfl rfl) rfl (ansf_some HF.out (below_row HB5.out (Nat.le_refl _) _) (owns_base (owns_row HO5.out HLT.out _) (by have := HLT.out; omega)))
set_option linter.unusedSimpArgs false in
set_option maxRecDepth 100000 in
set_option maxHeartbeats 8000000 in
theorem url_any (s : ByteArray) (w : World) (hs : s.size ≤ 900000) (hM : Max w) :
    Calls Tryd.prog 7 #[.string s] w (AnsF (.int .i64 0) (.int .i64 2) [] w (urlP s.data.toList)) := by
  have hl : s.data.toList.length = s.size := Array.length_toList
  obtain ⟨b, hb⟩ : ∃ b, b = fine s.data.toList := ⟨_, rfl⟩
  obtain ⟨l, hll⟩ : ∃ l, l = spl 47 (s.data.toList.drop 1) := ⟨_, rfl⟩
  obtain ⟨O, hO⟩ : ∃ O, O = urlP s.data.toList := ⟨_, rfl⟩
  rw [← hO]
  have HO : Hid (O = if b = true then some (l.map seg) else none) := by show _ = _; rw [hO, hb, hll]; rfl
  have hlen2 : l.length ≤ s.size + 1 := by rw [hll]; have := length_spl 47 (s.data.toList.drop 1); rw [List.length_drop, hl] at this; omega
  have hxl : ∀ x ∈ l, x.length ≤ s.size := by
    intro x hx
    rw [hll] at hx
    have := spl_len 47 _ x hx
    rw [List.length_drop, hl] at this
    omega
  have hpos : b = true → 1 ≤ s.size := by
    intro h
    rw [hb, fine_iff] at h
    rw [← hl]
    cases e : s.data.toList with
    | nil => rw [e] at h; exact absurd h.2.1 (by decide)
    | cons a t => simp
  have HFI : Hid (∀ w : World, Max w → Calls Tryd.prog 9 #[.string s] w fun e w' => e = .returned (.bool b) ∧ Below w.heap.size w w') := fun w h => by rw [hb]; exact fine_any s w (by omega) h
  have HSP : Hid (∀ w : World, Max w → Calls Tryd.prog 18 #[.string (s.extract 1 s.size), .string ⟨#[47]⟩] w fun e w' => e = .returned (.slice (some ⟨w.heap.size, 0, none⟩) l.length l.length) ∧ RowAt w' w.heap.size l ∧ Below w.heap.size w w') := fun w h => by rw [hll, ← ext1]; exact split_row 47 _ w (by have := ext1_size s; omega) h
  have HPO := hid hpos
  have HM := hid hM
  have HXL := hid hxl
  obtain ⟨i0, hi, hz0, hz1, hz2⟩ := info_parts info_str
  obtain ⟨n, hn⟩ : ∃ n, n = l.length := ⟨_, rfl⟩
  have HN := hid hn
  rw [← hn] at HSP hlen2
  have hn9 : n ≤ 900001 := by omega
  clear hb hll hO hl hxl hpos hlen2 hM hn
  go_enter Tryd.func7, Tryd.ntmps7
  go_upto_region 1 with (fail)
  generalize hw : World.alloc w _ = w1
  have h1 : Bx w1 w.heap.size (zcells) ∧ Below w.heap.size w w1 := by
    subst hw
    exact laid w _ _
  clear hw
  have HX1 := hid h1.1
  have HB1 := hid h1.2
  clear h1
  go_wp2_with fail
  refine (HFI.out _ (HM.out.below HB1.out)).mono ?_
  rintro e w2 ⟨rfl, hb2⟩
  have HX2 := hid (HX1.out.below hb2)
  have HB2 := hid (bel HB1.out hb2)
  clear HX1 HB1 hb2
  cases b with
  | false =>
    have HF : Hid (O = none) := by show _ = _; rw [HO.out]; rfl
    go_wp2_with (refine store_cs HX2.out zcells rfl rfl one_z (.tmp 2) (.tmp 10) rfl rfl rfl rfl ?_)
    try simp only [Exit.inBlock, Exit.then]
    exact bodyPost_ret (w := World.setRow w2 w.heap.size zcells) (res rfl (HX2.out.row zcells) rfl (.int .i64 2) _ rfl rfl) rfl (ansf_none HF.out (below_row HB2.out (Nat.le_refl _) zcells))
  | true =>
    have HF : Hid (O = some (l.map seg)) := by show _ = _; rw [HO.out]; rfl
    have h0i : (1 : Int) ≤ (s.size : Int) := by have := HPO.out rfl; omega
    go_upto_region 4 with (fail)
    generalize hw : World.alloc w2 _ = w3
    have h1 : Bx w3 w2.heap.size (fcells [] (.slice none 0 0)) ∧ Below w2.heap.size w2 w3 := by
      subst hw
      exact laid w2 _ _
    clear hw
    have HX3 := hid (HX2.out.below h1.2)
    have HU3 := hid h1.1
    have HB3 := hid (bel HB2.out h1.2)
    have HG : Hid (w.heap.size < w2.heap.size) := HX2.out.lt
    have HG3 : Hid (w2.heap.size < w3.heap.size) := HU3.out.lt
    clear h1
    go_wp2_with fail
    refine (HSP.out _ (HM.out.below HB3.out)).mono ?_
    rintro e w4 ⟨rfl, hrow, hb4⟩
    have HX4 := hid (HX3.out.below hb4)
    have HU4 := hid (HU3.out.below hb4)
    have HB4 := hid (bel HB3.out hb4)
    have HR4 := hid hrow
    have HG4 : Hid (w3.heap.size < w4.heap.size) := hrow.lt
    obtain ⟨gu, hgu⟩ : ∃ gu, gu = w2.heap.size := ⟨_, rfl⟩
    obtain ⟨gr, hgr⟩ : ∃ gr, gr = w3.heap.size := ⟨_, rfl⟩
    rw [← hgr] at HG3 HG4 HR4 ⊢
    rw [← hgu] at HG HG3 HU4 ⊢
    clear hrow hb4 HX3 HU3 HB3 HX2 HB2 hgu hgr
    go_wp2
    go_loopw [6, 16] (fun _ vk wr => ∃ (k : Nat) (A : Option Addr) (c : Nat), k ≤ n ∧ vk = .int .i64 (k : Int) ∧ Hid (wr.ownsRow w4.heap.size 9 1 (.slice A k c) k ((((l.take k).map seg).map strOf).map Value.string)) ∧ Hid (Bx wr gu (fcells [] (.slice A k c))) ∧ Hid (Bx wr w.heap.size zcells) ∧ Hid (RowAt wr gr l) ∧ Hid (Below w.heap.size w wr) ∧ w4.heap.size ≤ wr.heap.size) (fun _ vk _ => n - (intOf vk).toNat)
    case atStart => exact ⟨0, none, 0, Nat.zero_le _, rfl, World.ownsRow_nil _ _ _ _, HU4.out, HX4.out, HR4.out, HB4.out, Nat.le_refl _⟩
    case round =>
      clear HU4 HX4 HR4 HB4
      obtain ⟨k, A, c, hk, rfl, HOW, HU, HX, HR, HB, hsz⟩ := hrel
      have HSZ := hid hsz
      by_cases hlt : k < n
      · obtain ⟨x, hxd⟩ : ∃ x, x = l[k]'(by rw [← HN.out]; exact hlt) := ⟨_, rfl⟩
        have hc := HR.out.cell k (by rw [← HN.out]; exact hlt)
        rw [← hxd] at hc
        have hxs : x.length ≤ 900000 := by rw [hxd]; have := HXL.out _ (List.getElem_mem (l := l) (n := k) (by rw [← HN.out]; exact hlt)); omega
        obtain ⟨sx, hsx⟩ : ∃ sx, sx = strOf (seg x) := ⟨_, rfl⟩
        have HSG : Hid (∀ w : World, Calls Tryd.prog 12 #[.string (strOf x)] w fun e w' => e = .returned (.string sx) ∧ Below w.heap.size w w') := fun w => by rw [hsx]; exact segment_any (strOf x) w (by rw [size_strOf]; omega)
        obtain ⟨R, hRd⟩ : ∃ R, R = (((l.take k).map seg).map strOf).map Value.string := ⟨_, rfl⟩
        rw [← hRd] at HOW
        have HR2 : Hid ((((l.take (k + 1)).map seg).map strOf).map Value.string = R ++ [Value.string sx]) := by
          show _ = _
          rw [take_snoc l k (by rw [← HN.out]; exact hlt), ← hxd, List.map_append, List.map_append, List.map_append, ← hRd, hsx]
          rfl
        clear hxd hxs hsx hRd
        go_upto_region 7 with (fail)
        refine wp_region_rel_tail (by kernel_rfl) 5 [is (.pointer (some ⟨gu, 8, none⟩)), is (.slice A k c), is (.string (strOf x)), is (.string sx), row 1 [.string sx]] [[], [0], [], [2], [2, 3], [0, 1, 2, 3, 4]] (by kernel_rfl) ?_ ?_
        · refine ⟨?_, ?_, ?_, ?_, ?_, trivial⟩
          · intro t wq hbq hh K hK
            clear hh
            simp only [filled, filledN, upd, Have, is, any, row, pick, Act.put, List.setIfInBounds_toArray, List.set_cons_zero, List.set_cons_succ, Nat.reduceAdd, Nat.reduceEqDiff, reduceIte] at hK ⊢
            go_simp
            exact hK _ _ (Below.refl _ _) rfl
          · intro t wq hbq hh K hK
            have e0 := hh.1
            simp only [pick] at e0
            replace e0 : t 0 = (.pointer (some ⟨gu, 8, none⟩)) := e0
            clear hh
            simp only [filled, filledN, upd, Have, is, any, row, pick, Act.put, List.setIfInBounds_toArray, List.set_cons_zero, List.set_cons_succ, Nat.reduceAdd, Nat.reduceEqDiff, reduceIte] at hK ⊢
            simp only [e0] at hK ⊢
            have hc8 := (HU.out.below hbq).cell8.1
            go_simp
            exact hK _ _ (Below.refl _ _) rfl
          · intro t wq hbq hh K hK
            clear hh
            simp only [filled, filledN, upd, Have, is, any, row, pick, Act.put, List.setIfInBounds_toArray, List.set_cons_zero, List.set_cons_succ, Nat.reduceAdd, Nat.reduceEqDiff, reduceIte] at hK ⊢
            go_simp
            exact hK _ _ (Below.refl _ _) rfl
          · intro t wq hbq hh K hK
            have e2 := hh.1
            simp only [pick] at e2
            replace e2 : t 2 = (.string (strOf x)) := e2
            clear hh
            simp only [filled, filledN, upd, Have, is, any, row, pick, Act.put, List.setIfInBounds_toArray, List.set_cons_zero, List.set_cons_succ, Nat.reduceAdd, Nat.reduceEqDiff, reduceIte] at hK ⊢
            simp only [e2] at hK ⊢
            go_simp
            refine (HSG.out _).mono ?_
            rintro e w9 ⟨rfl, hb9⟩
            exact hK _ _ hb9 rfl
          · intro t wq hbq hh K hK
            have e3 := hh.2.1
            simp only [pick] at e3
            replace e3 : t 3 = (.string sx) := e3
            clear hh
            simp only [filled, filledN, upd, Have, is, any, row, pick, Act.put, List.setIfInBounds_toArray, List.set_cons_zero, List.set_cons_succ, Nat.reduceAdd, Nat.reduceEqDiff, reduceIte] at hK ⊢
            simp only [e3] at hK ⊢
            go_simp
            exact hK _ _ ((Below.refl _ _).alloc (Nat.le_refl _) _) ⟨_, _, rfl, Nat.le_refl _, by decide, one_cell _ _ _⟩
        · intro t wq hbq hh
          have f1 := have_get hh 1 (by decide)
          simp only [pick] at f1
          replace f1 : t 1 = (.slice A k c) := f1
          have f4 := have_get hh 4 (by decide)
          simp only [pick] at f4
          clear hh
          simp only [filled, filledN, upd, Have, is, any, row, pick, Act.put, List.setIfInBounds_toArray, List.set_cons_zero, List.set_cons_succ, Nat.reduceAdd, Nat.reduceEqDiff, reduceIte]
          obtain ⟨A4, c4, f4, hc4, hm4, hr4⟩ := f4
          simp only [f1, f4]
          have hownq := owns_below HOW.out hbq
          have HUq := hid (HU.out.below hbq)
          have HXq := hid (HX.out.below hbq)
          have HRq := hid ((hbq.block gr HR.out.lt).trans HR.out : RowAt wq gr l)
          have HBq := hid (bel HB.out hbq)
          have hszq : w4.heap.size ≤ wq.heap.size := Nat.le_trans hsz hbq.size
          have hrefl : Below w4.heap.size wq wq := Below.refl _ _
          refine wpList_app_any rfl _ _ 23 rfl w4.heap.size 9 i0 (.string ByteArray.empty) 16 Tryd.underlying23 hi hz0 hz1 hz2 rfl _ k R rfl hownq hrefl hszq A4 1 c4 [.string sx] rfl hr4 (one_str _) (by unfold maxLen; omega) (by omega) ?_
          intro v7 w7 hown7 hbel7
          obtain ⟨A7, c7, rfl, hc7, hm7, hr7⟩ := owns_form hown7
          have hG1 := HG.out
          have hG2 := HG3.out
          have hG3 := HG4.out
          have hU7 := HUq.out.under hbel7 (by omega)
          have hX7 := HXq.out.under hbel7 (by omega)
          have hR7 : RowAt w7 gr l := (hbel7.block gr (by omega)).trans HRq.out
          have hB7 : Below w.heap.size w w7 := HBq.out.trans (hbel7.mono (by omega))
          have hs7 : w4.heap.size ≤ w7.heap.size := Nat.le_trans hszq hbel7.size
          obtain ⟨hcell8, hfro8⟩ := hU7.cell8
          have HOW8 : Hid ((w7.setCell ⟨gu, 8, none⟩ (.slice A7 (k + 1) c7)).ownsRow w4.heap.size 9 1 (.slice A7 (k + 1) c7) (k + 1) ((((l.take (k + 1)).map seg).map strOf).map Value.string)) := by show World.ownsRow _ _ _ _ _ _ _; rw [HR2.out]; exact owns_set hown7 (by omega)
          have HU8 := hid (hU7.path (.slice A7 (k + 1) c7))
          have HX8 := hid (hX7.set (k := gu) (i := 8) (.slice A7 (k + 1) c7) (by omega))
          have HR8 := hid ((heap_setCell_other w7 ⟨gu, 8, none⟩ gr (.slice A7 (k + 1) c7) (show gr ≠ gu by omega)).trans hR7 : RowAt _ gr l)
          have HB8 := hid (hB7.setCell (p := ⟨gu, 8, none⟩) (by show _ ≤ gu; omega) (.slice A7 (k + 1) c7))
          have hs8 : w4.heap.size ≤ (w7.setCell ⟨gu, 8, none⟩ (.slice A7 (k + 1) c7)).heap.size := by simpa using hs7
          clear hown7 hbel7 hr7 hU7 hX7 hR7 hB7 hownq hrefl hszq hG1 hG2 hG3 hm7 hc7 hs7
          go_wp2
          go_roundw
          case rel => exact ⟨k + 1, A7, c7, by omega, by go_num, HOW8, HU8, HX8, HR8, HB8, hs8⟩
          case measure => simp [intOf]; omega
      · obtain rfl : k = n := by omega
        have HE : Hid ((l.take k).map seg = l.map seg) := by show _ = _; rw [List.take_of_length_le (by rw [HN.out]; exact Nat.le_refl _)]
        obtain ⟨d0, d1, d2, d3, d4, d5, d6, d7, d8, d9, d10, d11, d12⟩ := HU.out.facts
        go_wp2_with (refine store_cs HX.out (fcells [] (.slice A k c)) rfl rfl (one_f _ _ _ _) (.tmp 2) (.tmp 28) rfl rfl rfl rfl ?_)
        try simp only [Exit.inBlock, Exit.then]
        have how := HOW.out
        rw [HE.out] at how
        have hG : w.heap.size < w4.heap.size := by have h1 := HG.out; have h2 := HG3.out; have h3 := HG4.out; omega
        exact bodyPost_ret (w := World.setRow wr w.heap.size (fcells [] (.slice A k c))) (res rfl (HX.out.row _) rfl (.int .i64 0) _ rfl rfl) rfl (ansf_some HF.out (below_row HB.out (Nat.le_refl _) _) (owns_base (owns_row how hG _) (by omega)))
end Go.Proofs.YtleecmapaihhmaaDoor.PosU
