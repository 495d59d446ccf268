/- Texts that belong together: PosC, PosU, BldF, PosV, UrlE, UrlF, UrlG, PosW, StkW, StkH, StkI, AnsP, BlobA0. -/
import Derived.Test.YtegpfgccaminkaaGreatDoorUAR
import Derived.Test.YtegpfgccaminkaaGreatDoorUAC
import Derived.Laws.IdiomStrings
import Derived.Test.YtegpfgccaminkaaGreatDoorUAA
import Derived.Shelf.Strings.BuilderF
import Derived.Test.YtegpfgccaminkaaGreatDoorUAM
import Derived.BigQuiet
import Derived.Deep.DeepCutAuto
import Derived.Test.YtegpfgccaminkaaGreatDoorUAJ
import Derived.Test.YtegpfgccaminkaaGreatDoorUAF
import Derived.Test.YtegpfgccaminkaaGreatDoorUAO
import Derived.Test.YtegpfgccaminkaaGreatDoorUAP
import Derived.Lib.SlBytesConst
import Derived.Lib.SliceRun
set_option linter.unusedSimpArgs false
set_option linter.unusedVariables false
namespace Go.Proofs.YtegpfgccaminkaaGreatDoor.PosC
open Go.RowKit Base Base2 Base3 BldA BldK SlsP Sls PosA
open Go.Proofs.YtegpfgccaminkaaGreatDoor.PosS (byteAll seg seg_app seg_len)
def alike (c : UInt8) : Bool := [37, 92, 124].contains c
theorem seg1 (c : UInt8) : (alike c = true → EscE.enc 6 [c] = PosS.one c) ∧ (alike c = false → EscE.enc 4 [c] = PosS.one c) :=
 byteAll (p := fun c => (alike c = true → EscE.enc 6 [c] = PosS.one c) ∧ (alike c = false → EscE.enc 4 [c] = PosS.one c)) (by decide +kernel) c
theorem one_row (c : UInt8) (w : World) : Rds (w.alloc (.cells #[.int .u8 (c.toNat : Int)] 5)) (some ⟨w.heap.size, 0, none⟩) 1 (bcells [c]) := rds_const w [c] 5 (0, 0)
theorem seg_snoc (L : List UInt8) (c : UInt8) : seg (L ++ [c]) = seg L ++ PosS.one c := by rw [seg_app]; congr 1; simp [seg]
theorem one_len (c : UInt8) : (PosS.one c).length ≤ 3 := by unfold PosS.one; split <;> simp
set_option maxRecDepth 100000 in
set_option maxHeartbeats 8000000 in
theorem segment_any (s : ByteArray) (w : World) (hs : s.size ≤ 10000000) :
  Calls Tryz.prog 92 #[.string s] w fun e w' => e = .returned (.string (strOf (seg s.data.toList))) ∧ Below w.heap.size w w' := by
 have hl : s.data.toList.length = s.size := Array.length_toList
 have HL := hid hl
 clear hl
 have HB0 : Hid (IsB w.heap.size w.heap.size [] (w.alloc (.cells #[.pointer none, .slice none 0 0] 213))) := Lib.fresh_isBuilder 213 5 w
 go_enter Tryz.func92, Tryz.ntmps92
 go_wp2
 go_loopw [4, 5] (fun vk _ wr => ∃ k : Nat, k ≤ s.size ∧ vk = .int .i64 (k : Int) ∧ Hid (IsB w.heap.size w.heap.size (seg (s.data.toList.take k)) wr) ∧ Hid (Below w.heap.size w wr)) (fun vk _ _ => s.size - (intOf vk).toNat)
 case atStart => exact ⟨0, Nat.zero_le _, rfl, HB0.out, (Below.refl _ _).alloc (Nat.le_refl _) _⟩
 case round =>
  clear HB0
  obtain ⟨k, hk, rfl, HB, HBL⟩ := hrel
  have hsz : w.heap.size ≤ wr.heap.size := HBL.out.size
  by_cases hlt : k < s.size
  ·obtain ⟨c, hc⟩ : ∃ c, s[k] = c := ⟨_, rfl⟩
   have hkl : k < s.data.toList.length := by rw [HL.out]; exact hlt
   have hcl : s.data.toList[k] = c := hc
   have HS : Hid (seg (s.data.toList.take (k + 1)) = seg (s.data.toList.take k) ++ PosS.one c) := by
    show _ = _
    rw [take_snoc _ k hkl, hcl, seg_snoc]
   have hlen : (seg (s.data.toList.take k)).length ≤ 3 * k := by
    have := seg_len (s.data.toList.take k)
    rw [List.length_take, HL.out] at this
    omega
   obtain ⟨X, hX⟩ : ∃ X, X = seg (s.data.toList.take k) := ⟨_, rfl⟩
   rw [← hX] at HS HB hlen
   obtain ⟨a, ha⟩ : ∃ a, a = alike c := ⟨_, rfl⟩
   have HIX : Hid (∀ w : World, Calls Tryz.prog 147 #[.string ⟨#[37, 92, 124]⟩, .int .u8 (c.toNat : Int)] w fun e w' => ∃ z : Int, e = .returned (.int .i64 z) ∧ decide (0 ≤ z) = a ∧ w' = w) := fun w => by
    refine (Tryz.strings_IndexByte ⟨#[37, 92, 124]⟩ _ w).mono ?_
    rintro e w' ⟨rfl, rfl⟩
    refine ⟨_, rfl, ?_, rfl⟩
    rw [show ((c.toNat : Int).toNat.toUInt8) = c by simp, has1, ha]
    rfl
   have hone := one_len c
   cases a with
   | true =>
    have HEN : Hid (∀ (A : Option Addr) (n cap : Nat) (w : World), Rds w A n (bcells [c]) → n ≤ 1073741824 → Calls Tryz.prog 120 #[.int .i64 6, .slice A n cap] w fun e w' => e = .returned (.string (strOf (PosS.one c))) ∧ Below w.heap.size w w') := fun A n cap w h1 h2 => by rw [← (seg1 c).1 ha.symm]; exact EscE.encode_any 6 A n cap [c] w h1 h2
    clear ha hX hkl hcl
    go_wp2_with fail
    refine (HIX.out _).mono ?_
    rintro e w2 ⟨z, rfl, hz, hw2⟩
    subst hw2
    have hz1 : 0 ≤ z := by simpa using hz
    go_wp2_with fail
    refine (HEN.out _ 1 1 _ (one_row c _) (by omega)).mono ?_
    rintro e w3 ⟨rfl, hb3⟩
    have hbw := ((Below.refl w2.heap.size w2).alloc (Nat.le_refl _) (.cells #[.int .u8 (c.toNat : Int)] 5)).trans (hb3.mono (by simp))
    have HB3 := hid (isB_below HB.out hbw)
    have HBL3 : Hid (Below w.heap.size w w3) := HBL.out.trans (hbw.mono hsz)
    have hsz3 : w.heap.size ≤ w3.heap.size := HBL3.out.size
    clear hbw hb3 hz
    go_wp2_with fail
    refine (write_any _ _ _ _ _ HB3.out (by rw [size_strOf]; omega) hsz3).mono ?_
    rintro e w4 ⟨rfl, hb4, hb5⟩
    have HB4 : Hid (IsB w.heap.size w.heap.size (seg (s.data.toList.take (k + 1))) w4) := by show IsB _ _ _ _; rw [HS.out]; exact hb4
    have HBL4 := hid (HBL3.out.trans hb5)
    clear hb4 hb5 hlen hone
    go_wp2
    go_roundw
    case rel => exact ⟨k + 1, by omega, by go_num, HB4, HBL4⟩
    case measure => simp [intOf]; omega
   | false =>
    have HEN : Hid (∀ (A : Option Addr) (n cap : Nat) (w : World), Rds w A n (bcells [c]) → n ≤ 1073741824 → Calls Tryz.prog 120 #[.int .i64 4, .slice A n cap] w fun e w' => e = .returned (.string (strOf (PosS.one c))) ∧ Below w.heap.size w w') := fun A n cap w h1 h2 => by rw [← (seg1 c).2 ha.symm]; exact EscE.encode_any 4 A n cap [c] w h1 h2
    clear ha hX hkl hcl
    go_wp2_with fail
    refine (HIX.out _).mono ?_
    rintro e w2 ⟨z, rfl, hz, hw2⟩
    subst hw2
    have hz1 : ¬ 0 ≤ z := by simpa using hz
    go_wp2_with fail
    refine (HEN.out _ 1 1 _ (one_row c _) (by omega)).mono ?_
    rintro e w3 ⟨rfl, hb3⟩
    have hbw := ((Below.refl w2.heap.size w2).alloc (Nat.le_refl _) (.cells #[.int .u8 (c.toNat : Int)] 5)).trans (hb3.mono (by simp))
    have HB3 := hid (isB_below HB.out hbw)
    have HBL3 : Hid (Below w.heap.size w w3) := HBL.out.trans (hbw.mono hsz)
    have hsz3 : w.heap.size ≤ w3.heap.size := HBL3.out.size
    clear hbw hb3 hz
    go_wp2_with fail
    refine (write_any _ _ _ _ _ HB3.out (by rw [size_strOf]; omega) hsz3).mono ?_
    rintro e w4 ⟨rfl, hb4, hb5⟩
    have HB4 : Hid (IsB w.heap.size w.heap.size (seg (s.data.toList.take (k + 1))) w4) := by show IsB _ _ _ _; rw [HS.out]; exact hb4
    have HBL4 := hid (HBL3.out.trans hb5)
    clear hb4 hb5 hlen hone
    go_wp2
    go_roundw
    case rel => exact ⟨k + 1, by omega, by go_num, HB4, HBL4⟩
    case measure => simp [intOf]; omega
  ·obtain rfl : k = s.size := by omega
   have HT : Hid (seg (s.data.toList.take s.size) = seg s.data.toList) := by show _ = _; rw [List.take_of_length_le (by rw [HL.out]; exact Nat.le_refl _)]
   go_wp2_with fail
   refine (string_any _ _ _ _ HB.out hsz).mono ?_
   rintro e w3 ⟨rfl, hb3⟩
   have HB3 := hid (HBL.out.trans hb3)
   clear hb3
   go_wp2
   go_ret
   exact ⟨by rw [← HT.out]; first | done | rfl, HB3.out⟩
end Go.Proofs.YtegpfgccaminkaaGreatDoor.PosC
namespace Go.Proofs.YtegpfgccaminkaaGreatDoor.PosU
open Go.RowKit Base Regs Base2 Base3 SlsP PosQ Sls PosA PosB PosC
open Go.Proofs.YtegpfgccaminkaaGreatDoor.PosS (seg)
open Go.Proofs.YtegpfgccaminkaaGreatDoor.Spl (Max)
def fcells (h : List UInt8) (p : Value) : Array Value := #[.string ⟨#[102, 105, 108, 101]⟩, .string ⟨#[]⟩, .string ⟨#[]⟩, .string (strOf h), .bool true, .int .i64 (-1), .bool false, .string ⟨#[]⟩, p, .bool false, .bool false, .string ⟨#[]⟩, .string ⟨#[]⟩]
def zcells : Array Value := #[.string ⟨#[]⟩, .string ⟨#[]⟩, .string ⟨#[]⟩, .string ⟨#[]⟩, .bool false, .int .i64 0, .bool false, .string ⟨#[]⟩, .slice none 0 0, .bool false, .bool false, .string ⟨#[]⟩, .string ⟨#[]⟩]
def Bx (w : World) (g : Nat) (cs : Array Value) : Prop := w.heap[g]? = some (.cells cs 52 (0, 0))
variable {w w' : World} {g : Nat} {cs ds : Array Value}
theorem Bx.lt (h : Bx w g cs) : g < w.heap.size := (Array.getElem?_eq_some_iff.1 h).1
theorem Bx.below (h : Bx w g cs) (hb : Below w.heap.size w w') : Bx w' g cs := (hb.block g h.lt).trans h
theorem Bx.under {B : Nat} (h : Bx w g cs) (hb : Below B w w') (hg : g < B) : Bx w' g cs := (hb.block g hg).trans h
theorem Bx.load (h : Bx w g cs) (hs : cs.size = 13) : (loadVar 52 ⟨g, 0, none⟩).run Tryz.prog w = .ok (.agg cs) w :=
 run_loadVar_row w g _ _ cs (0, 0) _ h Tryz.underlying52 rfl (by rw [hs]; kernel_rfl)
theorem Bx.path {h : List UInt8} {p : Value} (hB : Bx w g (fcells h p)) (q : Value) : Bx (w.setCell ⟨g, 8, none⟩ q) g (fcells h q) := heap_setCell_same w g 8 _ _ _ hB
theorem Bx.set {k i : Nat} (h : Bx w g cs) (x : Value) (hk : g ≠ k) : Bx (w.setCell ⟨k, i, none⟩ x) g cs := (heap_setCell_other w ⟨k, i, none⟩ g x hk).trans h
theorem Bx.cell8 {h : List UInt8} {p : Value} (hB : Bx w g (fcells h p)) : w.cell? ⟨g, 8, none⟩ = some p ∧ w.frozen? ⟨g, 8, none⟩ = false := ⟨cell_of_row w g 8 _ _ _ hB, frozen_of_row w g 8 _ _ hB⟩
theorem Bx.facts {h : List UInt8} {p : Value} (hB : Bx w g (fcells h p)) : w.cell? ⟨g, 0, none⟩ = some (.string ⟨#[102, 105, 108, 101]⟩) ∧ w.cell? ⟨g, 1, none⟩ = some (.string ⟨#[]⟩) ∧ w.cell? ⟨g, 2, none⟩ = some (.string ⟨#[]⟩) ∧ w.cell? ⟨g, 3, none⟩ = some (.string (strOf h)) ∧ w.cell? ⟨g, 4, none⟩ = some (.bool true) ∧ w.cell? ⟨g, 5, none⟩ = some (.int .i64 (-1)) ∧ w.cell? ⟨g, 6, none⟩ = some (.bool false) ∧ w.cell? ⟨g, 7, none⟩ = some (.string ⟨#[]⟩) ∧ w.cell? ⟨g, 8, none⟩ = some (p) ∧ w.cell? ⟨g, 9, none⟩ = some (.bool false) ∧ w.cell? ⟨g, 10, none⟩ = some (.bool false) ∧ w.cell? ⟨g, 11, none⟩ = some (.string ⟨#[]⟩) ∧ w.cell? ⟨g, 12, none⟩ = some (.string ⟨#[]⟩) :=
 ⟨cell_of_row w g 0 _ _ _ hB, cell_of_row w g 1 _ _ _ hB, cell_of_row w g 2 _ _ _ hB, cell_of_row w g 3 _ _ _ hB, cell_of_row w g 4 _ _ _ hB, cell_of_row w g 5 _ _ _ hB, cell_of_row w g 6 _ _ _ hB, cell_of_row w g 7 _ _ _ hB, cell_of_row w g 8 _ _ _ hB, cell_of_row w g 9 _ _ _ hB, cell_of_row w g 10 _ _ _ hB, cell_of_row w g 11 _ _ _ hB, cell_of_row w g 12 _ _ _ hB⟩
theorem Bx.row (h : Bx w g cs) (ds : Array Value) : Bx (w.setRow g ds) g ds := setRow_heap w g cs ds _ (0, 0) h
theorem laid (w : World) (a : Array Value) (T : TypeId) : (w.alloc (.cells a T)).heap[w.heap.size]? = some (.cells a T (0, 0)) ∧ Below w.heap.size w (w.alloc (.cells a T)) :=
 ⟨heap_alloc_new w _, (Below.refl _ _).alloc (Nat.le_refl _) _⟩
theorem store_cs {ops : Array Oper} {rest : List Oper} {o : Oper} {a : Act} {Q : Exit → Act → World → Prop} (hU : Bx w g cs) (ds : Array Value) (hs : cs.size = 13) (hs2 : ds.size = 13) (h1 : ds.all (·.oneCell') = true) (x y : Operand) (ho : o.op = .store 52 x y) (hgd : o.guard = none)
  (hx : a.eval x = .pointer (some ⟨g, 0, none⟩)) (hy : a.eval y = .agg ds)
  (h : wpList Tryz.prog ops Q rest (a.put o.dst undef) (w.setRow g ds)) : wpList Tryz.prog ops Q (o :: rest) a w :=
 wpList_store_row hgd 52 x y ho g ds hx hy 52 cs hU (by rw [hs2]; kernel_rfl) (by rw [hs, hs2]) h1 h
theorem one_f (h : List UInt8) (A : Option Addr) (n c : Nat) : (fcells h (.slice A n c)).all (·.oneCell') = true := by simp [fcells, Value.oneCell']
theorem one_z : zcells.all (·.oneCell') = true := by simp [zcells, Value.oneCell']
theorem res {fn : Func} {a b : Tmp} (h : fn.results = #[.cell a 52, .tmp b]) (hU : Bx w g cs) (hs : cs.size = 13) (v : Value) (tmps : Array Value) (h2 : tmps.getD a undef = .pointer (some ⟨g, 0, none⟩)) (h3 : tmps.getD b undef = v) :
  (results fn tmps).run Tryz.prog w = .ok (.tuple #[.agg cs, v]) w := by
 have hp' : tmps[a]?.getD undef = .pointer (some ⟨g, 0, none⟩) := by simpa using h2
 have hq' : tmps[b]?.getD undef = v := by simpa using h3
 simp [results, h, hp', hq', asAddr, hU.load hs]
theorem below_setRow {B : Nat} {w0 : World} (h : Below B w0 w) (hg : B ≤ g) (ds : Array Value) : Below B w0 (w.setRow g ds) := by
 refine ⟨h.os, h.tape, h.output, ?_, fun k hk => (setRow_other w g k ds (by omega)).trans (h.block k hk)⟩
 simpa [World.setRow] using h.size
theorem below_row {B : Nat} {w0 : World} (h : Below B w0 w) (hg : B ≤ g) (ds : Array Value) : Below B w0 (w.setRow g ds) := below_setRow h hg ds
def AnsF (yes no : Value) (hst : List UInt8) (w : World) (o : Option (List (List UInt8))) (e : Ending) (w' : World) : Prop := Below w.heap.size w w' ∧ match o with
 | none => e = .returned (.tuple #[.agg zcells, no])
 | some l => ∃ A n c, e = .returned (.tuple #[.agg (fcells hst (.slice A n c)), yes]) ∧ w'.ownsRow w.heap.size 9 1 (.slice A n c) n ((l.map strOf).map Value.string)
theorem ansf_none {yes no : Value} {hst : List UInt8} {o : Option (List (List UInt8))} (ho : o = none) (hb : Below w.heap.size w w') : AnsF yes no hst w o (.returned (.tuple #[.agg zcells, no])) w' := by
 subst ho
 exact ⟨hb, rfl⟩
theorem ansf_some {yes no : Value} {hst : List UInt8} {o : Option (List (List UInt8))} {l : List (List UInt8)} (ho : o = some l) (hb : Below w.heap.size w w') {A : Option Addr} {n c : Nat} (hown : w'.ownsRow w.heap.size 9 1 (.slice A n c) n ((l.map strOf).map Value.string)) : AnsF yes no hst w o (.returned (.tuple #[.agg (fcells hst (.slice A n c)), yes])) w' := by
 subst ho
 exact ⟨hb, A, n, c, rfl, hown⟩
theorem owns_set {B n : Nat} {e : TypeId} {v x : Value} {xs : List Value} {i : Nat} (h : w.ownsRow B e 1 v n xs) (hg : g < B) : (w.setCell ⟨g, i, none⟩ x).ownsRow B e 1 v n xs := by
 refine ⟨h.1, ?_⟩
 rcases h.2 with hn | ⟨k, cap, cur, rfl, hb, hh, rest⟩
 ·exact .inl hn
 ·exact .inr ⟨k, cap, cur, rfl, hb, (heap_setCell_other _ _ _ _ (show k ≠ g by omega)).trans hh, rest⟩
theorem owns_row {B n : Nat} {e : TypeId} {v : Value} {xs : List Value} (h : w.ownsRow B e 1 v n xs) (hg : g < B) (ds : Array Value) : (w.setRow g ds).ownsRow B e 1 v n xs := by
 refine ⟨h.1, ?_⟩
 rcases h.2 with hn | ⟨k, cap, cur, rfl, hb, hh, rest⟩
 ·exact .inl hn
 ·exact .inr ⟨k, cap, cur, rfl, hb, (setRow_other _ _ _ _ (show k ≠ g by omega)).trans hh, rest⟩
def RowAt (w : World) (b : Nat) (l : List (List UInt8)) : Prop := w.heap[b]? = some (.cells ((l.map strOf).map Value.string).toArray 9 (0, 0))
theorem RowAt.lt {b : Nat} {l : List (List UInt8)} (h : RowAt w b l) : b < w.heap.size := (Array.getElem?_eq_some_iff.1 h).1
theorem RowAt.cell {b : Nat} {l : List (List UInt8)} (h : RowAt w b l) (k : Nat) (hk : k < l.length) : w.cell? ⟨b, k, none⟩ = some (.string (strOf l[k])) := (cell_of_row w b k _ _ _ h).trans (by simp [hk])
theorem split_row (b : UInt8) (s : ByteArray) (w : World) (hs : s.size ≤ 1073741824) (hM : Max w) : Calls Tryz.prog 91 #[.string s, .string ⟨#[b]⟩] w fun e w' => e = .returned (.slice (some ⟨w.heap.size, 0, none⟩) (spl b s.data.toList).length (spl b s.data.toList).length) ∧ RowAt w' w.heap.size (spl b s.data.toList) ∧ Below w.heap.size w w' := by
 obtain ⟨m, hm⟩ := hM
 refine (Tryz.strings_Split s ⟨#[b]⟩ m w (by omega) hm (Nat.le_refl _)).mono ?_
 rintro e w' ⟨rfl, rfl⟩
 have hd := Lib.splitB_data ⟨#[b]⟩ 0 (Lib.countB s ⟨#[b]⟩) s
 rw [show (⟨#[b]⟩ : ByteArray).data.toList = [b] from rfl, Spl.splitK_gen b (spl b) rfl (spl_at b) (spl_not b) _ _ (by rw [← Lib.count_one]; exact Nat.le_refl _)] at hd
 have hl := Lib.splitB_all ⟨#[b]⟩ (Nat.le_refl _) 0 _ s rfl
 generalize Lib.splitB ⟨#[b]⟩ 0 (Lib.countB s ⟨#[b]⟩) s = B at hd hl ⊢
 have hB : B = (spl b s.data.toList).map strOf := by
  rw [← hd, List.map_map]
  conv => lhs; rw [← List.map_id B]
  exact List.map_congr_left fun x _ => (strOf_toList x).symm
 have hn : Lib.countB s ⟨#[b]⟩ + 1 = (spl b s.data.toList).length := by rw [← hl, hB, List.length_map]
 refine ⟨by rw [hn], ?_, (Below.refl _ _).alloc (Nat.le_refl _) _⟩
 unfold RowAt
 rw [← hB]
 exact heap_alloc_new w _
theorem one_cell (w : World) (x : Value) (T : TypeId) : Rds (w.alloc (.cells #[x] T)) (some ⟨w.heap.size, 0, none⟩) 1 [x] :=
 Rds.of_spot rfl (by simp) (fun j hj => by
  simp at hj
  subst hj
  rw [Nat.zero_add, World.cell?_alloc_mark]
  rfl)
theorem one_str (s : ByteArray) : ∀ u ∈ [Value.string s], u.oneCell' = true := by
 intro u hu
 simp at hu
 subst hu
 rfl
def urlP (L : List UInt8) : Option (List (List UInt8)) := if fine L = true then some ((spl 47 (L.drop 1)).map seg) else none
set_option maxRecDepth 100000 in
set_option maxHeartbeats 8000000 in
theorem url_any (s : ByteArray) (w : World) (hs : s.size ≤ 900000) (hM : Max w) :
  Calls Tryz.prog 57 #[.string s] w (AnsF (.int .i64 0) (.int .i64 2) [] w (urlP s.data.toList)) := by
 have hl : s.data.toList.length = s.size := Array.length_toList
 obtain ⟨b, hb⟩ : ∃ b, b = fine s.data.toList := ⟨_, rfl⟩
 obtain ⟨l, hll⟩ : ∃ l, l = spl 47 (s.data.toList.drop 1) := ⟨_, rfl⟩
 obtain ⟨O, hO⟩ : ∃ O, O = urlP s.data.toList := ⟨_, rfl⟩
 rw [← hO]
 have HO : Hid (O = if b = true then some (l.map seg) else none) := by show _ = _; rw [hO, hb, hll]; rfl
 have hlen2 : l.length ≤ s.size + 1 := by rw [hll]; have := length_spl 47 (s.data.toList.drop 1); rw [List.length_drop, hl] at this; omega
 have hxl : ∀ x ∈ l, x.length ≤ s.size := by
  intro x hx
  rw [hll] at hx
  have := spl_len 47 _ x hx
  rw [List.length_drop, hl] at this
  omega
 have hpos : b = true → 1 ≤ s.size := by
  intro h
  rw [hb, fine_iff] at h
  rw [← hl]
  cases e : s.data.toList with
  | nil => rw [e] at h; exact absurd h.2.1 (by decide)
  | cons a t => simp
 have HFI : Hid (∀ w : World, Max w → Calls Tryz.prog 90 #[.string s] w fun e w' => e = .returned (.bool b) ∧ Below w.heap.size w w') := fun w h => by rw [hb]; exact fine_any s w (by omega) h
 have HSP : Hid (∀ w : World, Max w → Calls Tryz.prog 91 #[.string (s.extract 1 s.size), .string ⟨#[47]⟩] w fun e w' => e = .returned (.slice (some ⟨w.heap.size, 0, none⟩) l.length l.length) ∧ RowAt w' w.heap.size l ∧ Below w.heap.size w w') := fun w h => by rw [hll, ← ext1]; exact split_row 47 _ w (by have := ext1_size s; omega) h
 have HPO := hid hpos
 have HM := hid hM
 have HXL := hid hxl
 obtain ⟨i0, hi, hz0, hz1, hz2⟩ := info_parts info_str
 obtain ⟨n, hn⟩ : ∃ n, n = l.length := ⟨_, rfl⟩
 have HN := hid hn
 rw [← hn] at HSP hlen2
 have hn9 : n ≤ 900001 := by omega
 clear hb hll hO hl hxl hpos hlen2 hM hn
 go_enter Tryz.func57, Tryz.ntmps57
 go_upto_region 1 with (fail)
 generalize hw : World.alloc w _ = w1
 have h1 : Bx w1 w.heap.size (zcells) ∧ Below w.heap.size w w1 := by
  subst hw
  exact laid w _ _
 clear hw
 have HX1 := hid h1.1
 have HB1 := hid h1.2
 clear h1
 go_wp2_with fail
 refine (HFI.out _ (HM.out.below HB1.out)).mono ?_
 rintro e w2 ⟨rfl, hb2⟩
 have HX2 := hid (HX1.out.below hb2)
 have HB2 := hid (bel HB1.out hb2)
 clear HX1 HB1 hb2
 cases b with
 | false =>
  have HF : Hid (O = none) := by show _ = _; rw [HO.out]; rfl
  go_wp2_with (refine store_cs HX2.out zcells rfl rfl one_z (.tmp 2) (.tmp 10) rfl rfl rfl rfl ?_)
  try simp only [Exit.inBlock, Exit.then]
  exact bodyPost_ret (w := World.setRow w2 w.heap.size zcells) (res rfl (HX2.out.row zcells) rfl (.int .i64 2) _ rfl rfl) rfl (ansf_none HF.out (below_row HB2.out (Nat.le_refl _) zcells))
 | true =>
  have HF : Hid (O = some (l.map seg)) := by show _ = _; rw [HO.out]; rfl
  have h0i : (1 : Int) ≤ (s.size : Int) := by have := HPO.out rfl; omega
  go_upto_region 4 with (fail)
  generalize hw : World.alloc w2 _ = w3
  have h1 : Bx w3 w2.heap.size (fcells [] (.slice none 0 0)) ∧ Below w2.heap.size w2 w3 := by
   subst hw
   exact laid w2 _ _
  clear hw
  have HX3 := hid (HX2.out.below h1.2)
  have HU3 := hid h1.1
  have HB3 := hid (bel HB2.out h1.2)
  have HG : Hid (w.heap.size < w2.heap.size) := HX2.out.lt
  have HG3 : Hid (w2.heap.size < w3.heap.size) := HU3.out.lt
  clear h1
  go_wp2_with fail
  refine (HSP.out _ (HM.out.below HB3.out)).mono ?_
  rintro e w4 ⟨rfl, hrow, hb4⟩
  have HX4 := hid (HX3.out.below hb4)
  have HU4 := hid (HU3.out.below hb4)
  have HB4 := hid (bel HB3.out hb4)
  have HR4 := hid hrow
  have HG4 : Hid (w3.heap.size < w4.heap.size) := hrow.lt
  obtain ⟨gu, hgu⟩ : ∃ gu, gu = w2.heap.size := ⟨_, rfl⟩
  obtain ⟨gr, hgr⟩ : ∃ gr, gr = w3.heap.size := ⟨_, rfl⟩
  rw [← hgr] at HG3 HG4 HR4 ⊢
  rw [← hgu] at HG HG3 HU4 ⊢
  clear hrow hb4 HX3 HU3 HB3 HX2 HB2 hgu hgr
  go_wp2
  go_loopw [6, 16] (fun _ vk wr => ∃ (k : Nat) (A : Option Addr) (c : Nat), k ≤ n ∧ vk = .int .i64 (k : Int) ∧ Hid (wr.ownsRow w4.heap.size 9 1 (.slice A k c) k ((((l.take k).map seg).map strOf).map Value.string)) ∧ Hid (Bx wr gu (fcells [] (.slice A k c))) ∧ Hid (Bx wr w.heap.size zcells) ∧ Hid (RowAt wr gr l) ∧ Hid (Below w.heap.size w wr) ∧ w4.heap.size ≤ wr.heap.size) (fun _ vk _ => n - (intOf vk).toNat)
  case atStart => exact ⟨0, none, 0, Nat.zero_le _, rfl, World.ownsRow_nil _ _ _ _, HU4.out, HX4.out, HR4.out, HB4.out, Nat.le_refl _⟩
  case round =>
   clear HU4 HX4 HR4 HB4
   obtain ⟨k, A, c, hk, rfl, HOW, HU, HX, HR, HB, hsz⟩ := hrel
   have HSZ := hid hsz
   by_cases hlt : k < n
   ·obtain ⟨x, hxd⟩ : ∃ x, x = l[k]'(by rw [← HN.out]; exact hlt) := ⟨_, rfl⟩
    have hc := HR.out.cell k (by rw [← HN.out]; exact hlt)
    rw [← hxd] at hc
    have hxs : x.length ≤ 900000 := by rw [hxd]; have := HXL.out _ (List.getElem_mem (l := l) (n := k) (by rw [← HN.out]; exact hlt)); omega
    obtain ⟨sx, hsx⟩ : ∃ sx, sx = strOf (seg x) := ⟨_, rfl⟩
    have HSG : Hid (∀ w : World, Calls Tryz.prog 92 #[.string (strOf x)] w fun e w' => e = .returned (.string sx) ∧ Below w.heap.size w w') := fun w => by rw [hsx]; exact segment_any (strOf x) w (by rw [size_strOf]; omega)
    obtain ⟨R, hRd⟩ : ∃ R, R = (((l.take k).map seg).map strOf).map Value.string := ⟨_, rfl⟩
    rw [← hRd] at HOW
    have HR2 : Hid ((((l.take (k + 1)).map seg).map strOf).map Value.string = R ++ [Value.string sx]) := by
     show _ = _
     rw [take_snoc l k (by rw [← HN.out]; exact hlt), ← hxd, List.map_append, List.map_append, List.map_append, ← hRd, hsx]
     rfl
    clear hxd hxs hsx hRd
    go_upto_region 7 with (fail)
    refine wp_region_rel_tail (by kernel_rfl) 5 [is (.pointer (some ⟨gu, 8, none⟩)), is (.slice A k c), is (.string (strOf x)), is (.string sx), row 1 [.string sx]] [[], [0], [], [2], [2, 3], [0, 1, 2, 3, 4]] (by kernel_rfl) ?_ ?_
    ·refine ⟨?_, ?_, ?_, ?_, ?_, trivial⟩
     ·intro t wq hbq hh K hK
      clear hh
      simp only [filled, filledN, upd, Have, is, any, row, pick, Act.put, List.setIfInBounds_toArray, List.set_cons_zero, List.set_cons_succ, Nat.reduceAdd, Nat.reduceEqDiff, reduceIte] at hK ⊢
      go_simp
      exact hK _ _ (Below.refl _ _) rfl
     ·intro t wq hbq hh K hK
      have e0 := hh.1
      simp only [pick] at e0
      replace e0 : t 0 = (.pointer (some ⟨gu, 8, none⟩)) := e0
      clear hh
      simp only [filled, filledN, upd, Have, is, any, row, pick, Act.put, List.setIfInBounds_toArray, List.set_cons_zero, List.set_cons_succ, Nat.reduceAdd, Nat.reduceEqDiff, reduceIte] at hK ⊢
      simp only [e0] at hK ⊢
      have hc8 := (HU.out.below hbq).cell8.1
      go_simp
      exact hK _ _ (Below.refl _ _) rfl
     ·intro t wq hbq hh K hK
      clear hh
      simp only [filled, filledN, upd, Have, is, any, row, pick, Act.put, List.setIfInBounds_toArray, List.set_cons_zero, List.set_cons_succ, Nat.reduceAdd, Nat.reduceEqDiff, reduceIte] at hK ⊢
      go_simp
      exact hK _ _ (Below.refl _ _) rfl
     ·intro t wq hbq hh K hK
      have e2 := hh.1
      simp only [pick] at e2
      replace e2 : t 2 = (.string (strOf x)) := e2
      clear hh
      simp only [filled, filledN, upd, Have, is, any, row, pick, Act.put, List.setIfInBounds_toArray, List.set_cons_zero, List.set_cons_succ, Nat.reduceAdd, Nat.reduceEqDiff, reduceIte] at hK ⊢
      simp only [e2] at hK ⊢
      go_simp
      refine (HSG.out _).mono ?_
      rintro e w9 ⟨rfl, hb9⟩
      exact hK _ _ hb9 rfl
     ·intro t wq hbq hh K hK
      have e3 := hh.2.1
      simp only [pick] at e3
      replace e3 : t 3 = (.string sx) := e3
      clear hh
      simp only [filled, filledN, upd, Have, is, any, row, pick, Act.put, List.setIfInBounds_toArray, List.set_cons_zero, List.set_cons_succ, Nat.reduceAdd, Nat.reduceEqDiff, reduceIte] at hK ⊢
      simp only [e3] at hK ⊢
      go_simp
      exact hK _ _ ((Below.refl _ _).alloc (Nat.le_refl _) _) ⟨_, _, rfl, Nat.le_refl _, by decide, one_cell _ _ _⟩
    ·intro t wq hbq hh
     have f1 := have_get hh 1 (by decide)
     simp only [pick] at f1
     replace f1 : t 1 = (.slice A k c) := f1
     have f4 := have_get hh 4 (by decide)
     simp only [pick] at f4
     clear hh
     simp only [filled, filledN, upd, Have, is, any, row, pick, Act.put, List.setIfInBounds_toArray, List.set_cons_zero, List.set_cons_succ, Nat.reduceAdd, Nat.reduceEqDiff, reduceIte]
     obtain ⟨A4, c4, f4, hc4, hm4, hr4⟩ := f4
     simp only [f1, f4]
     have hownq := owns_below HOW.out hbq
     have HUq := hid (HU.out.below hbq)
     have HXq := hid (HX.out.below hbq)
     have HRq := hid ((hbq.block gr HR.out.lt).trans HR.out : RowAt wq gr l)
     have HBq := hid (bel HB.out hbq)
     have hszq : w4.heap.size ≤ wq.heap.size := Nat.le_trans hsz hbq.size
     have hrefl : Below w4.heap.size wq wq := Below.refl _ _
     refine wpList_app_any rfl _ _ 50 rfl w4.heap.size 9 i0 (.string ByteArray.empty) 16 Tryz.underlying50 hi hz0 hz1 hz2 rfl _ k R rfl hownq hrefl hszq A4 1 c4 [.string sx] rfl hr4 (one_str _) (by unfold maxLen; omega) (by omega) ?_
     intro v7 w7 hown7 hbel7
     obtain ⟨A7, c7, rfl, hc7, hm7, hr7⟩ := owns_form hown7
     have hG1 := HG.out
     have hG2 := HG3.out
     have hG3 := HG4.out
     have hU7 := HUq.out.under hbel7 (by omega)
     have hX7 := HXq.out.under hbel7 (by omega)
     have hR7 : RowAt w7 gr l := (hbel7.block gr (by omega)).trans HRq.out
     have hB7 : Below w.heap.size w w7 := HBq.out.trans (hbel7.mono (by omega))
     have hs7 : w4.heap.size ≤ w7.heap.size := Nat.le_trans hszq hbel7.size
     obtain ⟨hcell8, hfro8⟩ := hU7.cell8
     have HOW8 : Hid ((w7.setCell ⟨gu, 8, none⟩ (.slice A7 (k + 1) c7)).ownsRow w4.heap.size 9 1 (.slice A7 (k + 1) c7) (k + 1) ((((l.take (k + 1)).map seg).map strOf).map Value.string)) := by show World.ownsRow _ _ _ _ _ _ _; rw [HR2.out]; exact owns_set hown7 (by omega)
     have HU8 := hid (hU7.path (.slice A7 (k + 1) c7))
     have HX8 := hid (hX7.set (k := gu) (i := 8) (.slice A7 (k + 1) c7) (by omega))
     have HR8 := hid ((heap_setCell_other w7 ⟨gu, 8, none⟩ gr (.slice A7 (k + 1) c7) (show gr ≠ gu by omega)).trans hR7 : RowAt _ gr l)
     have HB8 := hid (hB7.setCell (p := ⟨gu, 8, none⟩) (by show _ ≤ gu; omega) (.slice A7 (k + 1) c7))
     have hs8 : w4.heap.size ≤ (w7.setCell ⟨gu, 8, none⟩ (.slice A7 (k + 1) c7)).heap.size := by simpa using hs7
     clear hown7 hbel7 hr7 hU7 hX7 hR7 hB7 hownq hrefl hszq hG1 hG2 hG3 hm7 hc7 hs7
     go_wp2
     go_roundw
     case rel => exact ⟨k + 1, A7, c7, by omega, by go_num, HOW8, HU8, HX8, HR8, HB8, hs8⟩
     case measure => simp [intOf]; omega
   ·obtain rfl : k = n := by omega
    have HE : Hid ((l.take k).map seg = l.map seg) := by show _ = _; rw [List.take_of_length_le (by rw [HN.out]; exact Nat.le_refl _)]
    obtain ⟨d0, d1, d2, d3, d4, d5, d6, d7, d8, d9, d10, d11, d12⟩ := HU.out.facts
    go_wp2_with (refine store_cs HX.out (fcells [] (.slice A k c)) rfl rfl (one_f _ _ _ _) (.tmp 2) (.tmp 28) rfl rfl rfl rfl ?_)
    try simp only [Exit.inBlock, Exit.then]
    have how := HOW.out
    rw [HE.out] at how
    have hG : w.heap.size < w4.heap.size := by have h1 := HG.out; have h2 := HG3.out; have h3 := HG4.out; omega
    exact bodyPost_ret (w := World.setRow wr w.heap.size (fcells [] (.slice A k c))) (res rfl (HX.out.row _) rfl (.int .i64 0) _ rfl rfl) rfl (ansf_some HF.out (below_row HB.out (Nat.le_refl _) _) (owns_base (owns_row how hG _) (by omega)))
end Go.Proofs.YtegpfgccaminkaaGreatDoor.PosU
namespace Go.Proofs.YtegpfgccaminkaaGreatDoor.PosW
open Go.RowKit Base Base2 SlsP PosQ PosU
open Go.Proofs.YtegpfgccaminkaaGreatDoor.PosS (seg)
open Go.Proofs.YtegpfgccaminkaaGreatDoor.Spl (Max)
structure Pt (w : World) (l : List (List UInt8)) (A : Option Addr) (n c : Nat) : Prop where
 rds : Rds w A n ((l.map strOf).map Value.string)
 nc : n ≤ c
 cm : c ≤ maxLen
theorem Pt.of {w : World} {l : List (List UInt8)} {B n : Nat} {A : Option Addr} {c : Nat} (h : w.ownsRow B 9 1 (.slice A n c) n ((l.map strOf).map Value.string)) : Pt w l A n c := by
 obtain ⟨A', c', e, h1, h2, h3⟩ := owns_form h
 cases e
 exact ⟨h3, h1, h2⟩
structure Env (w : World) : Prop where
 pow : Tab.Pow w
 max : Max w
theorem Env.below {w w' : World} (h : Env w) (hb : Below w.heap.size w w') : Env w' := ⟨Tab.Pow.below h.pow hb, h.max.below hb⟩
def printF (h : List UInt8) (l : List (List UInt8)) : List UInt8 := UrlP.printL ⟨#[102, 105, 108, 101]⟩ ⟨#[]⟩ ⟨#[]⟩ (strOf h) true (-1) false ⟨#[]⟩ (l.map strOf) false false ⟨#[]⟩ ⟨#[]⟩
theorem print_f (h : List UInt8) (hh : h.length ≤ 1000000) (l : List (List UInt8)) (A : Option Addr) (n c : Nat) (w : World) (hP : Pt w l A n c) (hl : (UrlP.pth (l.map strOf)).length ≤ 1073741824) (E : Env w) : Calls Tryz.prog 59 #[.agg #[.string ⟨#[102, 105, 108, 101]⟩, .string ⟨#[]⟩, .string ⟨#[]⟩, .string (strOf h), .bool true, .int .i64 (-1), .bool false, .string ⟨#[]⟩, .slice A n c, .bool false, .bool false, .string ⟨#[]⟩, .string ⟨#[]⟩]] w fun e w' => e = .returned (.string (strOf (printF h l))) ∧ Below w.heap.size w w' :=
 UrlC.print_any ⟨#[102, 105, 108, 101]⟩ ⟨#[]⟩ ⟨#[]⟩ (strOf h) true (-1) false ⟨#[]⟩ A n c (l.map strOf) false false ⟨#[]⟩ ⟨#[]⟩ w hP.rds hP.nc hP.cm (by decide) (by decide) (by decide) (by rw [size_strOf]; omega) (by decide) (by decide) (by decide) (by decide) (by decide) hl E.pow
end Go.Proofs.YtegpfgccaminkaaGreatDoor.PosW
namespace Go.Proofs.YtegpfgccaminkaaGreatDoor.StkW
open Go.RowKit Base Base2 PosU PosW LdA StkG StkA StkB
set_option linter.unusedSimpArgs false
set_option linter.unusedVariables false
set_option maxRecDepth 100000 in
set_option maxHeartbeats 4000000 in
theorem toUrlP (T : ByteArray) (l : List (List UInt8)) (ho : urlP T.data.toList = some l) (hs : T.size ≤ 900000) (hl : (UrlP.pth (l.map strOf)).length ≤ 1073741824) (w : World) (E : Env w) : Calls Tryz.prog 30 #[.int .i64 0, .string T] w fun e w' => e = .returned (.tuple #[.string (strOf (printF [] l)), .int .i64 0]) ∧ Below w.heap.size w w' := by
 have HE := hid E
 clear E
 go_enter Tryz.func30, Tryz.ntmps30
 go_upto_region 2 with (fail)
 generalize hwa : World.alloc w _ = v1
 have h1_ : Bx v1 w.heap.size zcells ∧ Below w.heap.size w v1 := by
  subst hwa
  exact laid w _ _
 clear hwa
 have XU1 := hid h1_.1
 have HB1 := hid h1_.2
 clear h1_
 go_wp2_with fail
 refine (url_any T _ hs (HE.out.below HB1.out).max).mono ?_
 intro e v2 hx
 rw [ho] at hx
 obtain ⟨hb2, A, n, c, rfl, hown⟩ := hx
 have XU2 := hid (XU1.out.below hb2)
 have HO2 := hid hown
 have HB2 := hid (bel HB1.out hb2)
 have HLT : Hid (w.heap.size < v1.heap.size) := XU1.out.lt
 clear XU1 HB1 hown hb2
 rw [show Value.agg (fcells [] (.slice A n c)) = .agg #[.string ⟨#[102, 105, 108, 101]⟩, .string ⟨#[]⟩, .string ⟨#[]⟩, .string (strOf []), .bool true, .int .i64 (-1), .bool false, .string ⟨#[]⟩, .slice A n c, .bool false, .bool false, .string ⟨#[]⟩, .string ⟨#[]⟩] from rfl]
 go_upto_region 7 with (refine store_cs XU2.out (fcells [] (.slice A n c)) rfl rfl (one_f _ _ _ _) (.tmp 6) (.tmp 15) rfl rfl rfl rfl ?_)
 have hx := XU2.out.row (fcells [] (.slice A n c))
 have hb := below_setRow HB2.out (Nat.le_refl _) (fcells [] (.slice A n c))
 have hp : Pt (World.setRow v2 w.heap.size (fcells [] (.slice A n c))) l A n c := Pt.of (owns_row HO2.out HLT.out _)
 generalize World.setRow v2 _ _ = v3 at hx hb hp ⊢
 have XU3 := hid hx
 have HB3 := hid hb
 have HP3 := hid hp
 have HLD := hid (hx.load rfl)
 clear hx hb hp XU2 HO2 HB2
 go_wp2_with (refine load_as HLD.out (.tmp 6) rfl rfl rfl ?_)
 refine (print_f [] (by decide) l A n c _ HP3.out hl (HE.out.below HB3.out)).mono ?_
 rintro e v4 ⟨rfl, hb4⟩
 have HB4 := hid (bel HB3.out hb4)
 clear hb4 XU3 HP3 HB3 HLD
 go_wp2
 go_ret2
 exact ⟨rfl, HB4.out⟩
end Go.Proofs.YtegpfgccaminkaaGreatDoor.StkW
namespace Go.Proofs.YtegpfgccaminkaaGreatDoor.StkH
open Go.RowKit Base Base2 Regs OrgA OrgP Ubx PrsP PrsC PrsG PrsR HstC Spl LdA StoG StoR OpqD IdnA BlobK FetA FetB FetC StkG StkA StkB StkC StkF SpnP SpnB
set_option linter.unusedSimpArgs false
set_option linter.unusedVariables false
theorem fine_blank : Fine [97, 98, 111, 117, 116] [98, 108, 97, 110, 107] where
 sch := by decide +kernel
 let0 := by decide +kernel
 low := by decide +kernel
 fs := by decide +kernel
 no58 := by decide
 file := by decide
 spc := by decide +kernel
 r := by decide +kernel
 r0 := by decide
 r47 := rfl
theorem fine_x : Fine BLOB [110, 117, 108, 108, 47, 120] where
 sch := by decide +kernel
 let0 := by decide +kernel
 low := by decide +kernel
 fs := by decide +kernel
 no58 := by decide
 file := by decide
 spc := by decide +kernel
 r := by decide +kernel
 r0 := by decide
 r47 := rfl
theorem sf_blank (pv : Option Addr) (sp : Value) (s h : ByteArray) (p n : Int) (w : World) (E : EnvO w) : Calls Tryz.prog 21 #[.pointer pv, .string ⟨#[97, 98, 111, 117, 116, 58, 98, 108, 97, 110, 107]⟩, .agg #[.string s, .string h, .int .i64 p, .int .i64 n], sp] w fun e w' => e = .returned (.agg #[.int .i64 3, .int .i64 200, .int .i64 0, .int .i64 0, .string ⟨#[116, 101, 120, 116, 47, 104, 116, 109, 108, 59, 99, 104, 97, 114, 115, 101, 116, 61, 117, 116, 102, 45, 56]⟩, .slice none 0 0]) ∧ Below w.heap.size w w' := by
 have hT : (⟨#[97, 98, 111, 117, 116, 58, 98, 108, 97, 110, 107]⟩ : ByteArray) = strOf ([97, 98, 111, 117, 116] ++ 58 :: [98, 108, 97, 110, 107]) := rfl
 rw [hT]
 refine (sfetch pv sp _ s h p n (fun cs _ => cs = #[.int .i64 3, .int .i64 200, .int .i64 0, .int .i64 0, .string ⟨#[116, 101, 120, 116, 47, 104, 116, 109, 108, 59, 99, 104, 97, 114, 115, 101, 116, 61, 117, 116, 102, 45, 56]⟩, .slice none 0 0]) (fun _ _ _ _ h _ _ => h) (hid fun w1 hb1 _ => (fetch_blank _ sp _ (opU [97, 98, 111, 117, 116] [98, 108, 97, 110, 107]) s h p n w1 (hid fun w2 hb2 => parse_c (parse_p fine_blank (by decide) w2 (E.below (bel hb1 hb2)))) (by decide +kernel)).mono fun e w2 ⟨h1, h2⟩ => ⟨_, h1, rfl, by simp [Value.oneCell'], h2, rfl⟩)).mono ?_
 rintro e w' ⟨cs, rfl, _, hb, rfl⟩
 exact ⟨rfl, hb⟩
theorem sf_nil (sp : Value) (s h : ByteArray) (p n : Int) (w : World) (E : EnvO w) : Calls Tryz.prog 21 #[.pointer none, .string ⟨#[98, 108, 111, 98, 58, 110, 117, 108, 108, 47, 120]⟩, .agg #[.string s, .string h, .int .i64 p, .int .i64 n], sp] w fun e w' => e = .returned (.agg #[.int .i64 1, .int .i64 0, .int .i64 0, .int .i64 0, .string ⟨#[]⟩, .slice none 0 0]) ∧ Below w.heap.size w w' := by
 have hT : (⟨#[98, 108, 111, 98, 58, 110, 117, 108, 108, 47, 120]⟩ : ByteArray) = strOf (BLOB ++ 58 :: [110, 117, 108, 108, 47, 120]) := rfl
 rw [hT]
 refine (sfetch none sp _ s h p n (fun cs _ => cs = #[.int .i64 1, .int .i64 0, .int .i64 0, .int .i64 0, .string ⟨#[]⟩, .slice none 0 0]) (fun _ _ _ _ h _ _ => h) (hid fun w1 hb1 _ => (fetch_none _ sp _ (opU BLOB [110, 117, 108, 108, 47, 120]) s h p n w1 (hid fun w2 hb2 => parse_c (parse_p fine_x (by decide) w2 (E.below (bel hb1 hb2)))) (by decide +kernel) (hid fun A n' c w2 hb2 hp => find_stk none _ rfl s h p n none false w2 (hid fun w3 hb3 => blob_nil _ s h p n w3))).mono fun e w2 ⟨h1, h2⟩ => ⟨_, h1, rfl, by simp [Value.oneCell'], h2, rfl⟩)).mono ?_
 rintro e w' ⟨cs, rfl, _, hb, rfl⟩
 exact ⟨rfl, hb⟩
def opB (f : Nat → UInt8) (b : Bool) (G : List UInt8) : U := { opU BLOB (nameR f) with hf := b, frg := G }
theorem bare_n (f : Nat → UInt8) (b : Bool) (G : List UInt8) (hG : G.length ≤ 1000000) (A : Option Addr) (n c : Nat) (w : World) (hP : PthIs w (opB f b G) A n c) (E : EnvO w) : Calls Tryz.prog 75 #[.agg (cells (opB f b G) (.slice A n c))] w fun e w' => e = .returned (.string (strOf (nameT f))) ∧ Below w.heap.size w w' :=
 bare_o (S := BLOB) (R := nameR f) (by decide) (by have := nameT_len f; unfold nameT at this; simp only [List.length_append, List.length_cons] at this; omega) hG A n c w hP E.pow
theorem par_n (f : Nat → UInt8) (w : World) (E : EnvO w) : Hid (∀ w', Below w.heap.size w w' → Calls Tryz.prog 45 #[.string (strOf (nameT f)), .pointer none] w' fun e w'' => ∃ A n' c, e = .returned (.tuple #[.agg (cells (opB f false []) (.slice A n' c)), .int .i64 0]) ∧ PthIs w'' (opB f false []) A n' c ∧ Below w'.heap.size w' w'') :=
 hid fun w' hb => parse_c (parse_p (fine_name f) (by have := nameT_len f; unfold nameT at this; omega) w' (E.below hb))
theorem par_f (f : Nat → UInt8) (F : List UInt8) (hF : F.all fineC = true) (hl : F.length ≤ 1000) (w : World) (E : EnvO w) : Hid (∀ w', Below w.heap.size w w' → Calls Tryz.prog 45 #[.string (strOf (nameT f ++ 35 :: F)), .pointer none] w' fun e w'' => ∃ A n' c, e = .returned (.tuple #[.agg (cells (opB f true (EscE.enc 1 F)) (.slice A n' c)), .int .i64 0]) ∧ PthIs w'' (opB f true (EscE.enc 1 F)) A n' c ∧ Below w'.heap.size w' w'') :=
 hid fun w' hb => parse_c (parse_f (fine_name f) hF (by have := nameT_len f; unfold nameT at this; simp only [List.length_append, List.length_cons] at this ⊢; omega) w' (E.below hb))
theorem sort_n (f : Nat → UInt8) (b : Bool) (G : List UInt8) : SrtA.sortOf (opB f b G) = 1 := by
 unfold SrtA.sortOf
 have e : (opB f b G).sch = [98, 108, 111, 98] := rfl
 rw [e, if_neg (by decide), if_pos rfl]
theorem sf_gone (B gs gt gu gm : Nat) (m : SM) (T0 : List UInt8) (f : Nat → UInt8) (b : Bool) (G : List UInt8) (hG : G.length ≤ 1000000) (sp : Value) (s h : ByteArray) (p n : Int) (w : World) (hK : IsK B gs gt gu gm m w) (E : EnvO w) (HP : Hid (∀ w', Below w.heap.size w w' → Calls Tryz.prog 45 #[.string (strOf T0), .pointer none] w' fun e w'' => ∃ A n' c, e = .returned (.tuple #[.agg (cells (opB f b G) (.slice A n' c)), .int .i64 0]) ∧ PthIs w'' (opB f b G) A n' c ∧ Below w'.heap.size w' w'')) (hh : StoD.hasO m.urls (strOf (nameT f)) s h p n = false) :
  Calls Tryz.prog 21 #[.pointer (some ⟨gs, 0, none⟩), .string (strOf T0), .agg #[.string s, .string h, .int .i64 p, .int .i64 n], sp] w fun e w' => e = .returned (.agg #[.int .i64 1, .int .i64 0, .int .i64 0, .int .i64 0, .string ⟨#[]⟩, .slice none 0 0]) ∧ Below w.heap.size w w' := by
 refine (sfetch (some ⟨gs, 0, none⟩) sp _ s h p n (fun cs _ => cs = #[.int .i64 1, .int .i64 0, .int .i64 0, .int .i64 0, .string ⟨#[]⟩, .slice none 0 0]) (fun _ _ _ _ h _ _ => h) (hid fun w1 hb1 _ => (fetch_none _ sp _ (opB f b G) s h p n w1 (hid fun w2 hb2 => HP.out w2 (bel hb1 hb2)) (sort_n f b G) (hid fun A n' c w2 hb2 hp => find_stk _ _ rfl s h p n none false w2 (hid fun w3 hb3 => blob_any B gs gt gu gm m _ s h p n none false w3 (hK.below (bel (bel hb1 hb2) hb3)) rfl (hid fun w4 hb4 => find_no B gu m.ucap m.urls _ (strOf (nameT f)) s h p n w4 ((hK.below (bel (bel hb1 hb2) (bel hb3 hb4))).sto) (Nat.le_trans hK.fit.un hK.fit.u64) rfl hh (hid fun w5 hb5 => bare_n f b G hG A n' c w5 (PthIs.below hp (bel (bel hb3 hb4) hb5)) (E.below (bel (bel (bel hb1 hb2) (bel hb3 hb4)) hb5))))))).mono fun e w2 ⟨h1, h2⟩ => ⟨_, h1, rfl, by simp [Value.oneCell'], h2, rfl⟩)).mono ?_
 rintro e w' ⟨cs, rfl, _, hb, rfl⟩
 exact ⟨rfl, hb⟩
def AnsB (B : Nat) (st fi ttl : Int) (K L : List UInt8) (cs : Array Value) (w : World) : Prop := ∃ A n' c, cs = #[.int .i64 1, .int .i64 st, .int .i64 fi, .int .i64 ttl, .string (strOf K), .slice A n' c] ∧ w.ownsRow B 5 1 (.slice A n' c) n' (bcells L)
theorem ansb_row {B B' g : Nat} {st fi ttl : Int} {K L : List UInt8} {cs ds : Array Value} {w : World} (h : AnsB B st fi ttl K L cs w) (hg : g < B) : AnsB B st fi ttl K L cs (w.setRow g ds) := by
 obtain ⟨A, n', c, h1, h2⟩ := h
 exact ⟨A, n', c, h1, own_setRow h2 hg ds⟩
theorem sf_some (B gs gt gu gm : Nat) (m : SM) (T0 : List UInt8) (f : Nat → UInt8) (b : Bool) (G : List UInt8) (hG : G.length ≤ 1000000) (sp : Value) (s h : ByteArray) (p n : Int) (k : Nat) (w : World) (hK : IsK B gs gt gu gm m w) (E : EnvO w) (HP : Hid (∀ w', Below w.heap.size w w' → Calls Tryz.prog 45 #[.string (strOf T0), .pointer none] w' fun e w'' => ∃ A n' c, e = .returned (.tuple #[.agg (cells (opB f b G) (.slice A n' c)), .int .i64 0]) ∧ PthIs w'' (opB f b G) A n' c ∧ Below w'.heap.size w' w'')) (hk : k < m.urls.length) (hi : StoG.idx m.urls (strOf (nameT f)) = some k) (hh : StoD.hasO m.urls (strOf (nameT f)) s h p n = true)
  (st fi ttl : Int) (K L : List UInt8) (HO : Hid (∀ w', Below w.heap.size w w' → w.heap.size + 2 ≤ w'.heap.size → Calls Tryz.prog 53 #[.agg #[.int .i64 1, .int .i64 0, .int .i64 0, .int .i64 0, .string ⟨#[]⟩, .slice none 0 0], .pointer (some ⟨m.urls[k].x, 0, none⟩), sp] w' fun e w'' => ∃ cs, e = .returned (.agg cs) ∧ Below w'.heap.size w' w'' ∧ AnsB w'.heap.size st fi ttl K L cs w'')) :
  Calls Tryz.prog 21 #[.pointer (some ⟨gs, 0, none⟩), .string (strOf T0), .agg #[.string s, .string h, .int .i64 p, .int .i64 n], sp] w fun e w' => ∃ cs, e = .returned (.agg cs) ∧ Below w.heap.size w w' ∧ AnsB w.heap.size st fi ttl K L cs w' := by
 refine (sfetch (some ⟨gs, 0, none⟩) sp _ s h p n (fun cs a => AnsB (w.heap.size + 2) st fi ttl K L cs a) (fun _ _ g _ h _ hg => ansb_row (B' := 0) h hg) (hid fun w1 hb1 hs1 => (fetch_some _ sp _ (opB f b G) s h p n w1 (hid fun w2 hb2 => HP.out w2 (bel hb1 hb2)) (sort_n f b G) (some ⟨m.urls[k].x, 0, none⟩) (fun st' fi' ttl' A n' c K' a => AnsB (w1.heap.size + 2) st fi ttl K L #[.int .i64 1, .int .i64 st', .int .i64 fi', .int .i64 ttl', .string K', .slice A n' c] a) (fun _ _ _ _ _ _ _ _ g _ h hg _ => ansb_row (B' := 0) h hg)
   (hid fun A n' c w2 hb2 hp => find_stk _ _ rfl s h p n _ true w2 (hid fun w3 hb3 => blob_any B gs gt gu gm m _ s h p n _ true w3 (hK.below (bel (bel hb1 hb2) hb3)) rfl (hid fun w4 hb4 => find_yes B gu m.ucap m.urls _ (strOf (nameT f)) s h p n w4 ((hK.below (bel (bel hb1 hb2) (bel hb3 hb4))).sto) (Nat.le_trans hK.fit.un hK.fit.u64) rfl k hk hi hh (hid fun w5 hb5 => bare_n f b G hG A n' c w5 (PthIs.below hp (bel (bel hb3 hb4) hb5)) (E.below (bel (bel (bel hb1 hb2) (bel hb3 hb4)) hb5))))))
   (hid fun w2 hb2 hs2 => (HO.out w2 (bel hb1 hb2) (Nat.le_trans (Nat.add_le_add_right hb1.size 2) hs2)).mono fun e w3 ⟨cs, h1, h2, A, n', c, h3, h4⟩ => ⟨st, fi, ttl, A, n', c, strOf K, by rw [h1, h3], h2, A, n', c, rfl, owns_base h4 hs2⟩)).mono fun e w2 ⟨st', fi', ttl', A, n', c, K', h1, h2, h3⟩ => ⟨_, h1, rfl, by simp [Value.oneCell'], h2, ?_⟩)).mono ?_
 ·obtain ⟨A2, n2, c2, h5, h6⟩ := h3
  exact ⟨A2, n2, c2, h5, owns_base h6 (Nat.add_le_add_right hb1.size 2)⟩
 ·rintro e w' ⟨cs, rfl, _, hb, A, n', c, h1, h2⟩
  exact ⟨cs, rfl, hb, A, n', c, h1, owns_base h2 (Nat.le_add_right _ 2)⟩
theorem sf_whole (B gs gt gu gm : Nat) (m : SM) (T0 : List UInt8) (f : Nat → UInt8) (b : Bool) (G : List UInt8) (hG : G.length ≤ 1000000) (s h : ByteArray) (p n : Int) (k : Nat) (w : World) (hK : IsK B gs gt gu gm m w) (E : EnvO w) (HP : Hid (∀ w', Below w.heap.size w w' → Calls Tryz.prog 45 #[.string (strOf T0), .pointer none] w' fun e w'' => ∃ A n' c, e = .returned (.tuple #[.agg (cells (opB f b G) (.slice A n' c)), .int .i64 0]) ∧ PthIs w'' (opB f b G) A n' c ∧ Below w'.heap.size w' w'')) (hk : k < m.urls.length) (hi : StoG.idx m.urls (strOf (nameT f)) = some k) (hh : StoD.hasO m.urls (strOf (nameT f)) s h p n = true) (hn : (m.bl m.urls[k].x).1.length ≤ 100000000) :
  Calls Tryz.prog 21 #[.pointer (some ⟨gs, 0, none⟩), .string (strOf T0), .agg #[.string s, .string h, .int .i64 p, .int .i64 n], .pointer none] w fun e w' => ∃ cs, e = .returned (.agg cs) ∧ Below w.heap.size w w' ∧ AnsB w.heap.size 200 0 ((m.bl m.urls[k].x).1.length : Int) (m.bl m.urls[k].x).2 (m.bl m.urls[k].x).1 cs w' :=
 sf_some B gs gt gu gm m T0 f b G hG (.pointer none) s h p n k w hK E HP hk hi hh 200 0 _ _ _ (hid fun w1 hb1 hs1 => (whole_any 1 _ _ _ _ w1 ((hK.below hb1).blo m.urls[k].x (.inr ⟨_, List.getElem_mem hk, rfl⟩)).at hn).mono fun e w2 ⟨A, c, h1, h2, h3⟩ => ⟨_, h1, h3, A, _, c, rfl, h2⟩)
set_option maxRecDepth 100000 in
set_option maxHeartbeats 4000000 in
theorem awake27 (w : World) (E : PosW.Env w) : Calls Tryz.prog 9 #[] w fun e w' => e = .returned (.bool true) ∧ Below w.heap.size w w' := by
 have HE := hid E
 clear E
 have HTE : Hid (strOf (PosW.printF [] [[97]]) = ⟨#[102, 105, 108, 101, 58, 47, 47, 47, 97]⟩) := by show _ = _; decide +kernel
 have kc := fun (w : World) (C : Array Value) (n c : Nat) => Lib.run_convert_bytes_const (P := Tryz.prog) w 39 5 C n c Tryz.underlying39 Tryz.underlying5
 go_enter Tryz.func9, Tryz.ntmps9
 go_wp2_with fail
 refine (new_ok 1 1 5 (by decide) (by decide) (by decide) (by decide) (by decide) _).mono ?_
 rintro e w1 ⟨gs, gt, gu, gm, rfl, hK, hb⟩
 have HK1 := hid hK
 have HB1 := hid hb
 clear hK hb
 go_wp2_with fail
 have hb := (Below.refl w1.heap.size w1).alloc (Nat.le_refl _) (.cells (bcells [97, 98, 99]).toArray 5 (3, 4))
 have hr := rds_const w1 [97, 98, 99] 5 (3, 4)
 have HK2 := hid (HK1.out.below hb)
 have HB2 := hid (bel HB1.out hb)
 clear hb
 refine (create_ok w.heap.size gs gt gu gm (nil0 5 1 1) _ 3 3 [97, 98, 99] ⟨#[]⟩ _ HK2.out hr (by decide) (by decide) (by decide) (by decide) (by decide)).mono ?_
 rintro e w3 ⟨g, rfl, _, hK, hb, _⟩
 have HTOT : Hid (total (more (nil0 5 1 1) g [97, 98, 99] (BlobA.kd (⟨#[]⟩ : ByteArray).data.toList)) = 3) := by show _ = _; rw [total_more]; rfl; rintro (⟨q, hq, _⟩ | ⟨q, hq, _⟩) <;> cases hq
 have HK3 := hid hK
 have HB3 : Hid (Below w.heap.size w w3) := HB2.out.trans hb
 clear hK hb hr HK1 HB1 HK2 HB2 kc
 rw [show (((nil0 5 1 1).last : Nat) : Int) + 1 = 1 from rfl]
 go_wp2_with fail
 refine (StkW.toUrlP ⟨#[47, 97]⟩ [[97]] (by decide +kernel) (by decide) (by decide +kernel) _ (HE.out.below HB3.out)).mono ?_
 rw [HTE.out]
 rintro e w4 ⟨rfl, hb4⟩
 have HK4 := hid (HK3.out.below hb4)
 have HB4 := hid (bel HB3.out hb4)
 clear hb4 HK3 HB3
 go_wp2_with fail
 refine (bytes_any _ gs gt gu gm _ _ HK4.out).mono ?_
 rw [HTOT.out]
 rintro e w5 ⟨rfl, hb5⟩
 have HB5 := hid (bel HB4.out hb5)
 clear hb5 HK4 HB4
 go_wp2
 go_ret
 exact ⟨rfl, HB5.out⟩
end Go.Proofs.YtegpfgccaminkaaGreatDoor.StkH
namespace Go.Proofs.YtegpfgccaminkaaGreatDoor.StkI
open Go.RowKit Base Base2 Regs UtfL BlobA BlobK OrgA OrgP Ubx PrsP PrsC PrsG HstC Spl LdA OpqD IdnA StoG StoR FetB StkG StkA StkB StkC StkF StkH
open Go.Proofs.YtegpfgccaminkaaGreatDoor.StoB (ob_load arr_load)
set_option linter.unusedSimpArgs false
set_option linter.unusedVariables false
theorem owns_ks {w w' : World} (h : Ks w w') {B n : Nat} {v : Value} {xs : List Value} (ho : w.ownsRow B 5 1 v n xs) : w'.ownsRow B 5 1 v n xs := by
 refine ⟨ho.1, ?_⟩
 rcases ho.2 with h' | ⟨b, cap, cur, rfl, hB, hb, r⟩
 ·exact .inl h'
 ·exact .inr ⟨b, cap, cur, rfl, hB, h _ _ _ _ hb (by decide) (by decide) (by decide) (by decide), r⟩
theorem idx_one (e : Ent Nat) : StoG.idx [e] e.url = some 0 := by simp [StoG.idx]
theorem has_one (e : Ent Nat) : StoD.hasO [e] e.url e.s e.h e.p e.n = true := by
 unfold StoD.hasO
 rw [idx_one]
 simp [sameO_refl]
theorem own_form {w : World} {B n : Nat} {A : Option Addr} {c : Nat} {xs : List Value} (h : w.ownsRow B 5 1 (.slice A n c) n xs) : n ≤ c ∧ c ≤ maxLen ∧ Rds w A n xs := by
 obtain ⟨A', c', e, h1, h2, h3⟩ := owns_form h
 injection e with e1 e2 e3
 subst e1 e3
 exact ⟨h1, h2, h3⟩
theorem ob_cells {w : World} {g : Nat} {s h : ByteArray} {p n : Int} (x : OB w g s h p n) : w.cell? ⟨g, 0, none⟩ = some (.string s) ∧ w.cell? ⟨g, 1, none⟩ = some (.string h) ∧ w.cell? ⟨g, 2, none⟩ = some (.int .i64 p) ∧ w.cell? ⟨g, 3, none⟩ = some (.int .i64 n) :=
 ⟨(cell_of_row w g 0 _ _ _ x).trans rfl, (cell_of_row w g 1 _ _ _ x).trans rfl, (cell_of_row w g 2 _ _ _ x).trans rfl, (cell_of_row w g 3 _ _ _ x).trans rfl⟩
theorem register_null (B gs gt gu gm : Nat) (m : SM) (h : ByteArray) (p n hd : Int) (k : Nat) (f : Nat → UInt8) (w : World) (hK : IsK B gs gt gu gm m w) (hi : TbK.idx m.tbl hd = some k) (hk : k < m.tbl.length) (hr : m.urls.length < m.ucap) (hx : StoG.idx m.urls (strOf (nameT f)) = none) :
  Calls Tryz.prog 16 #[.pointer (some ⟨gs, 0, none⟩), .agg #[.string ⟨#[]⟩, .string h, .int .i64 p, .int .i64 n], .int .i64 hd, .agg (rv f)] w fun e w' => e = .returned (.tuple #[.string (strOf (nameT f)), .int .i64 0]) ∧ IsK B gs gt gu gm (regd m (nameT f) ⟨strOf (nameT f), ⟨#[]⟩, h, p, n, m.tbl[k].2⟩) w' ∧ Below B w w' ∧ Ks w w' :=
 register_ok B gs gt gu gm m ⟨#[]⟩ h p n hd k (rv f) [110, 117, 108, 108] (nm f 16) (nameT f) w hK hi hk hr hx (nameT_eq f) (by decide) (by have := nm_len f 16; omega) rfl (hid fun w' _ => right_null h p n w') (hid fun w' _ => print_null h p n w') (hid fun w' _ => of_any f w')
end Go.Proofs.YtegpfgccaminkaaGreatDoor.StkI
namespace Go.Proofs.YtegpfgccaminkaaGreatDoor.AnsP
open Go.RowKit Base
def be (n : Nat) : Nat → List UInt8
 | 0 => []
 | m + 1 => UInt8.ofNat (n / 256 ^ m) :: be n m
theorem length_be (n m : Nat) : (be n m).length = m := by
 induction m with
 | zero => rfl
 | succ m ih => simp [be, ih]
def str (L : List UInt8) : List UInt8 := be L.length 4 ++ L
end Go.Proofs.YtegpfgccaminkaaGreatDoor.AnsP
namespace Go.Proofs.YtegpfgccaminkaaGreatDoor.BlobA0
open Go.RowKit Base Base2 Base3
theorem clone_any (A : Option Addr) (n cap : Nat) (L : List UInt8) (w : World) (h : Rds w A n (bcells L)) (hm : n ≤ 1073741824) :
  Calls Tryz.prog 61 #[.slice A n cap] w fun e w' => ∃ v, e = .returned v ∧ w'.ownsRow w.heap.size 5 1 v n (bcells L) ∧ Below w.heap.size w w' := by
 have hl : L.length = n := by rw [← length_bcells]; exact h.1
 have HH := hid h
 clear h
 obtain ⟨i0, hi, hz0, hz1, hz2⟩ := info_parts info_u8
 have hnil := fun (W : World) => Lib.run_eql_slice_nil (P := Tryz.prog) W 39 5 A n cap 0 0 Tryz.underlying39
 cases A with
 | none =>
  have h0 : n = 0 := by
   rcases Nat.eq_zero_or_pos n with h0 | h0
   ·exact h0
   ·obtain ⟨_, _, e, _⟩ := HH.out.spot h0
    cases e
  subst h0
  obtain rfl : L = [] := List.eq_nil_of_length_eq_zero hl
  go_enter Tryz.func61, Tryz.ntmps61
  go_wp2
  go_ret
  exact ⟨_, rfl, World.ownsRow_nil _ _ _ _, Below.refl _ _⟩
 | some ad =>
  have hownA : (w.alloc (.cells #[] 5)).ownsRow w.heap.size 5 1 (.slice (some ⟨w.heap.size, 0, none⟩) 0 0) 0 [] := World.ownsRow_made w #[] 0 (Nat.le_refl _) (by decide) rfl
  have hbelA : Below w.heap.size w (w.alloc (.cells #[] 5)) := (Below.refl _ _).alloc (Nat.le_refl _) _
  have HRA : Hid (Rds (w.alloc (.cells #[] 5)) (some ad) n (bcells L)) := HH.out.below hbelA
  clear hl
  go_enter Tryz.func61, Tryz.ntmps61
  go_wp2_with (at_builtin; refine wpList_app_any rfl _ _ 39 rfl w.heap.size 5 i0 (.int .u8 0) 1 Tryz.underlying39 hi hz0 hz1 hz2 rfl _ 0 [] rfl hownA hbelA hbelA.size (some ad) n cap (bcells L) rfl HRA.out (bcells_one _) (by unfold maxLen; omega) (by omega) ?_)
  intro v3 w3 hown3 hbel3
  clear hownA hbelA HRA
  go_wp2
  go_ret
  exact ⟨_, rfl, hown3, hbel3⟩
end Go.Proofs.YtegpfgccaminkaaGreatDoor.BlobA0
