/- Texts that belong together: BldF, PosV, PosU. -/
import Derived.Test.YtmdofbccebkbiaaGreatDoorMP
import Derived.Shelf.Strings.BuilderF
import Derived.Test.YtmdofbccebkbiaaGreatDoorMV
import Derived.Test.YtmdofbccebkbiaaGreatDoorMA
import Derived.Test.YtmdofbccebkbiaaGreatDoorME
set_option linter.unusedSimpArgs false
set_option linter.unusedVariables false
set_option maxRecDepth 100000
set_option maxHeartbeats 64000000
namespace Go.Proofs.YtmdofbccebkbiaaGreatDoor.BldF
open Go.RowKit Base aT Oa XI
abbrev IsF (B b : Nat) (l : List UInt8) (w : World) : Prop := Lib.IsBuilderF 77 5 B b (Lib.byteCells l) w
theorem Ii {B b : Nat} {l : List UInt8} {w : World} (h : mg B b l w) : IsF B b l w := Lib.IsBuilderF.of h
theorem Fh {w w' : World} {base n size : Nat} {e : TypeId} {v : Value} {xs : List Value} (h : w.ownsRowF base e size v n xs) (hb : Below w.heap.size w w') : w'.ownsRowF base e size v n xs := by
 refine ⟨h.1, ?_⟩
 rcases h.2 with hn | ⟨g, cap, cur, fz, rfl, hg, hh, rest⟩
 ·exact .inl hn
 ·exact .inr ⟨g, cap, cur, fz, rfl, hg, (hb.block g (Array.getElem?_eq_some_iff.1 hh).1).trans hh, rest⟩
theorem uj {B b : Nat} {l : List UInt8} {w w' : World} (h : IsF B b l w) (hb : Below w.heap.size w w') : IsF B b l w' := by
 rcases h with ⟨h1, v, h2, h3, h4⟩ | ⟨h1, v, h2, h3, h4⟩
 ·exact Or.inl ⟨h1, v, (hb.block _ (Array.getElem?_eq_some_iff.1 h2).1).trans h2, Fh h3 hb, h4⟩
 ·exact Or.inr ⟨h1, v, (hb.block _ (Array.getElem?_eq_some_iff.1 h2).1).trans h2, Fh h3 hb, h4⟩
theorem gZ (B b : Nat) (l : List UInt8) (w : World) (h : IsF B b l w) (hBw : B ≤ w.heap.size) :
  Calls Tryz.prog 62 #[.pointer (some ⟨b, 0, none⟩)] w fun e w' => e = .returned (.string (strOf l)) ∧ IsF B b l w' ∧ Below B w w' := Any.Builder_String_any_f Tryz.l169 Tryz.Builder_Extra_169 B b l w h hBw
end Go.Proofs.YtmdofbccebkbiaaGreatDoor.BldF
namespace Go.Proofs.YtmdofbccebkbiaaGreatDoor.PosV
open Go.RowKit Base aT rJ xJ Rk Oa XI BldF
open Go.Proofs.YtmdofbccebkbiaaGreatDoor.uT (Max)
open Go.Proofs.YtmdofbccebkbiaaGreatDoor.bQ (aF bP oC jD)
def FIL : List UInt8 := [102, 105, 108, 101]
theorem tl (s : ByteArray) : s.toList = s.data.toList := Lib.toList_data s
end Go.Proofs.YtmdofbccebkbiaaGreatDoor.PosV
namespace Go.Proofs.YtmdofbccebkbiaaGreatDoor.PosU
open Go.RowKit Base eH aT kW rJ xJ Rk FT PosC
open Go.Proofs.YtmdofbccebkbiaaGreatDoor.rF (seg)
open Go.Proofs.YtmdofbccebkbiaaGreatDoor.uT (Max)
def gW (h : List UInt8) (p : Value) : Array Value := #[.string ⟨#[102, 105, 108, 101]⟩, .string ⟨#[]⟩, .string ⟨#[]⟩, .string (strOf h), .bool true, .int .i64 (-1), .bool false, .string ⟨#[]⟩, p, .bool false, .bool false, .string ⟨#[]⟩, .string ⟨#[]⟩]
def kU : Array Value := #[.string ⟨#[]⟩, .string ⟨#[]⟩, .string ⟨#[]⟩, .string ⟨#[]⟩, .bool false, .int .i64 0, .bool false, .string ⟨#[]⟩, .slice none 0 0, .bool false, .bool false, .string ⟨#[]⟩, .string ⟨#[]⟩]
def Bx (w : World) (g : Nat) (cs : Array Value) : Prop := w.heap[g]? = some (.cells cs 25 (0, 0))
variable {w w' : World} {g : Nat} {cs ds : Array Value}
theorem Bx.lt (h : Bx w g cs) : g < w.heap.size := (Array.getElem?_eq_some_iff.1 h).1
theorem Bx.below (h : Bx w g cs) (hb : Below w.heap.size w w') : Bx w' g cs := (hb.block g h.lt).trans h
theorem Bx.under {B : Nat} (h : Bx w g cs) (hb : Below B w w') (hg : g < B) : Bx w' g cs := (hb.block g hg).trans h
theorem Bx.load (h : Bx w g cs) (hs : cs.size = 13) : (loadVar 25 ⟨g, 0, none⟩).run Tryz.prog w = .ok (.agg cs) w :=
 run_loadVar_row w g _ _ cs (0, 0) _ h Tryz.underlying25 rfl (by rw [hs]; kernel_rfl)
theorem Bx.path {h : List UInt8} {p : Value} (hB : Bx w g (gW h p)) (q : Value) : Bx (w.setCell ⟨g, 8, none⟩ q) g (gW h q) := heap_setCell_same w g 8 _ _ _ hB
theorem Bx.E5 {h : List UInt8} {p : Value} (hB : Bx w g (gW h p)) : w.cell? ⟨g, 8, none⟩ = some p ∧ w.frozen? ⟨g, 8, none⟩ = false := ⟨cell_of_row w g 8 _ _ _ hB, frozen_of_row w g 8 _ _ hB⟩
theorem Bx.facts {h : List UInt8} {p : Value} (hB : Bx w g (gW h p)) : w.cell? ⟨g, 0, none⟩ = some (.string ⟨#[102, 105, 108, 101]⟩) ∧ w.cell? ⟨g, 1, none⟩ = some (.string ⟨#[]⟩) ∧ w.cell? ⟨g, 2, none⟩ = some (.string ⟨#[]⟩) ∧ w.cell? ⟨g, 3, none⟩ = some (.string (strOf h)) ∧ w.cell? ⟨g, 4, none⟩ = some (.bool true) ∧ w.cell? ⟨g, 5, none⟩ = some (.int .i64 (-1)) ∧ w.cell? ⟨g, 6, none⟩ = some (.bool false) ∧ w.cell? ⟨g, 7, none⟩ = some (.string ⟨#[]⟩) ∧ w.cell? ⟨g, 8, none⟩ = some (p) ∧ w.cell? ⟨g, 9, none⟩ = some (.bool false) ∧ w.cell? ⟨g, 10, none⟩ = some (.bool false) ∧ w.cell? ⟨g, 11, none⟩ = some (.string ⟨#[]⟩) ∧ w.cell? ⟨g, 12, none⟩ = some (.string ⟨#[]⟩) :=
 ⟨cell_of_row w g 0 _ _ _ hB, cell_of_row w g 1 _ _ _ hB, cell_of_row w g 2 _ _ _ hB, cell_of_row w g 3 _ _ _ hB, cell_of_row w g 4 _ _ _ hB, cell_of_row w g 5 _ _ _ hB, cell_of_row w g 6 _ _ _ hB, cell_of_row w g 7 _ _ _ hB, cell_of_row w g 8 _ _ _ hB, cell_of_row w g 9 _ _ _ hB, cell_of_row w g 10 _ _ _ hB, cell_of_row w g 11 _ _ _ hB, cell_of_row w g 12 _ _ _ hB⟩
theorem Bx.row (h : Bx w g cs) (ds : Array Value) : Bx (w.setRow g ds) g ds := setRow_heap w g cs ds _ (0, 0) h
theorem laid (w : World) (a : Array Value) (T : TypeId) : (w.alloc (.cells a T)).heap[w.heap.size]? = some (.cells a T (0, 0)) ∧ Below w.heap.size w (w.alloc (.cells a T)) :=
 ⟨heap_alloc_new w _, (Below.refl _ _).alloc (Nat.le_refl _) _⟩
theorem yR {ops : Array Oper} {rest : List Oper} {o : Oper} {a : Act} {Q : Exit → Act → World → Prop} (hU : Bx w g cs) (ds : Array Value) (hs : cs.size = 13) (hs2 : ds.size = 13) (h1 : ds.all (·.oneCell') = true) (x y : Operand) (ho : o.op = .store 25 x y) (hgd : o.guard = none)
  (hx : a.eval x = .pointer (some ⟨g, 0, none⟩)) (hy : a.eval y = .agg ds)
  (h : wpList Tryz.prog ops Q rest (a.put o.dst undef) (w.setRow g ds)) : wpList Tryz.prog ops Q (o :: rest) a w :=
 wpList_store_row hgd 25 x y ho g ds hx hy 25 cs hU (by rw [hs2]; kernel_rfl) (by rw [hs, hs2]) h1 h
theorem ZL (h : List UInt8) (A : Option Addr) (n c : Nat) : (gW h (.slice A n c)).all (·.oneCell') = true := by simp [gW, Value.oneCell']
theorem one_z : kU.all (·.oneCell') = true := by simp [kU, Value.oneCell']
theorem res {fn : Func} {a b : Tmp} (h : fn.results = #[.cell a 25, .tmp b]) (hU : Bx w g cs) (hs : cs.size = 13) (v : Value) (tmps : Array Value) (h2 : tmps.getD a undef = .pointer (some ⟨g, 0, none⟩)) (h3 : tmps.getD b undef = v) :
  (results fn tmps).run Tryz.prog w = .ok (.tuple #[.agg cs, v]) w := by
 have hp' : tmps[a]?.getD undef = .pointer (some ⟨g, 0, none⟩) := by simpa using h2
 have hq' : tmps[b]?.getD undef = v := by simpa using h3
 simp [results, h, hp', hq', asAddr, hU.load hs]
theorem below_setRow {B : Nat} {w0 : World} (h : Below B w0 w) (hg : B ≤ g) (ds : Array Value) : Below B w0 (w.setRow g ds) := by
 refine ⟨h.os, h.tape, h.output, ?_, fun k hk => (setRow_other w g k ds (by omega)).trans (h.block k hk)⟩
 simpa [World.setRow] using h.size
theorem tN {B : Nat} {w0 : World} (h : Below B w0 w) (hg : B ≤ g) (ds : Array Value) : Below B w0 (w.setRow g ds) := below_setRow h hg ds
def AnsF (yes no : Value) (hst : List UInt8) (w : World) (o : Option (List (List UInt8))) (e : Ending) (w' : World) : Prop := Below w.heap.size w w' ∧ match o with
 | none => e = .returned (.tuple #[.agg kU, no])
 | some l => ∃ A n c, e = .returned (.tuple #[.agg (gW hst (.slice A n c)), yes]) ∧ w'.ownsRow w.heap.size 9 1 (.slice A n c) n ((l.map strOf).map Value.string)
theorem J7 {yes no : Value} {hst : List UInt8} {o : Option (List (List UInt8))} (ho : o = none) (hb : Below w.heap.size w w') : AnsF yes no hst w o (.returned (.tuple #[.agg kU, no])) w' := by
 subst ho
 exact ⟨hb, rfl⟩
theorem Ep {yes no : Value} {hst : List UInt8} {o : Option (List (List UInt8))} {l : List (List UInt8)} (ho : o = some l) (hb : Below w.heap.size w w') {A : Option Addr} {n c : Nat} (hown : w'.ownsRow w.heap.size 9 1 (.slice A n c) n ((l.map strOf).map Value.string)) : AnsF yes no hst w o (.returned (.tuple #[.agg (gW hst (.slice A n c)), yes])) w' := by
 subst ho
 exact ⟨hb, A, n, c, rfl, hown⟩
theorem Dy {B n : Nat} {e : TypeId} {v x : Value} {xs : List Value} {i : Nat} (h : w.ownsRow B e 1 v n xs) (hg : g < B) : (w.setCell ⟨g, i, none⟩ x).ownsRow B e 1 v n xs := by
 refine ⟨h.1, ?_⟩
 rcases h.2 with hn | ⟨k, cap, cur, rfl, hb, hh, rest⟩
 ·exact .inl hn
 ·exact .inr ⟨k, cap, cur, rfl, hb, (heap_setCell_other _ _ _ _ (show k ≠ g by omega)).trans hh, rest⟩
theorem IB {B n : Nat} {e : TypeId} {v : Value} {xs : List Value} (h : w.ownsRow B e 1 v n xs) (hg : g < B) (ds : Array Value) : (w.setRow g ds).ownsRow B e 1 v n xs := by
 refine ⟨h.1, ?_⟩
 rcases h.2 with hn | ⟨k, cap, cur, rfl, hb, hh, rest⟩
 ·exact .inl hn
 ·exact .inr ⟨k, cap, cur, rfl, hb, (setRow_other _ _ _ _ (show k ≠ g by omega)).trans hh, rest⟩
theorem one_cell (w : World) (x : Value) (T : TypeId) : bK (w.alloc (.cells #[x] T)) (some ⟨w.heap.size, 0, none⟩) 1 [x] :=
 bK.kG rfl (by simp) (fun j hj => by
  simp at hj
  subst hj
  rw [Nat.zero_add, World.cell?_alloc_mark]
  rfl)
theorem Gl (s : ByteArray) : ∀ u ∈ [Value.string s], u.oneCell' = true := by
 intro u hu
 simp at hu
 subst hu
 rfl
end Go.Proofs.YtmdofbccebkbiaaGreatDoor.PosU
