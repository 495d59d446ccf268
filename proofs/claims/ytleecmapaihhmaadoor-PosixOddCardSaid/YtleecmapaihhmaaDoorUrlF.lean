/- URLs: url.Same, and the document's. -/
import Derived.Test.YtleecmapaihhmaaDoorUrlE
import Derived.Test.YtleecmapaihhmaaDoorMB
import Derived.Deep.DeepCutAuto
set_option linter.unusedSimpArgs false
set_option linter.unusedVariables false
namespace Go.Proofs.YtleecmapaihhmaaDoor.UrlF
open Go.RowKit Go.Proofs.YtleecmapaihhmaaDoor.Base Go.Proofs.YtleecmapaihhmaaDoor.Base2 Go.Proofs.YtleecmapaihhmaaDoor.UrlP Go.Proofs.YtleecmapaihhmaaDoor.UrlA Go.Proofs.YtleecmapaihhmaaDoor.UrlE Go.Proofs.YtleecmapaihhmaaDoor.Regs

/-- What must be alike. -/
theorem same_iff (as0 : ByteArray) (as1 : ByteArray) (as2 : ByteArray) (as3 : ByteArray) (ab4 : Bool) (az5 : Int) (ab6 : Bool) (as7 : ByteArray) (aA : Option Addr) (an acap : Nat) (al : List ByteArray) (ab9 : Bool) (ab10 : Bool) (as11 : ByteArray) (as12 : ByteArray) (bs0 : ByteArray) (bs1 : ByteArray) (bs2 : ByteArray) (bs3 : ByteArray) (bb4 : Bool) (bz5 : Int) (bb6 : Bool) (bs7 : ByteArray) (bA : Option Addr) (bn bcap : Nat) (bl : List ByteArray) (bb9 : Bool) (bb10 : Bool) (bs11 : ByteArray) (bs12 : ByteArray) : same1 as0 as1 as2 as3 ab4 az5 ab6 as7 al ab9 ab10 as11 as12 = same1 bs0 bs1 bs2 bs3 bb4 bz5 bb6 bs7 bl bb9 bb10 bs11 bs12 ↔ (as0.data.toList = bs0.data.toList ∧ as1.data.toList = bs1.data.toList ∧ as2.data.toList = bs2.data.toList ∧ az5 = bz5 ∧ txt ab4 as3 = txt bb4 bs3 ∧ spB ab6 bb6 as7 bs7 al bl = true ∧ txt ab9 as11 = txt bb9 bs11 ∧ txt ab10 as12 = txt bb10 bs12) := by
  unfold same1
  simp only [Prod.mk.injEq, List.cons.injEq, Option.some.injEq, and_true]
  cases ab6 <;> cases bb6 <;> simp [spB, txt] <;> constructor <;> (intro h; simp [h])
def Bx (w : World) (b : Nat) (c : Array Value) : Prop := w.heap[b]? = some (.cells c 25 (0, 0))
theorem Bx.cell {w : World} {b : Nat} {c : Array Value} (h : Bx w b c) (i : Nat) : w.cell? ⟨b, i, none⟩ = c[i]? := cell_of_row w b i _ _ _ h
theorem cells13 {w : World} {b : Nat} {v0 v1 v2 v3 v4 v5 v6 v7 v8 v9 v10 v11 v12 : Value} (h : Bx w b #[v0, v1, v2, v3, v4, v5, v6, v7, v8, v9, v10, v11, v12]) :
    w.cell? ⟨b, 0, none⟩ = some v0 ∧ w.cell? ⟨b, 1, none⟩ = some v1 ∧ w.cell? ⟨b, 2, none⟩ = some v2 ∧ w.cell? ⟨b, 3, none⟩ = some v3 ∧ w.cell? ⟨b, 4, none⟩ = some v4 ∧ w.cell? ⟨b, 5, none⟩ = some v5 ∧ w.cell? ⟨b, 6, none⟩ = some v6 ∧ w.cell? ⟨b, 7, none⟩ = some v7 ∧ w.cell? ⟨b, 8, none⟩ = some v8 ∧ w.cell? ⟨b, 9, none⟩ = some v9 ∧ w.cell? ⟨b, 10, none⟩ = some v10 ∧ w.cell? ⟨b, 11, none⟩ = some v11 ∧ w.cell? ⟨b, 12, none⟩ = some v12 :=
  ⟨(h.cell 0).trans rfl, (h.cell 1).trans rfl, (h.cell 2).trans rfl, (h.cell 3).trans rfl, (h.cell 4).trans rfl, (h.cell 5).trans rfl, (h.cell 6).trans rfl, (h.cell 7).trans rfl, (h.cell 8).trans rfl, (h.cell 9).trans rfl, (h.cell 10).trans rfl, (h.cell 11).trans rfl, (h.cell 12).trans rfl⟩
end Go.Proofs.YtleecmapaihhmaaDoor.UrlF
