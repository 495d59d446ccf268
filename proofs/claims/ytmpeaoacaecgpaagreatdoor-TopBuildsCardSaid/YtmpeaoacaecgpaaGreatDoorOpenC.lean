/- From a row's reading of its arguments to what the walks ask of them: slices of bytes (for frames whose group has dropped XOpen). -/
import Derived.Test.YtmpeaoacaecgpaaGreatDoorXAA
import Derived.ProofKit
import Derived.OpenShut
import Derived.ShutString
import Derived.ChangeOld
import Derived.Below
import Derived.SliceStrings
namespace Go.Proofs.YtmpeaoacaecgpaaGreatDoor.Open
open Go.ChangeShapes Go.WideShapes Go.ChangeAt Go.RowKit Go.Proofs.YtmpeaoacaecgpaaGreatDoor.Base

theorem yZ {w : World} {x : Addr} {n : Nat} {xs : List Value} (hl : xs.length = n) (hc : ∀ i (h : i < xs.length), w.cell? (x.add i) = some xs[i]) : aY w (some x) n xs := by
  refine ⟨hl, fun j hj => ?_⟩
  have h0 := hc 0 (by omega)
  have hs : x.spot = none := by
    have := World.cell?_spot h0
    simpa [Addr.add] using this
  obtain ⟨b, off, sp⟩ := x
  obtain rfl : sp = none := hs
  have hb := World.block_lt_of_cell? w _ h0
  have ha : (⟨b, off, none⟩ : Addr).add j = ⟨b, off + j, none⟩ := by
    unfold Addr.add
    split <;> simp_all
  have hb' : b < w.heap.size := by simpa [Addr.add] using hb
  exact ⟨b, off, rfl, hb', by rw [← ha]; exact hc j hj⟩

variable {P : Program} {w : World} {H : Type} {enc : TypeId × Value → H} {base : Nat} {spare : Nat → Bool} {held : Bool}
/-- A slice of integers that came in. -/
theorem of_ints {t e : TypeId} {k : IntKind} {fuel : Nat} {a : Option Addr} {len cap : Nat} {x : DataW H × List MemPlace} (ht : P.underlying t = some (.slice e)) (he : P.underlying e = some (.int k)) (hc : P.cellsOf e = 1)
    (h : DataW.trod enc P w base (fun _ => true) held fuel t (Value.slice a len cap).cells.toList = some x) :
    ∃ l : List Int, aY w a len (gV k l) ∧ len ≤ cap ∧ cap ≤ maxLen ∧ ∀ z ∈ l, (Lit.int k z).wf = true := by
  rcases open_ints ht he hc h with ⟨hcs, _⟩ | ⟨x, l, c, zs, hcs, _, hl, hm, hz, _, hcell, hwz⟩
  · simp [Value.cells] at hcs
    obtain ⟨rfl, rfl, rfl⟩ := hcs
    exact ⟨[], aY.nil _, Nat.le_refl _, Nat.zero_le _, by simp⟩
  · simp [Value.cells] at hcs
    obtain ⟨rfl, rfl, rfl⟩ := hcs
    have hz' : zs.length = cap := by simpa using hz
    refine ⟨zs.take len, yZ (by rw [jA, List.length_take]; omega) (fun i hi => ?_), hl, hm, fun z hz => hwz z (List.mem_of_mem_take hz)⟩
    rw [jA, List.length_take] at hi
    rw [hcell i (by omega)]
    simp [gV, List.getD, List.getElem?_eq_getElem (show i < zs.length by omega)]
/-- A slice of bytes that came in. -/
theorem aof {t e : TypeId} {fuel : Nat} {a : Option Addr} {len cap : Nat} {x : DataW H × List MemPlace} (ht : P.underlying t = some (.slice e)) (he : P.underlying e = some (.int .u8)) (hc : P.cellsOf e = 1)
    (h : DataW.trod enc P w base (fun _ => true) held fuel t (Value.slice a len cap).cells.toList = some x) :
    ∃ L : List UInt8, aY w a len (ah L) ∧ len ≤ cap ∧ cap ≤ maxLen := by
  obtain ⟨l, hr, hl, hm, hw⟩ := of_ints ht he hc h
  refine ⟨l.map fun z => UInt8.ofNat z.toNat, ?_, hl, hm⟩
  have e : ah (l.map fun z => UInt8.ofNat z.toNat) = gV .u8 l := by
    unfold ah gV
    rw [List.map_map]
    refine List.map_congr_left fun z hz => ?_
    obtain ⟨h0, h1⟩ := bounds_u8 (hw z hz)
    simp only [Function.comp]
    congr 1
    simp
    omega
  rw [e]
  exact hr
end Go.Proofs.YtmpeaoacaecgpaaGreatDoor.Open
