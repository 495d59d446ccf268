/- More words shared by the walks of this seat: new blocks of bytes, sums and cuts of strings. -/
import Derived.Test.YtafnekilnbhhlaaBase
namespace Go.Proofs.Ytafnekilnbhhlaa.Base2
open Go.RowKit Go.Proofs.Ytafnekilnbhhlaa.Base

/-- A new block of bytes reads as them. -/
theorem rds_const (w : World) (L : List UInt8) (t : TypeId) (mk : Nat × Nat) : Rds (w.alloc (.cells (bcells L).toArray t mk)) (some ⟨w.heap.size, 0, none⟩) L.length (bcells L) :=
  Rds.of_spot (length_bcells L) (by simp) (fun j hj => by
    rw [Nat.zero_add, World.cell?_alloc_mark]
    simp)
/-- What '[]byte(s)' lays reads as the bytes of s. -/
theorem rds_made (s : ByteArray) (cap : Nat) (w : World) (t : TypeId) : Rds (w.drew.alloc (.cells (bytesRow s cap) t ((bytesRow s cap).size, (bytesRow s cap).size + 1))) (some ⟨w.heap.size, 0, none⟩) s.size (bcells s.data.toList) :=
  Rds.of_spot (by rw [length_bcells]; exact Array.length_toList) (by simp) (fun j hj => by
    have hj' : j < s.data.size := by rw [length_bcells, Array.length_toList] at hj; exact hj
    rw [Nat.zero_add]
    have e : w.heap.size = w.drew.heap.size := rfl
    rw [e, World.cell?_alloc_mark, bytesRow_at s cap j hj']
    simp [bcells])
theorem str_add {P : Program} (X Y : List UInt8) (w : World) (h : X.length + Y.length ≤ 9223372036854775807) : (Op.stringOp .add (strOf X) (strOf Y)).run P w = .ok (.string (strOf (X ++ Y))) w := by
  rw [run_string_add_sum w _ _ (by rw [size_strOf, size_strOf]; exact h)]
  congr 2
theorem str_add' {P : Program} (a b : ByteArray) (w : World) (h : a.size + b.size ≤ 9223372036854775807) : (Op.stringOp .add a b).run P w = .ok (.string (strOf (a.data.toList ++ b.data.toList))) w := by
  rw [run_string_add_sum w _ _ h]
  congr 3
theorem bel {w0 w w' : World} (h : Below w0.heap.size w0 w) (hb : Below w.heap.size w w') : Below w0.heap.size w0 w' := h.trans (hb.mono h.size)
theorem Rds_drew {w : World} {A : Option Addr} {n : Nat} {xs : List Value} (h : Rds w A n xs) : Rds w.drew A n xs := h
theorem Rds_drewN {w : World} {A : Option Addr} {n : Nat} {xs : List Value} (h : Rds w A n xs) (k : Nat) : Rds (w.drewN k) A n xs := h
/-- What a contract asks and gives, behind draws: what lay below the first world's end stands; a reading stands. -/
theorem bel_drew {w0 w w' : World} (h : Below w0.heap.size w0 w) (hb : Below w.drew.heap.size w.drew w') : Below w0.heap.size w0 w' := h.drew.trans (hb.mono h.size)
theorem rds_drew_below {w w' : World} {A : Option Addr} {n : Nat} {xs : List Value} (h : Rds w A n xs) (hb : Below w.drew.heap.size w.drew w') : Rds w' A n xs := (Rds_drew h).below hb
end Go.Proofs.Ytafnekilnbhhlaa.Base2
