/- Texts that belong together: PrsP. -/
import Derived.Test.YtegpfgccaminkaaGreatDoorUAC
import Derived.Lib.SplitLaws
import Derived.Lib.LastIndexByte
import Derived.Lib.IndexMore
import Derived.Test.YtegpfgccaminkaaGreatDoorUAA
import Derived.Laws.BitsAllLaws
import Derived.Test.YtegpfgccaminkaaGreatDoorShelf
import Derived.Lib.IndexLaws
import Derived.Laws.Rows
import Derived.BigQuiet
import Derived.Lib.LaidTab
import Derived.Lib.LaidU8
import Derived.Lib.SmallJoins
import Derived.Laws.Bits64b
import Derived.Deep.DeepCutAuto
import Derived.Deep.CutBlock
import Derived.Test.YtegpfgccaminkaaGreatDoorShelf3
import Derived.Laws.IdiomStrings
import Derived.Deep.QuietTactic
import Derived.Lib.SliceRun
import Derived.Lib.IndexAny
import Derived.Test.YtegpfgccaminkaaGreatDoorUAD
set_option linter.unusedSimpArgs false
set_option linter.unusedVariables false
namespace Go.Proofs.YtegpfgccaminkaaGreatDoor.PrsP
open Go.RowKit Base UtfL UtfA UrlA
structure U where
 sch : List UInt8
 usr : List UInt8
 pwd : List UInt8
 hst : List UInt8
 hh : Bool
 port : Int
 opq : Bool
 txt : List UInt8
 pth : List ByteArray
 hq : Bool
 hf : Bool
 qry : List UInt8
 frg : List UInt8
def U0 : U := ⟨[], [], [], [], false, 0, false, [], [], false, false, [], []⟩
def cutB (b : UInt8) : List UInt8 → List UInt8 × List UInt8 × Bool
 | [] => ([], [], false)
 | c :: L => if c = b then ([], L, true) else (c :: (cutB b L).1, (cutB b L).2.1, (cutB b L).2.2)
def schC (c : UInt8) : Bool := letter c.toNat || (digit c.toNat || (decide (c = 43) || (decide (c = 45) || decide (c = 46))))
def isSch : List UInt8 → Bool
 | [] => false
 | c :: r => letter c.toNat && r.all schC
structure Parts where
 sch : List UInt8
 rest : List UInt8
 qry : List UInt8
 frg : List UInt8
 hq : Bool
 hf : Bool
def apart (s : List UInt8) : Parts :=
 let f := cutB 35 s
 let q := cutB 63 f.1
 let c := cutB 58 q.1
 if (c.2.2 && isSch c.1) = true then ⟨lower c.1, c.2.1, q.2.1, f.2.1, q.2.2, f.2.2⟩ else ⟨[], q.1, q.2.1, f.2.1, q.2.2, f.2.2⟩
def FILE : List UInt8 := [102, 105, 108, 101]
def finish (u : U) (p : Parts) : U :=
 let v := if p.hq = true then { u with hq := true, qry := EscE.enc (if special u.sch = true then 3 else 2) p.qry } else u
 if p.hf = true then { v with hf := true, frg := EscE.enc 1 p.frg } else v
def low32 (c : UInt8) : Bool := decide (c.toNat ≤ 32)
def trm (L : List UInt8) : List UInt8 := ((L.dropWhile low32).reverse.dropWhile low32).reverse
def brk (c : UInt8) : Bool := decide (c = 9) || (decide (c = 10) || decide (c = 13))
def clean (L : List UInt8) : List UInt8 := (trm (UtfE.enc (UtfR.dec L))).filter fun c => !brk c
def PthIs (w : World) (u : U) (A : Option Addr) (n c : Nat) : Prop := Rds w A n (u.pth.map Value.string) ∧ n ≤ c ∧ c ≤ maxLen
theorem cut_cutB (b : UInt8) : ∀ L : List UInt8, Lib.cut L [b] = cutB b L
 | [] => rfl
 | c :: L => by
  have ih := cut_cutB b L
  by_cases h : c = b
  ·subst h
   have : Lib.index (c :: L) [c] = 0 := by rw [Lib.index, if_pos (by simp [List.isPrefixOf])]
   unfold Lib.cut cutB
   rw [this, if_pos rfl]
   rfl
  ·have hb : ¬ b = c := fun e => h e.symm
   have : Lib.index (c :: L) [b] = if Lib.index L [b] == -1 then -1 else Lib.index L [b] + 1 := by
    rw [Lib.index, if_neg (by simp [List.isPrefixOf, hb])]
   rw [cutB, if_neg h, ← ih]
   unfold Lib.cut
   rw [this]
   have hge := Lib.index_ge L [b]
   by_cases hm : Lib.index L [b] = -1
   ·rw [hm]; rfl
   ·obtain ⟨j, hj⟩ : ∃ j : Nat, Lib.index L [b] = j := ⟨(Lib.index L [b]).toNat, by omega⟩
    have h1 : ((j : Int) == -1) = false := beq_eq_false_iff_ne.2 (by omega)
    rw [hj, h1, if_neg (by decide : ¬ (false = true))]
    have t1 : ((j : Int) + 1).toNat = j + 1 := by omega
    have t2 : ((j : Int)).toNat = j := by omega
    rw [if_pos (by omega : (0 : Int) ≤ (j : Int) + 1), if_pos (by omega : (0 : Int) ≤ (j : Int)), t1, t2]
    rfl
end Go.Proofs.YtegpfgccaminkaaGreatDoor.PrsP
