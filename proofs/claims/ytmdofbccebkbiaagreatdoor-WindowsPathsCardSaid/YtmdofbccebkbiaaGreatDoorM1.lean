/- Texts that belong together: aI. -/
import Derived.Test.YtmdofbccebkbiaaGreatDoorMF
import Derived.Test.YtmdofbccebkbiaaGreatDoorME
import Derived.Test.YtmdofbccebkbiaaGreatDoorMA
set_option linter.unusedSimpArgs false
set_option linter.unusedVariables false
set_option maxRecDepth 100000
set_option maxHeartbeats 64000000
namespace Go.Proofs.YtmdofbccebkbiaaGreatDoor.aI
open Go.RowKit Base iT dM kX xK oW mY uY
structure U where
 au : List UInt8
 usr : List UInt8
 dR : List UInt8
 hst : List UInt8
 hh : Bool
 port : Int
 opq : Bool
 txt : List UInt8
 aF : List ByteArray
 hq : Bool
 hf : Bool
 eu : List UInt8
 fH : List UInt8
def U0 : U := ⟨[], [], [], [], false, 0, false, [], [], false, false, [], []⟩
def fB (b : UInt8) : List UInt8 → List UInt8 × List UInt8 × Bool
 | [] => ([], [], false)
 | c :: L => if c = b then ([], L, true) else (c :: (fB b L).1, (fB b L).2.1, (fB b L).2.2)
def IZ (c : UInt8) : Bool := letter c.toNat || (digit c.toNat || (decide (c = 43) || (decide (c = 45) || decide (c = 46))))
def lW : List UInt8 → Bool
 | [] => false
 | c :: r => letter c.toNat && r.all IZ
structure Parts where
 au : List UInt8
 rest : List UInt8
 eu : List UInt8
 fH : List UInt8
 hq : Bool
 hf : Bool
def apart (s : List UInt8) : Parts :=
 let f := fB 35 s
 let q := fB 63 f.1
 let c := fB 58 q.1
 if (c.2.2 && lW c.1) = true then ⟨lower c.1, c.2.1, q.2.1, f.2.1, q.2.2, f.2.2⟩ else ⟨[], q.1, q.2.1, f.2.1, q.2.2, f.2.2⟩
def FILE : List UInt8 := [102, 105, 108, 101]
def LOCAL : List UInt8 := [108, 111, 99, 97, 108, 104, 111, 115, 116]
def pq (sp : Bool) (s : List UInt8) (k : Nat) : Bool := match s[k]? with
 | some c => eY sp c
 | none => false
def walk (au : List UInt8) (l : List ByteArray) (s : List UInt8) : List ByteArray := wb (decide (au = FILE)) (special au) l [] s
def rooted (au s : List UInt8) : List ByteArray := if s = [] ∧ special au = false then [] else walk au [] (if pq (special au) s 0 = true then s.drop 1 else s)
def aC (b : U) : U := { U0 with au := b.au, usr := b.usr, dR := b.dR, hst := b.hst, hh := b.hh, port := b.port }
def along (u b : U) : U := { u with aF := b.aF, hq := b.hq, eu := b.eu }
def lM : List UInt8 → Option (List UInt8 × List UInt8)
 | [] => none
 | c :: L => match lM L with
  | some p => some (c :: p.1, p.2)
  | none => if c = 64 then some ([], L) else none
def hap : Bool → List UInt8 → List UInt8 × List UInt8 × Bool
 | _, [] => ([], [], false)
 | i, c :: L =>
  if c = 58 ∧ i = false then ([], L, true)
  else (c :: (hap (if c = 91 then true else if c = 93 then false else i) L).1, (hap (if c = 91 then true else if c = 93 then false else i) L).2.1, (hap (if c = 91 then true else if c = 93 then false else i) L).2.2)
def Ut (c : UInt8) : Bool := digit c.toNat
def Ae (d : List UInt8) : Nat := d.foldl (fun n c => min (n * 10 + (c.toNat - 48)) 65536) 0
def prt (au d : List UInt8) : Option Int := if d = [] then some (-1) else if d.all Ut = true then (if (Ae d : Int) = portOf au then some (-1) else if Ae d ≤ 65535 then some (Ae d) else none) else none
def je (s : List UInt8) : List UInt8 × List UInt8 × List UInt8 × Bool := match lM s with
 | none => ([], [], s, false)
 | some p => (aH.enc 5 (fB 58 p.1).1, aH.enc 5 (fB 58 p.1).2.1, p.2, true)
def authority (au s : List UInt8) : Option U :=
 let whom := s.take (upto (special au) s)
 let cr := je whom
 if cr.2.2.2 = true ∧ cr.2.2.1 = [] then none else
 let h := hap false cr.2.2.1
 if h.2.2 = true ∧ h.1 = [] then none else
 match hst h.1 (special au), prt au h.2.1 with
 | some H, some p => some { U0 with au := au, usr := cr.1, dR := cr.2.1, hst := H, hh := true, port := p, aF := rooted au (s.drop (upto (special au) s)) }
 | _, _ => none
def relative (rest : List UInt8) (b : U) : Option U :=
 if pq (special b.au) rest 0 = true ∧ pq (special b.au) rest 1 = true then
  authority b.au (if special b.au = true then (rest.drop 2).dropWhile (eY true) else rest.drop 2)
 else some (if pq (special b.au) rest 0 = true then { aC b with aF := rooted b.au rest }
  else if rest = [] then along (aC b) b
  else { aC b with aF := walk b.au (kK false b.aF) rest })
def uF : U := { U0 with au := FILE, hh := true, port := -1 }
def far (s : List UInt8) : Option U :=
 if drv (s.take (upto true s)) = true then some { uF with aF := rooted FILE s }
 else if s.take (upto true s) = [] then some { uF with aF := rooted FILE (s.drop (upto true s)) }
 else match hst (s.take (upto true s)) true with
 | none => none
 | some H => some { uF with hst := if H = LOCAL then [] else H, aF := rooted FILE (s.drop (upto true s)) }
def file (rest : List UInt8) (base : Option U) : Option U :=
 if pq true rest 0 = true ∧ pq true rest 1 = true then far (rest.drop 2)
 else if pq true rest 0 = true then some { (base.elim uF aC) with aF := walk FILE (if nrm ((base.elim [] U.aF).head?.elim [] fun x => x.data.toList) = true ∧ D8 (rest.drop 1) = false then (base.elim [] U.aF).take 1 else []) (rest.drop 1) }
 else match base with
 | none => some { uF with aF := walk FILE (if D8 rest = true then [] else kK true []) rest }
 | some b => if rest = [] then some (along (aC b) b) else some { aC b with aF := walk FILE (if D8 rest = true then [] else kK true b.aF) rest }
def opq (more : Bool) (s : List UInt8) : List UInt8 := if Lib.hasSuffix (aH.enc 0 s) [32] = true ∧ more = true then Lib.trimSuffix (aH.enc 0 s) [32] ++ [37, 50, 48] else aH.enc 0 s
def plain (p : Parts) : Option U :=
 if Lib.hasPrefix p.rest [47, 47] = true then authority p.au (p.rest.drop 2)
 else if Lib.hasPrefix p.rest [47] = true then some { U0 with au := p.au, port := -1, aF := rooted p.au p.rest }
 else some { U0 with au := p.au, port := -1, opq := true, txt := opq (p.hq || p.hf) p.rest }
def pG (p : Parts) (b : U) : Option U := if p.rest ≠ [] ∨ p.hq = true ∨ p.hf = false then none else some b
def resolve (p : Parts) (base : Option U) : Option U :=
 if p.au = FILE then file p.rest (base.filter fun b => b.au = FILE)
 else if special p.au = true then
  match base with
  | some b => if b.au = p.au ∧ Lib.hasPrefix p.rest [47, 47] = false then relative p.rest b else authority p.au (p.rest.dropWhile (eY true))
  | none => authority p.au (p.rest.dropWhile (eY true))
 else if p.au ≠ [] then plain p
 else match base with
 | none => none
 | some b => if b.opq = true then pG p b else if b.au = FILE then file p.rest (some b) else relative p.rest b
def finish (u : U) (p : Parts) : U :=
 let v := if p.hq = true then { u with hq := true, eu := aH.enc (if special u.au = true then 3 else 2) p.eu } else u
 if p.hf = true then { v with hf := true, fH := aH.enc 1 p.fH } else v
def fC (c : UInt8) : Bool := decide (c.toNat ≤ 32)
def AB (L : List UInt8) : List UInt8 := ((L.dropWhile fC).reverse.dropWhile fC).reverse
def brk (c : UInt8) : Bool := decide (c = 9) || (decide (c = 10) || decide (c = 13))
def clean (L : List UInt8) : List UInt8 := (AB (wU.enc (qK.dec L))).filter fun c => !brk c
def url (s : List UInt8) (base : Option U) : Option U := (resolve (apart (clean s)) base).map fun u => finish u (apart (clean s))
def iK (w : World) (u : U) (A : Option Addr) (n c : Nat) : Prop := bK w A n (u.aF.map Value.string) ∧ n ≤ c ∧ c ≤ maxLen
theorem xY (b : UInt8) : ∀ L : List UInt8, Lib.cut L [b] = fB b L
 | [] => rfl
 | c :: L => by
  have ih := xY b L
  by_cases h : c = b
  ·subst h
   have : Lib.index (c :: L) [c] = 0 := by rw [Lib.index, if_pos (by simp [List.isPrefixOf])]
   unfold Lib.cut fB
   rw [this, if_pos rfl]
   rfl
  ·have hb : ¬ b = c := fun e => h e.symm
   have : Lib.index (c :: L) [b] = if Lib.index L [b] == -1 then -1 else Lib.index L [b] + 1 := by
    rw [Lib.index, if_neg (by simp [List.isPrefixOf, hb])]
   rw [fB, if_neg h, ← ih]
   unfold Lib.cut
   rw [this]
   have hge := Lib.index_ge L [b]
   by_cases hm : Lib.index L [b] = -1
   ·rw [hm]; rfl
   ·obtain ⟨j, hj⟩ : ∃ j : Nat, Lib.index L [b] = j := ⟨(Lib.index L [b]).toNat, by omega⟩
    have h1 : ((j : Int) == -1) = false := beq_eq_false_iff_ne.2 (by omega)
    rw [hj, h1, if_neg (by decide : ¬ (false = true))]
    have t1 : ((j : Int) + 1).toNat = j + 1 := by omega
    have t2 : ((j : Int)).toNat = j := by omega
    rw [if_pos (by omega : (0 : Int) ≤ (j : Int) + 1), if_pos (by omega : (0 : Int) ≤ (j : Int)), t1, t2]
    rfl
end Go.Proofs.YtmdofbccebkbiaaGreatDoor.aI
