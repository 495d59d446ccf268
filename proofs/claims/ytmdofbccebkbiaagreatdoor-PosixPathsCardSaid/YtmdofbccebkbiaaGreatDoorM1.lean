/- Texts that belong together: PrsP. -/
import Derived.Test.YtmdofbccebkbiaaGreatDoorMF
import Derived.Test.YtmdofbccebkbiaaGreatDoorME
import Derived.Test.YtmdofbccebkbiaaGreatDoorMA
set_option linter.unusedSimpArgs false
set_option linter.unusedVariables false
namespace Go.Proofs.YtmdofbccebkbiaaGreatDoor.PrsP
open Go.RowKit Base UtfL UtfA PthP PthE PthJ UrlA HstP
structure U where
 sch : List UInt8
 usr : List UInt8
 pwd : List UInt8
 hst : List UInt8
 hh : Bool
 port : Int
 opq : Bool
 txt : List UInt8
 pth : List ByteArray
 hq : Bool
 hf : Bool
 qry : List UInt8
 frg : List UInt8
def U0 : U := ⟨[], [], [], [], false, 0, false, [], [], false, false, [], []⟩
def cutB (b : UInt8) : List UInt8 → List UInt8 × List UInt8 × Bool
 | [] => ([], [], false)
 | c :: L => if c = b then ([], L, true) else (c :: (cutB b L).1, (cutB b L).2.1, (cutB b L).2.2)
def schC (c : UInt8) : Bool := letter c.toNat || (digit c.toNat || (decide (c = 43) || (decide (c = 45) || decide (c = 46))))
def isSch : List UInt8 → Bool
 | [] => false
 | c :: r => letter c.toNat && r.all schC
structure Parts where
 sch : List UInt8
 rest : List UInt8
 qry : List UInt8
 frg : List UInt8
 hq : Bool
 hf : Bool
def apart (s : List UInt8) : Parts :=
 let f := cutB 35 s
 let q := cutB 63 f.1
 let c := cutB 58 q.1
 if (c.2.2 && isSch c.1) = true then ⟨lower c.1, c.2.1, q.2.1, f.2.1, q.2.2, f.2.2⟩ else ⟨[], q.1, q.2.1, f.2.1, q.2.2, f.2.2⟩
def FILE : List UInt8 := [102, 105, 108, 101]
def LOCAL : List UInt8 := [108, 111, 99, 97, 108, 104, 111, 115, 116]
def isSl (sp : Bool) (s : List UInt8) (k : Nat) : Bool := match s[k]? with
 | some c => stp1 sp c
 | none => false
def walk (sch : List UInt8) (l : List ByteArray) (s : List UInt8) : List ByteArray := wb (decide (sch = FILE)) (special sch) l [] s
def rooted (sch s : List UInt8) : List ByteArray := if s = [] ∧ special sch = false then [] else walk sch [] (if isSl (special sch) s 0 = true then s.drop 1 else s)
def hosted (b : U) : U := { U0 with sch := b.sch, usr := b.usr, pwd := b.pwd, hst := b.hst, hh := b.hh, port := b.port }
def along (u b : U) : U := { u with pth := b.pth, hq := b.hq, qry := b.qry }
def lastAt : List UInt8 → Option (List UInt8 × List UInt8)
 | [] => none
 | c :: L => match lastAt L with
  | some p => some (c :: p.1, p.2)
  | none => if c = 64 then some ([], L) else none
def hap : Bool → List UInt8 → List UInt8 × List UInt8 × Bool
 | _, [] => ([], [], false)
 | i, c :: L =>
  if c = 58 ∧ i = false then ([], L, true)
  else (c :: (hap (if c = 91 then true else if c = 93 then false else i) L).1, (hap (if c = 91 then true else if c = 93 then false else i) L).2.1, (hap (if c = 91 then true else if c = 93 then false else i) L).2.2)
def dgt (c : UInt8) : Bool := digit c.toNat
def pnum (d : List UInt8) : Nat := d.foldl (fun n c => min (n * 10 + (c.toNat - 48)) 65536) 0
def prt (sch d : List UInt8) : Option Int := if d = [] then some (-1) else if d.all dgt = true then (if (pnum d : Int) = portOf sch then some (-1) else if pnum d ≤ 65535 then some (pnum d) else none) else none
def credU (s : List UInt8) : List UInt8 × List UInt8 × List UInt8 × Bool := match lastAt s with
 | none => ([], [], s, false)
 | some p => (EscE.enc 5 (cutB 58 p.1).1, EscE.enc 5 (cutB 58 p.1).2.1, p.2, true)
def authority (sch s : List UInt8) : Option U :=
 let whom := s.take (upto (special sch) s)
 let cr := credU whom
 if cr.2.2.2 = true ∧ cr.2.2.1 = [] then none else
 let h := hap false cr.2.2.1
 if h.2.2 = true ∧ h.1 = [] then none else
 match hst h.1 (special sch), prt sch h.2.1 with
 | some H, some p => some { U0 with sch := sch, usr := cr.1, pwd := cr.2.1, hst := H, hh := true, port := p, pth := rooted sch (s.drop (upto (special sch) s)) }
 | _, _ => none
def relative (rest : List UInt8) (b : U) : Option U :=
 if isSl (special b.sch) rest 0 = true ∧ isSl (special b.sch) rest 1 = true then
  authority b.sch (if special b.sch = true then (rest.drop 2).dropWhile (stp1 true) else rest.drop 2)
 else some (if isSl (special b.sch) rest 0 = true then { hosted b with pth := rooted b.sch rest }
  else if rest = [] then along (hosted b) b
  else { hosted b with pth := walk b.sch (sho false b.pth) rest })
def uF : U := { U0 with sch := FILE, hh := true, port := -1 }
def far (s : List UInt8) : Option U :=
 if drv (s.take (upto true s)) = true then some { uF with pth := rooted FILE s }
 else if s.take (upto true s) = [] then some { uF with pth := rooted FILE (s.drop (upto true s)) }
 else match hst (s.take (upto true s)) true with
 | none => none
 | some H => some { uF with hst := if H = LOCAL then [] else H, pth := rooted FILE (s.drop (upto true s)) }
def file (rest : List UInt8) (base : Option U) : Option U :=
 if isSl true rest 0 = true ∧ isSl true rest 1 = true then far (rest.drop 2)
 else if isSl true rest 0 = true then some { (base.elim uF hosted) with pth := walk FILE (if nrm ((base.elim [] U.pth).head?.elim [] fun x => x.data.toList) = true ∧ bgn (rest.drop 1) = false then (base.elim [] U.pth).take 1 else []) (rest.drop 1) }
 else match base with
 | none => some { uF with pth := walk FILE (if bgn rest = true then [] else sho true []) rest }
 | some b => if rest = [] then some (along (hosted b) b) else some { hosted b with pth := walk FILE (if bgn rest = true then [] else sho true b.pth) rest }
def opq (more : Bool) (s : List UInt8) : List UInt8 := if Lib.hasSuffix (EscE.enc 0 s) [32] = true ∧ more = true then Lib.trimSuffix (EscE.enc 0 s) [32] ++ [37, 50, 48] else EscE.enc 0 s
def plain (p : Parts) : Option U :=
 if Lib.hasPrefix p.rest [47, 47] = true then authority p.sch (p.rest.drop 2)
 else if Lib.hasPrefix p.rest [47] = true then some { U0 with sch := p.sch, port := -1, pth := rooted p.sch p.rest }
 else some { U0 with sch := p.sch, port := -1, opq := true, txt := opq (p.hq || p.hf) p.rest }
def ofOpaque (p : Parts) (b : U) : Option U := if p.rest ≠ [] ∨ p.hq = true ∨ p.hf = false then none else some b
def resolve (p : Parts) (base : Option U) : Option U :=
 if p.sch = FILE then file p.rest (base.filter fun b => b.sch = FILE)
 else if special p.sch = true then
  match base with
  | some b => if b.sch = p.sch ∧ Lib.hasPrefix p.rest [47, 47] = false then relative p.rest b else authority p.sch (p.rest.dropWhile (stp1 true))
  | none => authority p.sch (p.rest.dropWhile (stp1 true))
 else if p.sch ≠ [] then plain p
 else match base with
 | none => none
 | some b => if b.opq = true then ofOpaque p b else if b.sch = FILE then file p.rest (some b) else relative p.rest b
def finish (u : U) (p : Parts) : U :=
 let v := if p.hq = true then { u with hq := true, qry := EscE.enc (if special u.sch = true then 3 else 2) p.qry } else u
 if p.hf = true then { v with hf := true, frg := EscE.enc 1 p.frg } else v
def low32 (c : UInt8) : Bool := decide (c.toNat ≤ 32)
def trm (L : List UInt8) : List UInt8 := ((L.dropWhile low32).reverse.dropWhile low32).reverse
def brk (c : UInt8) : Bool := decide (c = 9) || (decide (c = 10) || decide (c = 13))
def clean (L : List UInt8) : List UInt8 := (trm (UtfE.enc (UtfR.dec L))).filter fun c => !brk c
def url (s : List UInt8) (base : Option U) : Option U := (resolve (apart (clean s)) base).map fun u => finish u (apart (clean s))
def PthIs (w : World) (u : U) (A : Option Addr) (n c : Nat) : Prop := Rds w A n (u.pth.map Value.string) ∧ n ≤ c ∧ c ≤ maxLen
theorem cut_cutB (b : UInt8) : ∀ L : List UInt8, Lib.cut L [b] = cutB b L
 | [] => rfl
 | c :: L => by
  have ih := cut_cutB b L
  by_cases h : c = b
  ·subst h
   have : Lib.index (c :: L) [c] = 0 := by rw [Lib.index, if_pos (by simp [List.isPrefixOf])]
   unfold Lib.cut cutB
   rw [this, if_pos rfl]
   rfl
  ·have hb : ¬ b = c := fun e => h e.symm
   have : Lib.index (c :: L) [b] = if Lib.index L [b] == -1 then -1 else Lib.index L [b] + 1 := by
    rw [Lib.index, if_neg (by simp [List.isPrefixOf, hb])]
   rw [cutB, if_neg h, ← ih]
   unfold Lib.cut
   rw [this]
   have hge := Lib.index_ge L [b]
   by_cases hm : Lib.index L [b] = -1
   ·rw [hm]; rfl
   ·obtain ⟨j, hj⟩ : ∃ j : Nat, Lib.index L [b] = j := ⟨(Lib.index L [b]).toNat, by omega⟩
    have h1 : ((j : Int) == -1) = false := beq_eq_false_iff_ne.2 (by omega)
    rw [hj, h1, if_neg (by decide : ¬ (false = true))]
    have t1 : ((j : Int) + 1).toNat = j + 1 := by omega
    have t2 : ((j : Int)).toNat = j := by omega
    rw [if_pos (by omega : (0 : Int) ≤ (j : Int) + 1), if_pos (by omega : (0 : Int) ≤ (j : Int)), t1, t2]
    rfl
end Go.Proofs.YtmdofbccebkbiaaGreatDoor.PrsP
