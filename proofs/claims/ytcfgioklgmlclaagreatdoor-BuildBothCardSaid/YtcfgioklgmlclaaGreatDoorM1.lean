/- Texts that belong together: aH. -/
import Derived.Test.YtcfgioklgmlclaaGreatDoorMF
import Derived.Test.YtcfgioklgmlclaaGreatDoorME
import Derived.Test.YtcfgioklgmlclaaGreatDoorMA
set_option linter.unusedSimpArgs false
set_option linter.unusedVariables false
set_option maxRecDepth 100000
set_option maxHeartbeats 64000000
namespace Go.Proofs.YtcfgioklgmlclaaGreatDoor.aH
open Go.RowKit Base fE eX pV xZ qM ng zN
structure U where
 aj : List UInt8
 usr : List UInt8
 dR : List UInt8
 hst : List UInt8
 hh : Bool
 port : Int
 opq : Bool
 txt : List UInt8
 aN : List ByteArray
 hq : Bool
 hf : Bool
 eF : List UInt8
 fG : List UInt8
def U0 : U := ⟨[], [], [], [], false, 0, false, [], [], false, false, [], []⟩
def dV (b : UInt8) : List UInt8 → List UInt8 × List UInt8 × Bool
 | [] => ([], [], false)
 | c :: L => if c = b then ([], L, true) else (c :: (dV b L).1, (dV b L).2.1, (dV b L).2.2)
def Jr (c : UInt8) : Bool := letter c.toNat || (digit c.toNat || (decide (c = 43) || (decide (c = 45) || decide (c = 46))))
def kZ : List UInt8 → Bool
 | [] => false
 | c :: r => letter c.toNat && r.all Jr
structure Parts where
 aj : List UInt8
 rest : List UInt8
 eF : List UInt8
 fG : List UInt8
 hq : Bool
 hf : Bool
def apart (s : List UInt8) : Parts :=
 let f := dV 35 s
 let q := dV 63 f.1
 let c := dV 58 q.1
 if (c.2.2 && kZ c.1) = true then ⟨lower c.1, c.2.1, q.2.1, f.2.1, q.2.2, f.2.2⟩ else ⟨[], q.1, q.2.1, f.2.1, q.2.2, f.2.2⟩
def FILE : List UInt8 := [102, 105, 108, 101]
def LOCAL : List UInt8 := [108, 111, 99, 97, 108, 104, 111, 115, 116]
def pq (sp : Bool) (s : List UInt8) (k : Nat) : Bool := match s[k]? with
 | some c => fP sp c
 | none => false
def walk (aj : List UInt8) (l : List ByteArray) (s : List UInt8) : List ByteArray := wb (decide (aj = FILE)) (special aj) l [] s
def rooted (aj s : List UInt8) : List ByteArray := if s = [] ∧ special aj = false then [] else walk aj [] (if pq (special aj) s 0 = true then s.drop 1 else s)
def aG (b : U) : U := { U0 with aj := b.aj, usr := b.usr, dR := b.dR, hst := b.hst, hh := b.hh, port := b.port }
def along (u b : U) : U := { u with aN := b.aN, hq := b.hq, eF := b.eF }
def lS : List UInt8 → Option (List UInt8 × List UInt8)
 | [] => none
 | c :: L => match lS L with
  | some p => some (c :: p.1, p.2)
  | none => if c = 64 then some ([], L) else none
def hap : Bool → List UInt8 → List UInt8 × List UInt8 × Bool
 | _, [] => ([], [], false)
 | i, c :: L =>
  if c = 58 ∧ i = false then ([], L, true)
  else (c :: (hap (if c = 91 then true else if c = 93 then false else i) L).1, (hap (if c = 91 then true else if c = 93 then false else i) L).2.1, (hap (if c = 91 then true else if c = 93 then false else i) L).2.2)
def WV (c : UInt8) : Bool := digit c.toNat
def zV (d : List UInt8) : Nat := d.foldl (fun n c => min (n * 10 + (c.toNat - 48)) 65536) 0
def prt (aj d : List UInt8) : Option Int := if d = [] then some (-1) else if d.all WV = true then (if (zV d : Int) = portOf aj then some (-1) else if zV d ≤ 65535 then some (zV d) else none) else none
def jh (s : List UInt8) : List UInt8 × List UInt8 × List UInt8 × Bool := match lS s with
 | none => ([], [], s, false)
 | some p => (aJ.enc 5 (dV 58 p.1).1, aJ.enc 5 (dV 58 p.1).2.1, p.2, true)
def authority (aj s : List UInt8) : Option U :=
 let whom := s.take (upto (special aj) s)
 let cr := jh whom
 if cr.2.2.2 = true ∧ cr.2.2.1 = [] then none else
 let h := hap false cr.2.2.1
 if h.2.2 = true ∧ h.1 = [] then none else
 match hst h.1 (special aj), prt aj h.2.1 with
 | some H, some p => some { U0 with aj := aj, usr := cr.1, dR := cr.2.1, hst := H, hh := true, port := p, aN := rooted aj (s.drop (upto (special aj) s)) }
 | _, _ => none
def relative (rest : List UInt8) (b : U) : Option U :=
 if pq (special b.aj) rest 0 = true ∧ pq (special b.aj) rest 1 = true then
  authority b.aj (if special b.aj = true then (rest.drop 2).dropWhile (fP true) else rest.drop 2)
 else some (if pq (special b.aj) rest 0 = true then { aG b with aN := rooted b.aj rest }
  else if rest = [] then along (aG b) b
  else { aG b with aN := walk b.aj (lG false b.aN) rest })
def uF : U := { U0 with aj := FILE, hh := true, port := -1 }
def far (s : List UInt8) : Option U :=
 if drv (s.take (upto true s)) = true then some { uF with aN := rooted FILE s }
 else if s.take (upto true s) = [] then some { uF with aN := rooted FILE (s.drop (upto true s)) }
 else match hst (s.take (upto true s)) true with
 | none => none
 | some H => some { uF with hst := if H = LOCAL then [] else H, aN := rooted FILE (s.drop (upto true s)) }
def file (rest : List UInt8) (base : Option U) : Option U :=
 if pq true rest 0 = true ∧ pq true rest 1 = true then far (rest.drop 2)
 else if pq true rest 0 = true then some { (base.elim uF aG) with aN := walk FILE (if nrm ((base.elim [] U.aN).head?.elim [] fun x => x.data.toList) = true ∧ Fp (rest.drop 1) = false then (base.elim [] U.aN).take 1 else []) (rest.drop 1) }
 else match base with
 | none => some { uF with aN := walk FILE (if Fp rest = true then [] else lG true []) rest }
 | some b => if rest = [] then some (along (aG b) b) else some { aG b with aN := walk FILE (if Fp rest = true then [] else lG true b.aN) rest }
def opq (more : Bool) (s : List UInt8) : List UInt8 := if Lib.hasSuffix (aJ.enc 0 s) [32] = true ∧ more = true then Lib.trimSuffix (aJ.enc 0 s) [32] ++ [37, 50, 48] else aJ.enc 0 s
def plain (p : Parts) : Option U :=
 if Lib.hasPrefix p.rest [47, 47] = true then authority p.aj (p.rest.drop 2)
 else if Lib.hasPrefix p.rest [47] = true then some { U0 with aj := p.aj, port := -1, aN := rooted p.aj p.rest }
 else some { U0 with aj := p.aj, port := -1, opq := true, txt := opq (p.hq || p.hf) p.rest }
def pz (p : Parts) (b : U) : Option U := if p.rest ≠ [] ∨ p.hq = true ∨ p.hf = false then none else some b
def resolve (p : Parts) (base : Option U) : Option U :=
 if p.aj = FILE then file p.rest (base.filter fun b => b.aj = FILE)
 else if special p.aj = true then
  match base with
  | some b => if b.aj = p.aj ∧ Lib.hasPrefix p.rest [47, 47] = false then relative p.rest b else authority p.aj (p.rest.dropWhile (fP true))
  | none => authority p.aj (p.rest.dropWhile (fP true))
 else if p.aj ≠ [] then plain p
 else match base with
 | none => none
 | some b => if b.opq = true then pz p b else if b.aj = FILE then file p.rest (some b) else relative p.rest b
def finish (u : U) (p : Parts) : U :=
 let v := if p.hq = true then { u with hq := true, eF := aJ.enc (if special u.aj = true then 3 else 2) p.eF } else u
 if p.hf = true then { v with hf := true, fG := aJ.enc 1 p.fG } else v
def eU (c : UInt8) : Bool := decide (c.toNat ≤ 32)
def nI (L : List UInt8) : List UInt8 := ((L.dropWhile eU).reverse.dropWhile eU).reverse
def brk (c : UInt8) : Bool := decide (c = 9) || (decide (c = 10) || decide (c = 13))
def clean (L : List UInt8) : List UInt8 := (nI (xw.enc (uy.dec L))).filter fun c => !brk c
def url (s : List UInt8) (base : Option U) : Option U := (resolve (apart (clean s)) base).map fun u => finish u (apart (clean s))
def iR (w : World) (u : U) (A : Option Addr) (n c : Nat) : Prop := dS w A n (u.aN.map Value.string) ∧ n ≤ c ∧ c ≤ maxLen
theorem uH (b : UInt8) : ∀ L : List UInt8, Lib.cut L [b] = dV b L
 | [] => rfl
 | c :: L => by
  have ih := uH b L
  by_cases h : c = b
  ·subst h
   have : Lib.index (c :: L) [c] = 0 := by rw [Lib.index, if_pos (by simp [List.isPrefixOf])]
   unfold Lib.cut dV
   rw [this, if_pos rfl]
   rfl
  ·have hb : ¬ b = c := fun e => h e.symm
   have : Lib.index (c :: L) [b] = if Lib.index L [b] == -1 then -1 else Lib.index L [b] + 1 := by
    rw [Lib.index, if_neg (by simp [List.isPrefixOf, hb])]
   rw [dV, if_neg h, ← ih]
   unfold Lib.cut
   rw [this]
   have hge := Lib.index_ge L [b]
   by_cases hm : Lib.index L [b] = -1
   ·rw [hm]; rfl
   ·obtain ⟨j, hj⟩ : ∃ j : Nat, Lib.index L [b] = j := ⟨(Lib.index L [b]).toNat, by omega⟩
    have h1 : ((j : Int) == -1) = false := beq_eq_false_iff_ne.2 (by omega)
    rw [hj, h1, if_neg (by decide : ¬ (false = true))]
    have t1 : ((j : Int) + 1).toNat = j + 1 := by omega
    have t2 : ((j : Int)).toNat = j := by omega
    rw [if_pos (by omega : (0 : Int) ≤ (j : Int) + 1), if_pos (by omega : (0 : Int) ≤ (j : Int)), t1, t2]
    rfl
end Go.Proofs.YtcfgioklgmlclaaGreatDoor.aH
