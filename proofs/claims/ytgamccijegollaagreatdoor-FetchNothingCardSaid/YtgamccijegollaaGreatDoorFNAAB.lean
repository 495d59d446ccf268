/- Texts that belong together: wu. -/
import Derived.Test.YtgamccijegollaaGreatDoorFNAAA
import Derived.Lib.IndexMore
set_option linter.unusedSimpArgs false
set_option linter.unusedVariables false
set_option maxRecDepth 100000
set_option maxHeartbeats 64000000
namespace Go.Proofs.YtgamccijegollaaGreatDoor.wu
open Go.RowKit Base dI oO
def dJ:List UInt8→List (List UInt8)
 |[]=>[[]]
 |c::L=>if c=58 then[]::dJ L else match dJ L with
  |[]=>[[c]]
  |x::r=>(c::x)::r
theorem kF:∀L:List UInt8,dJ L≠[]
 |[]=>by simp[dJ]
 |c::L=>by
  unfold dJ
  split
  ·simp
  ·split<;>simp
theorem fP (L:List UInt8):dJ (58::L)=[]::dJ L:=by rw[dJ,if_pos rfl]
theorem jk {c:UInt8} (h:c≠58) (L:List UInt8):∃x r,dJ L=x::r∧dJ (c::L)=(c::x)::r:=by
 cases e:dJ L with
 |nil=>exact absurd e (kF L)
 |cons x r=>exact⟨x,r,rfl,by rw[dJ,if_neg h,e]⟩
theorem Dz (L:List UInt8):(dJ L).length≤L.length+1:=by
 induction L with
 |nil=>simp[dJ]
 |cons c L ih=>
  by_cases h:c=58
  ·subst h;rw[fP];simp;omega
  obtain⟨x,r,e,e2⟩:=jk h L
  rw[e]at ih
  rw[e2]
  simp at ih⊢
  omega
theorem EZ:∀(L:List UInt8),∀x ∈ dJ L,x.length≤L.length
 |[],x,h=>by simp[dJ]at h;subst h;simp
 |c::L,x,h=>by
  by_cases hc:c=58
  ·subst hc
   rw[fP]at h
   rcases List.mem_cons.1 h with rfl|h
   ·simp
   ·have:=EZ L x h;simp;omega
  ·obtain⟨y,r,e,e2⟩:=jk hc L
   rw[e2]at h
   rcases List.mem_cons.1 h with rfl|h
   ·have:=EZ L y (by rw[e];simp);simp;omega
   ·have:=EZ L x (by rw[e];simp[h]);simp;omega
def piece (p:List UInt8):Option Nat:=if 1≤p.length∧p.length≤4∧eu 16 p=true then some (val 16 p)else none
def small (p:List UInt8):Option Nat:=if 1≤p.length∧p.length≤3∧¬(1<p.length∧p.head?=some 48)∧eu 10 p=true∧val 10 p≤255 then some (val 10 p)else none
def smalls:List (List UInt8)→Option (List Nat)
 |[]=>some []
 |p::r=>match small p,smalls r with
  |some n,some l=>some (n::l)
  |_,_=>none
def two:List Nat→Option (List Nat)
 |[a,b,c,d]=>some [a*256+b,c*256+d]
 |_=>none
def lN (p:List UInt8):Option (List Nat):=(smalls (bZ p)).bind two
def iT (e : Bool) : List (List UInt8) → Option (List Nat)
 |[]=>some []
 |p::r=>if e=true∧r=[]∧p.contains 46=true then lN p else match piece p with
  |none=>none
  |some n=>match iT e r with
   |none=>none
   |some l=>some (n::l)
def gJ (e:Bool) (ps:List (List UInt8)):Option (List Nat):=if ps=[[]]then some []else iT e ps
def BQ:List UInt8→Option (List UInt8×List UInt8)
 |[]=>none
 |[_]=>none
 |a::b::r=>if a=58∧b=58 then some ([],r)else match BQ (b::r)with
  |none=>none
  |some p=>some (a::p.1,p.2)
def fill (a b:List Nat):List Nat:=a++List.replicate (8 - (a.length+b.length)) 0++b
def both (x y:Option (List Nat)) (l:List Nat):Option (List Nat):=match x,y with
 |some a,some b=>if l.length+a.length+b.length<8 then some (fill (l++a) b)else none
 |_,_=>none
def eight (x:Option (List Nat)) (l:List Nat):Option (List Nat):=match x with
 |some a=>if l.length+a.length=8 then some (l++a)else none
 |none=>none
def six (s:List UInt8):Option (List Nat):=match BQ s with
 |none=>eight (iT true (dJ s)) []
 |some p=>both (gJ false (dJ p.1)) (gJ true (dJ p.2)) []
theorem arN {l x:List Nat} (h:two l=some x):x.length=2:=by
 unfold two at h
 split at h
 ·injection h with h;subst h;rfl
 cases h
theorem Jm {p:List UInt8} {x:List Nat} (h:lN p=some x):x.length=2:=by
 unfold lN at h
 cases e:smalls (bZ p)with
 |none=>rw[e]at h;cases h
 |some l=>rw[e]at h;exact arN h
theorem oD (e:Bool) {ps:List (List UInt8)} (h:ps≠[[]]):gJ e ps=iT e ps:=if_neg h
end Go.Proofs.YtgamccijegollaaGreatDoor.wu
