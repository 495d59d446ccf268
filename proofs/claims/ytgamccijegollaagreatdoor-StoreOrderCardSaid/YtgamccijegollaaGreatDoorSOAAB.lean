/- Texts that belong together: wu. -/
import Derived.Test.YtgamccijegollaaGreatDoorSOAAA
import Derived.Lib.IndexMore
set_option linter.unusedSimpArgs false
set_option linter.unusedVariables false
set_option maxRecDepth 100000
set_option maxHeartbeats 64000000
namespace Go.Proofs.YtgamccijegollaaGreatDoor.wu
open Go.RowKit Base dI oO
def dJ:List UInt8→List (List UInt8)
 |[]=>[[]]
 |c::L=>if c=58 then[]::dJ L else match dJ L with
  |[]=>[[c]]
  |x::r=>(c::x)::r
theorem kF:∀L:List UInt8,dJ L≠[]
 |[]=>by simp[dJ]
 |c::L=>by
  unfold dJ
  split
  ·simp
  ·split<;>simp
theorem fP (L:List UInt8):dJ (58::L)=[]::dJ L:=by rw[dJ,if_pos rfl]
theorem jk {c:UInt8} (h:c≠58) (L:List UInt8):∃x r,dJ L=x::r∧dJ (c::L)=(c::x)::r:=by
 cases e:dJ L with
 |nil=>exact absurd e (kF L)
 |cons x r=>exact⟨x,r,rfl,by rw[dJ,if_neg h,e]⟩
theorem AP:∀(p:List UInt8),(∀c ∈ p,c≠58)→dJ p=[p]
 |[],_=>rfl
 |c::p,h=>by
  obtain⟨x,r,e,e2⟩:=jk (h c (by simp)) p
  rw[AP p fun d hd=>h d (by simp[hd])]at e
  injection e with e3 e4
  rw[e2,←e3,←e4]
theorem zu:∀(p L:List UInt8),(∀c ∈ p,c≠58)→dJ (p++58::L)=p::dJ L
 |[],L,_=>fP L
 |c::p,L,h=>by
  obtain⟨x,r,e,e2⟩:=jk (h c (by simp)) (p++58::L)
  rw[zu p L fun d hd=>h d (by simp[hd])]at e
  injection e with e3 e4
  rw[List.cons_append,e2,←e3,←e4]
theorem Dz (L:List UInt8):(dJ L).length≤L.length+1:=by
 induction L with
 |nil=>simp[dJ]
 |cons c L ih=>
  by_cases h:c=58
  ·subst h;rw[fP];simp;omega
  obtain⟨x,r,e,e2⟩:=jk h L
  rw[e]at ih
  rw[e2]
  simp at ih⊢
  omega
theorem EZ:∀(L:List UInt8),∀x ∈ dJ L,x.length≤L.length
 |[],x,h=>by simp[dJ]at h;subst h;simp
 |c::L,x,h=>by
  by_cases hc:c=58
  ·subst hc
   rw[fP]at h
   rcases List.mem_cons.1 h with rfl|h
   ·simp
   ·have:=EZ L x h;simp;omega
  ·obtain⟨y,r,e,e2⟩:=jk hc L
   rw[e2]at h
   rcases List.mem_cons.1 h with rfl|h
   ·have:=EZ L y (by rw[e];simp);simp;omega
   ·have:=EZ L x (by rw[e];simp[h]);simp;omega
def piece (p:List UInt8):Option Nat:=if 1≤p.length∧p.length≤4∧eu 16 p=true then some (val 16 p)else none
def small (p:List UInt8):Option Nat:=if 1≤p.length∧p.length≤3∧¬(1<p.length∧p.head?=some 48)∧eu 10 p=true∧val 10 p≤255 then some (val 10 p)else none
def smalls:List (List UInt8)→Option (List Nat)
 |[]=>some []
 |p::r=>match small p,smalls r with
  |some n,some l=>some (n::l)
  |_,_=>none
def two:List Nat→Option (List Nat)
 |[a,b,c,d]=>some [a*256+b,c*256+d]
 |_=>none
def lN (p:List UInt8):Option (List Nat):=(smalls (bZ p)).bind two
def iT (e : Bool) : List (List UInt8) → Option (List Nat)
 |[]=>some []
 |p::r=>if e=true∧r=[]∧p.contains 46=true then lN p else match piece p with
  |none=>none
  |some n=>match iT e r with
   |none=>none
   |some l=>some (n::l)
def gJ (e:Bool) (ps:List (List UInt8)):Option (List Nat):=if ps=[[]]then some []else iT e ps
def BQ:List UInt8→Option (List UInt8×List UInt8)
 |[]=>none
 |[_]=>none
 |a::b::r=>if a=58∧b=58 then some ([],r)else match BQ (b::r)with
  |none=>none
  |some p=>some (a::p.1,p.2)
def fill (a b:List Nat):List Nat:=a++List.replicate (8 - (a.length+b.length)) 0++b
def both (x y:Option (List Nat)) (l:List Nat):Option (List Nat):=match x,y with
 |some a,some b=>if l.length+a.length+b.length<8 then some (fill (l++a) b)else none
 |_,_=>none
def eight (x:Option (List Nat)) (l:List Nat):Option (List Nat):=match x with
 |some a=>if l.length+a.length=8 then some (l++a)else none
 |none=>none
def six (s:List UInt8):Option (List Nat):=match BQ s with
 |none=>eight (iT true (dJ s)) []
 |some p=>both (gJ false (dJ p.1)) (gJ true (dJ p.2)) []
def FC:List (List UInt8)→Option (List (List UInt8)×List (List UInt8))
 |[]=>none
 |[_]=>none
 |p::q::r=>if p=[]then some ([],q::r)else match FC (q::r)with
  |none=>none
  |some x=>some (p::x.1,x.2)
def adB:List (List UInt8)→Option (List (List UInt8)×List (List UInt8))
 |[]=>none
 |p::r=>match FC r with
  |none=>none
  |some x=>some (p::x.1,x.2)
theorem Ql (p:List UInt8) (hp:p≠[]) (r:List (List UInt8)):FC (p::r)=adB (p::r):=by
 cases r with
 |nil=>rfl
 |cons q r=>rw[FC,if_neg hp];rfl
theorem IK (r:List (List UInt8)) (hr:r≠[]):FC ([]::r)=some ([],r):=by
 cases r with
 |nil=>exact absurd rfl hr
 |cons q r=>rw[FC,if_pos rfl]
theorem KA:∀s:List UInt8,adB (dJ s)=match BQ s with
  |none=>none
  |some p=>some (dJ p.1,dJ p.2)
 |[]=>rfl
 |[c]=>by
  by_cases h:c=58
  ·subst h;rfl
  ·obtain⟨x,r,e,e2⟩:=jk h []
   rw[e2]
   simp[dJ]at e
   rw[e.2]
   rfl
 | a ::b::r=>by
  have ih:=KA (b::r)
  rw[BQ]
  by_cases ha:a=58
  ·subst ha
   rw[fP]
   by_cases hb:b=58
   ·subst hb
    rw[if_pos ⟨rfl,rfl⟩,fP]
    show(match FC ([]::dJ r)with|none=>none|some x=>some ([]::x.1,x.2))=_
    rw[IK _ (kF r)]
    rfl
   ·rw[if_neg (by simp[hb])]
    obtain⟨x,t,e,e2⟩:=jk hb r
    rw[e2]at ih⊢
    show(match FC ((b::x)::t)with|none=>none|some x=>some ([]::x.1,x.2))=_
    rw[Ql _ (by simp),ih]
    cases hc:BQ (b::r)with
    |none=>rfl
    |some p=>simp[fP]
  ·rw [if_neg (by simp [ha])]
   obtain⟨x,t,e,e2⟩:=jk ha (b::r)
   rw[e]at ih
   rw[e2]
   replace ih:(match FC t with|none=>none|some y=>some (x::y.1,y.2))=_:=ih
   show(match FC t with|none=>none|some y=>some ((a::x)::y.1,y.2))=_
   cases hc:BQ (b::r)with
   |none=>
    rw[hc]at ih
    cases hf:FC t with
    |none=>rfl
    |some y=>rw[hf]at ih;simp at ih
   |some p=>
    rw[hc]at ih
    cases hf:FC t with
    |none=>rw[hf]at ih;simp at ih
    |some y=>
     rw[hf]at ih
     simp at ih⊢
     obtain⟨u,v,f1,f2⟩:=jk ha p.1
     rw[f2]
     rw[f1]at ih
     injection ih.1 with g1 g2
     exact⟨by rw[g1,g2],ih.2⟩
theorem arN {l x:List Nat} (h:two l=some x):x.length=2:=by
 unfold two at h
 split at h
 ·injection h with h;subst h;rfl
 cases h
theorem Jm {p:List UInt8} {x:List Nat} (h:lN p=some x):x.length=2:=by
 unfold lN at h
 cases e:smalls (bZ p)with
 |none=>rw[e]at h;cases h
 |some l=>rw[e]at h;exact arN h
theorem oD (e:Bool) {ps:List (List UInt8)} (h:ps≠[[]]):gJ e ps=iT e ps:=if_neg h
end Go.Proofs.YtgamccijegollaaGreatDoor.wu
