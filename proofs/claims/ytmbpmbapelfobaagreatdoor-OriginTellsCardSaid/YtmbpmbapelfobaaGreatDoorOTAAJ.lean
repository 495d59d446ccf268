/- Lemmas. -/
import Derived.Test.YtmbpmbapelfobaaGreatDoorOTAAI
set_option linter.unusedSimpArgs false
set_option linter.unusedVariables false
set_option maxRecDepth 100000
set_option maxHeartbeats 64000000
namespace Go.Proofs.YtmbpmbapelfobaaGreatDoor
open Tryz
namespace aC
open Go.RowKit Base fA dw iy mJ ig fJ jq
structure U where
 au:List UInt8
 bT:List UInt8
 bW:List UInt8
 aS:List UInt8
 hh:Bool
 port:Int
 bP:Bool
 txt:List UInt8
 aF:List ByteArray
 hq:Bool
 hf:Bool
 bQ:List UInt8
 dY:List UInt8
def U0:U:=⟨[],[],[],[],false,0,false,[],[],false,false,[],[]⟩
def aT (b:UInt8):List UInt8→List UInt8×List UInt8×Bool
 |[]=>([],[],false)
 |c::L=>if c=b then([],L,true)else(c::(aT b L).1,(aT b L).2.1,(aT b L).2.2)
def nH (c:UInt8):Bool:=letter c.toNat||(digit c.toNat||(decide (c=43)||(decide (c=45)||decide (c=46))))
def iY:List UInt8→Bool
 |[]=>false
 |c::r=>letter c.toNat&&r.all nH
structure Parts where
 au:List UInt8
 rest:List UInt8
 bQ:List UInt8
 dY:List UInt8
 hq:Bool
 hf:Bool
def apart (s:List UInt8):Parts:=
 let f:=aT 35 s
 let q:=aT 63 f.1
 let c:=aT 58 q.1
 if (c.2.2&&iY c.1)=true then⟨lower c.1,c.2.1,q.2.1,f.2.1,q.2.2,f.2.2⟩else⟨[],q.1,q.2.1,f.2.1,q.2.2,f.2.2⟩
def aB:List UInt8:=[102,105,108,101]
def LOCAL:List UInt8:=[108,111,99,97,108,104,111,115,116]
def iL (sp:Bool) (s:List UInt8) (k:Nat):Bool:=match s[k]? with
 |some c=>bU sp c
 |none=>false
def walk (au:List UInt8) (l:List ByteArray) (s:List UInt8):List ByteArray:=wb (decide (au=aB)) (aj au) l [] s
def aG (au s:List UInt8):List ByteArray:=if s=[]∧aj au=false then[]else walk au [] (if iL (aj au) s 0=true then s.drop 1 else s)
def aN (b:U):U:={U0 with au:=b.au,bT:=b.bT,bW:=b.bW,aS:=b.aS,hh:=b.hh,port:=b.port}
def along (u b:U):U:={u with aF:=b.aF,hq:=b.hq,bQ:=b.bQ}
def fZ:List UInt8→Option (List UInt8×List UInt8)
 |[]=>none
 |c::L=>match fZ L with
  |some p=>some (c::p.1,p.2)
  |none=>if c=64 then some ([],L)else none
def jZ:Bool→List UInt8→List UInt8×List UInt8×Bool
 |_,[]=>([],[],false)
 |i,c::L=>
  if c=58∧i=false then([],L,true)
  else(c::(jZ (if c=91 then true else if c=93 then false else i) L).1,(jZ (if c=91 then true else if c=93 then false else i) L).2.1,(jZ (if c=91 then true else if c=93 then false else i) L).2.2)
def jW (c:UInt8):Bool:=digit c.toNat
def jX (d:List UInt8):Nat:=d.foldl (fun n c=>min (n*10+(c.toNat - 48)) 65536) 0
def prt (au d:List UInt8):Option Int:=if d=[]then some (-1)else if d.all jW=true then(if (jX d:Int)=iE au then some (-1)else if jX d≤65535 then some (jX d)else none)else none
def iV (s:List UInt8):List UInt8×List UInt8×List UInt8×Bool:=match fZ s with
 |none=>([],[],s,false)
 |some p=>(aP.enc 5 (aT 58 p.1).1,aP.enc 5 (aT 58 p.1).2.1,p.2,true)
def authority (au s:List UInt8):Option U:=
 let lN:=s.take (upto (aj au) s)
 let cr:=iV lN
 if cr.2.2.2=true∧cr.2.2.1=[]then none else
 let h:=jZ false cr.2.2.1
 if h.2.2=true∧h.1=[]then none else
 match aS h.1 (aj au),prt au h.2.1 with
 |some H,some p=>some {U0 with au:=au,bT:=cr.1,bW:=cr.2.1,aS:=H,hh:=true,port:=p,aF:=aG au (s.drop (upto (aj au) s))}
 |_,_=>none
def dO (rest:List UInt8) (b:U):Option U:=
 if iL (aj b.au) rest 0=true∧iL (aj b.au) rest 1=true then
  authority b.au (if aj b.au=true then(rest.drop 2).dropWhile (bU true)else rest.drop 2)
 else some (if iL (aj b.au) rest 0=true then {aN b with aF:=aG b.au rest}
  else if rest=[]then along (aN b) b
  else {aN b with aF:=walk b.au (jd false b.aF) rest})
def uF:U:={U0 with au:=aB,hh:=true,port:= -1}
def far (s:List UInt8):Option U:=
 if mO (s.take (upto true s))=true then some {uF with aF:=aG aB s}
 else if s.take (upto true s)=[]then some {uF with aF:=aG aB (s.drop (upto true s))}
 else match aS (s.take (upto true s)) true with
 |none=>none
 |some H=>some {uF with aS:=if H=LOCAL then[]else H,aF:=aG aB (s.drop (upto true s))}
def file (rest:List UInt8) (base:Option U):Option U:=
 if iL true rest 0=true∧iL true rest 1=true then far (rest.drop 2)
 else if iL true rest 0=true then some {(base.elim uF aN)with aF:=walk aB (if wG ((base.elim [] U.aF).head?.elim [] fun x=>x.data.toList)=true∧pR (rest.drop 1)=false then(base.elim [] U.aF).take 1 else[]) (rest.drop 1)}
 else match base with
 |none=>some {uF with aF:=walk aB (if pR rest=true then[]else jd true []) rest}
 |some b=>if rest=[]then some (along (aN b) b)else some {aN b with aF:=walk aB (if pR rest=true then[]else jd true b.aF) rest}
def bP (more:Bool) (s:List UInt8):List UInt8:=if Lib.hasSuffix (aP.enc 0 s) [32]=true∧more=true then Lib.trimSuffix (aP.enc 0 s) [32]++[37,50,48]else aP.enc 0 s
def plain (p:Parts):Option U:=
 if Lib.hasPrefix p.rest [47,47]=true then authority p.au (p.rest.drop 2)
 else if Lib.hasPrefix p.rest [47]=true then some {U0 with au:=p.au,port:= -1,aF:=aG p.au p.rest}
 else some {U0 with au:=p.au,port:= -1,bP:=true,txt:=bP (p.hq||p.hf) p.rest}
def jw (p:Parts) (b:U):Option U:=if p.rest≠[]∨p.hq=true∨p.hf=false then none else some b
def resolve (p:Parts) (base:Option U):Option U:=
 if p.au=aB then file p.rest (base.filter fun b=>b.au=aB)
 else if aj p.au=true then
  match base with
  |some b=>if b.au=p.au∧Lib.hasPrefix p.rest [47,47]=false then dO p.rest b else authority p.au (p.rest.dropWhile (bU true))
  |none=>authority p.au (p.rest.dropWhile (bU true))
 else if p.au≠[]then plain p
 else match base with
 |none=>none
 |some b=>if b.bP=true then jw p b else if b.au=aB then file p.rest (some b)else dO p.rest b
def finish (u:U) (p:Parts):U:=
 let v:=if p.hq=true then {u with hq:=true,bQ:=aP.enc (if aj u.au=true then 3 else 2) p.bQ}else u
 if p.hf=true then {v with hf:=true,dY:=aP.enc 1 p.dY}else v
def cu (c:UInt8):Bool:=decide (c.toNat≤32)
def sJ (L:List UInt8):List UInt8:=((L.dropWhile cu).reverse.dropWhile cu).reverse
def brk (c:UInt8):Bool:=decide (c=9)||(decide (c=10)||decide (c=13))
def clean (L:List UInt8):List UInt8:=(sJ (uj.enc (sO.dec L))).filter fun c=> !brk c
def url (s:List UInt8) (base:Option U):Option U:=(resolve (apart (clean s)) base).map fun u=>finish u (apart (clean s))
def fK (w:World) (u:U) (A:Option Addr) (n c:Nat):Prop:=dW w A n (u.aF.map Value.string)∧n≤c∧c≤maxLen
theorem vX (b:UInt8):∀L:List UInt8,Lib.cut L [b]=aT b L
 |[]=>rfl
 | c :: L => by
  have f:=vX b L
  by_cases h:c=b
  ·subst h
   have:Lib.index (c::L) [c]=0:=by rw[Lib.index,if_pos (by simp[List.isPrefixOf])]
   unfold Lib.cut aT
   rw[this,if_pos rfl]
   rfl
  ·have k:¬b=c:=fun e=>h e.symm
   have:Lib.index (c::L) [b]=if Lib.index L [b]== -1 then -1 else Lib.index L [b]+1:=by
    rw[Lib.index,if_neg (by simp[List.isPrefixOf,k])]
   rw[aT,if_neg h,←f];unfold Lib.cut;rw[this];have i:=Lib.index_ge L [b];by_cases hm:Lib.index L [b]= -1
   ·rw[hm];rfl
   ·obtain⟨j,g⟩:∃j:Nat,Lib.index L [b]=j:=⟨(Lib.index L [b]).toNat,by omega⟩;have l:((j:Int)== -1)=false:=beq_eq_false_iff_ne.2 (by omega);rw[g,l,if_neg (by decide:¬(false=true))];have d:((j:Int)+1).toNat=j+1:=by omega
    have a:((j:Int)).toNat=j:=by omega
    rw[if_pos (by omega:(0:Int)≤(j:Int)+1),if_pos (by omega:(0:Int)≤(j:Int)),d,a];rfl
end aC
