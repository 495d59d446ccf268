/- Texts that belong together: wS. -/
import Derived.Test.YtgamccijegollaaGreatDoorSOAAF
import Derived.Test.YtgamccijegollaaGreatDoorSOAAG
set_option linter.unusedSimpArgs false
set_option linter.unusedVariables false
set_option maxRecDepth 100000
set_option maxHeartbeats 64000000
namespace Go.Proofs.YtgamccijegollaaGreatDoor.wS
open Go.RowKit Base cO dI acA acG acD aco acJ
structure U where
 au:List UInt8
 usr:List UInt8
 MX:List UInt8
 hst:List UInt8
 hh:Bool
 port:Int
 opq:Bool
 txt:List UInt8
 aO:List ByteArray
 hq:Bool
 hf:Bool
 dY:List UInt8
 fB:List UInt8
def U0:U:=⟨[],[],[],[],false,0,false,[],[],false,false,[],[]⟩
def fG (b:UInt8):List UInt8→List UInt8×List UInt8×Bool
 |[]=>([],[],false)
 |c::L=>if c=b then([],L,true)else(c::(fG b L).1,(fG b L).2.1,(fG b L).2.2)
def NT (c:UInt8):Bool:=letter c.toNat||(digit c.toNat||(decide (c=43)||(decide (c=45)||decide (c=46))))
def lI:List UInt8→Bool
 |[]=>false
 |c::r=>letter c.toNat&&r.all NT
structure Parts where
 au:List UInt8
 rest:List UInt8
 dY:List UInt8
 fB:List UInt8
 hq:Bool
 hf:Bool
def apart (s:List UInt8):Parts:=
 let f:=fG 35 s
 let q:=fG 63 f.1
 let c:=fG 58 q.1
 if (c.2.2&&lI c.1)=true then⟨lower c.1,c.2.1,q.2.1,f.2.1,q.2.2,f.2.2⟩else⟨[],q.1,q.2.1,f.2.1,q.2.2,f.2.2⟩
def FILE:List UInt8:=[102,105,108,101]
def LOCAL:List UInt8:=[108,111,99,97,108,104,111,115,116]
def rU (sp:Bool) (s:List UInt8) (k:Nat):Bool:=match s[k]? with
 |some c=>gB sp c
 |none=>false
def walk (au:List UInt8) (l:List ByteArray) (s:List UInt8):List ByteArray:=wb (decide (au=FILE)) (special au) l [] s
def rooted (au s:List UInt8):List ByteArray:=if s=[]∧special au=false then[]else walk au [] (if rU (special au) s 0=true then s.drop 1 else s)
def aH (b:U):U:={U0 with au:=b.au,usr:=b.usr,MX:=b.MX,hst:=b.hst,hh:=b.hh,port:=b.port}
def along (u b:U):U:={u with aO:=b.aO,hq:=b.hq,dY:=b.dY}
def nV:List UInt8→Option (List UInt8×List UInt8)
 |[]=>none
 |c::L=>match nV L with
  |some p=>some (c::p.1,p.2)
  |none=>if c=64 then some ([],L)else none
def hap:Bool→List UInt8→List UInt8×List UInt8×Bool
 |_,[]=>([],[],false)
 |i,c::L=>
  if c=58∧i=false then([],L,true)
  else(c::(hap (if c=91 then true else if c=93 then false else i) L).1,(hap (if c=91 then true else if c=93 then false else i) L).2.1,(hap (if c=91 then true else if c=93 then false else i) L).2.2)
def Fz (c:UInt8):Bool:=digit c.toNat
def FH (d:List UInt8):Nat:=d.foldl (fun n c=>min (n*10+(c.toNat - 48)) 65536) 0
def prt (au d:List UInt8):Option Int:=if d=[]then some (-1)else if d.all Fz=true then(if (FH d:Int)=portOf au then some (-1)else if FH d≤65535 then some (FH d)else none)else none
def jL (s:List UInt8):List UInt8×List UInt8×List UInt8×Bool:=match nV s with
 |none=>([],[],s,false)
 |some p=>(FM.enc 5 (fG 58 p.1).1,FM.enc 5 (fG 58 p.1).2.1,p.2,true)
def authority (au s:List UInt8):Option U:=
 let whom:=s.take (upto (special au) s)
 let cr:=jL whom
 if cr.2.2.2=true∧cr.2.2.1=[]then none else
 let h:=hap false cr.2.2.1
 if h.2.2=true∧h.1=[]then none else
 match hst h.1 (special au),prt au h.2.1 with
 |some H,some p=>some {U0 with au:=au,usr:=cr.1,MX:=cr.2.1,hst:=H,hh:=true,port:=p,aO:=rooted au (s.drop (upto (special au) s))}
 |_,_=>none
def relative (rest:List UInt8) (b:U):Option U:=
 if rU (special b.au) rest 0=true∧rU (special b.au) rest 1=true then
  authority b.au (if special b.au=true then(rest.drop 2).dropWhile (gB true)else rest.drop 2)
 else some (if rU (special b.au) rest 0=true then {aH b with aO:=rooted b.au rest}
  else if rest=[]then along (aH b) b
  else {aH b with aO:=walk b.au (mM false b.aO) rest})
def uF:U:={U0 with au:=FILE,hh:=true,port:= -1}
def far (s:List UInt8):Option U:=
 if drv (s.take (upto true s))=true then some {uF with aO:=rooted FILE s}
 else if s.take (upto true s)=[]then some {uF with aO:=rooted FILE (s.drop (upto true s))}
 else match hst (s.take (upto true s)) true with
 |none=>none
 |some H=>some {uF with hst:=if H=LOCAL then[]else H,aO:=rooted FILE (s.drop (upto true s))}
def file (rest:List UInt8) (base:Option U):Option U:=
 if rU true rest 0=true∧rU true rest 1=true then far (rest.drop 2)
 else if rU true rest 0=true then some {(base.elim uF aH)with aO:=walk FILE (if nrm ((base.elim [] U.aO).head?.elim [] fun x=>x.data.toList)=true∧JR (rest.drop 1)=false then(base.elim [] U.aO).take 1 else[]) (rest.drop 1)}
 else match base with
 |none=>some {uF with aO:=walk FILE (if JR rest=true then[]else mM true []) rest}
 |some b=>if rest=[]then some (along (aH b) b)else some {aH b with aO:=walk FILE (if JR rest=true then[]else mM true b.aO) rest}
def opq (more:Bool) (s:List UInt8):List UInt8:=if Lib.hasSuffix (FM.enc 0 s) [32]=true∧more=true then Lib.trimSuffix (FM.enc 0 s) [32]++[37,50,48]else FM.enc 0 s
def plain (p:Parts):Option U:=
 if Lib.hasPrefix p.rest [47,47]=true then authority p.au (p.rest.drop 2)
 else if Lib.hasPrefix p.rest [47]=true then some {U0 with au:=p.au,port:= -1,aO:=rooted p.au p.rest}
 else some {U0 with au:=p.au,port:= -1,opq:=true,txt:=opq (p.hq||p.hf) p.rest}
def rY (p:Parts) (b:U):Option U:=if p.rest≠[]∨p.hq=true∨p.hf=false then none else some b
def resolve (p:Parts) (base:Option U):Option U:=
 if p.au=FILE then file p.rest (base.filter fun b=>b.au=FILE)
 else if special p.au=true then
  match base with
  |some b=>if b.au=p.au∧Lib.hasPrefix p.rest [47,47]=false then relative p.rest b else authority p.au (p.rest.dropWhile (gB true))
  |none=>authority p.au (p.rest.dropWhile (gB true))
 else if p.au≠[]then plain p
 else match base with
 |none=>none
 |some b=>if b.opq=true then rY p b else if b.au=FILE then file p.rest (some b)else relative p.rest b
def finish (u:U) (p:Parts):U:=
 let v:=if p.hq=true then {u with hq:=true,dY:=FM.enc (if special u.au=true then 3 else 2) p.dY}else u
 if p.hf=true then {v with hf:=true,fB:=FM.enc 1 p.fB}else v
def fO (c:UInt8):Bool:=decide (c.toNat≤32)
def ru (L:List UInt8):List UInt8:=((L.dropWhile fO).reverse.dropWhile fO).reverse
def brk (c:UInt8):Bool:=decide (c=9)||(decide (c=10)||decide (c=13))
def clean (L:List UInt8):List UInt8:=(ru (BI.enc (qh.dec L))).filter fun c=> !brk c
def url (s:List UInt8) (base:Option U):Option U:=(resolve (apart (clean s)) base).map fun u=>finish u (apart (clean s))
def dR (w:World) (u:U) (A:Option Addr) (n c:Nat):Prop:=aY w A n (u.aO.map Value.string)∧n≤c∧c≤maxLen
theorem yG (b:UInt8):∀L:List UInt8,Lib.cut L [b]=fG b L
 |[]=>rfl
 | c :: L => by
  have ih:=yG b L
  by_cases h:c=b
  ·subst h
   have:Lib.index (c::L) [c]=0:=by rw[Lib.index,if_pos (by simp[List.isPrefixOf])]
   unfold Lib.cut fG
   rw[this,if_pos rfl]
   rfl
  ·have hb:¬b=c:=fun e=>h e.symm
   have:Lib.index (c::L) [b]=if Lib.index L [b]== -1 then -1 else Lib.index L [b]+1:=by
    rw[Lib.index,if_neg (by simp[List.isPrefixOf,hb])]
   rw[fG,if_neg h,←ih]
   unfold Lib.cut
   rw[this]
   have hge:=Lib.index_ge L [b]
   by_cases hm:Lib.index L [b]= -1
   ·rw[hm];rfl
   ·obtain⟨j,hj⟩:∃j:Nat,Lib.index L [b]=j:=⟨(Lib.index L [b]).toNat,by omega⟩
    have h1:((j:Int)== -1)=false:=beq_eq_false_iff_ne.2 (by omega)
    rw[hj,h1,if_neg (by decide:¬(false=true))]
    have t1:((j:Int)+1).toNat=j+1:=by omega
    have t2:((j:Int)).toNat=j:=by omega
    rw[if_pos (by omega:(0:Int)≤(j:Int)+1),if_pos (by omega:(0:Int)≤(j:Int)),t1,t2]
    rfl
end Go.Proofs.YtgamccijegollaaGreatDoor.wS
