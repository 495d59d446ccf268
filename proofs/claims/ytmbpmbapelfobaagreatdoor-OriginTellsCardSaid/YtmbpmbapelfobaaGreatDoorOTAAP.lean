/- Lemmas. -/
import Derived.Test.YtmbpmbapelfobaaGreatDoorOTAAO
set_option linter.unusedSimpArgs false
set_option linter.unusedVariables false
set_option maxRecDepth 100000
set_option maxHeartbeats 64000000
namespace Go.Proofs.YtmbpmbapelfobaaGreatDoor
open Tryz
namespace jY
open Go.RowKit fA dw iy mJ jr ig fJ jq aC
structure M where
 p:Int
 st:Nat
 buf:List UInt8
 u:U
 sign:Bool
 inn:Bool
 pass:Bool
def cc:List UInt8→UInt8
 |[]=>0
 |c::_=>c
def kR (sp:Bool):List UInt8→Bool
 |[]=>false
 |c::_=>bU sp c
def bY:List UInt8→Bool
 |[]=>true
 |c::_=>decide (c=63)||decide (c=35)
def two (R:List UInt8):Bool:=Lib.hasPrefix R [47,47]
def mv (m:M) (s:Nat) (b:Bool):M:={m with st:=s,p:=if b=true then m.p - 1 else m.p}
def fail (m:M):M:={m with st:=19}
def tail (m:M):List UInt8→M
 |[]=>m
 |c::_=>if c=63 then mv {m with u:={m.u with hq:=true,bQ:=[]}} 17 false else if c=35 then mv {m with u:={m.u with hf:=true,dY:=[]}} 18 false else m
def begin' (m:M):M:={mv m 8 false with buf:=[]}
def lN (b:U) (m:M):M:={m with u:={m.u with bT:=b.bT,bW:=b.bW,hh:=b.hh,aS:=b.aS,port:=b.port}}
def sp (m:M):Bool:=aj m.u.au
def eX (base:Option U) (m:M) (R:List UInt8):M:=
 if R≠[]∧nH (cc R)=true then {m with buf:=m.buf++lower [cc R]}
 else if R=[]∨cc R≠58 then {m with buf:=[],p:= -1,st:=2}
 else
  let n:M:={m with u:={m.u with au:=m.buf},buf:=[]}
  if m.buf=aB then mv n 11 false
  else if aj m.buf=true∧(base.elim false fun b=>decide (b.au=m.buf))=true then mv n 3 false
  else if aj m.buf=true then mv n 7 false
  else if (R.drop 1).head?=some 47 then mv {n with p:=n.p+1} 4 false
  else mv {n with u:={n.u with bP:=true}} 16 false
def wO (base:Option U) (m:M) (R:List UInt8):M:=
 match base with
 |none=>fail m
 |some b=>if b.bP=true∧(R=[]∨cc R≠35)then fail m
  else if b.bP=true then tail {m with u:={m.u with au:=b.au,bP:=true,txt:=b.txt,hq:=b.hq,bQ:=b.bQ}} R
  else if b.au≠aB then mv m 5 true else mv m 11 true
def lJ (b:U) (m:M) (R:List UInt8):M:=
 let n:M:={m with u:={m.u with au:=b.au}}
 if kR (aj b.au) R=true then mv n 6 false
 else
  let v:=lN b n
  let k:M:={v with u:={v.u with aF:=b.aF,hq:=b.hq,bQ:=b.bQ}}
  if bY R=true then tail k R else mv {k with u:={k.u with hq:=false,bQ:=[],aF:=jd false b.aF}} 15 true
def jc (b:U) (m:M) (R:List UInt8):M:=
 if sp m=true∧kR (sp m) R=true then mv m 7 false
 else if kR (sp m) R=true then begin' m
 else mv (lN b m) 15 true
def Dy (m:M) (R:List UInt8):M:=if kR (sp m) R=false∨sp m=false then {begin' m with p:=m.p - 1}else m
def gZ:List UInt8→M→M
 |[],m=>m
 |c::L,m=>if c=58∧m.pass=false then gZ L {m with pass:=true}else if m.pass=true then gZ L {m with u:={m.u with bW:=m.u.bW++aP.enc 5 [c]}}else gZ L {m with u:={m.u with bT:=m.u.bT++aP.enc 5 [c]}}
def kK (m:M) (R:List UInt8):M:=
 if bY R=false∧cc R=64 then
  {gZ (if m.sign=true then[37,52,48]++m.buf else m.buf) {m with sign:=true}with buf:=[]}
 else if bY R=true∨kR (sp m) R=true then
  if m.sign=true∧m.buf=[]then fail m else {m with p:=m.p - m.buf.length - 1,buf:=[],st:=9}
 else {m with buf:=m.buf++[cc R]}
def meet (m:M):M:={m with u:={m.u with hh:=true,aS:=(aS m.buf (sp m)).getD []},buf:=[]}
def met (m:M):Bool:=(aS m.buf (sp m)).isSome
def kL (m:M) (R:List UInt8):M:=
 if bY R=false∧cc R=58∧m.inn=false then
  if m.buf=[]then fail m else if met m=false then fail (meet m)else mv (meet m) 10 false
 else if bY R=true∨kR (sp m) R=true then
  if sp m=true∧m.buf=[]then fail m else if met m=false then fail (meet m)else mv (meet m) 14 true
 else {m with inn:=if cc R=93 then false else if cc R=91 then true else m.inn,buf:=m.buf++[cc R]}
def gW (m:M) (R:List UInt8):M:=
 if bY R=false∧jW (cc R)=true then {m with buf:=m.buf++[cc R]}
 else if bY R=false∧kR (sp m) R=false then fail m
 else if m.buf=[]then mv m 14 true
 else if 65535<jX m.buf then fail m
 else mv {m with u:={m.u with port:=if (jX m.buf:Int)=iE m.u.au then -1 else jX m.buf},buf:=[]} 14 true
def jh (base:Option U) (m:M) (R:List UInt8):M:=
 let n:M:={m with u:={m.u with au:=aB,hh:=true,aS:=[]}}
 if kR true R=true then mv n 12 false
 else match base.filter fun b=>b.au=aB with
 |none=>mv n 15 true
 |some b=>
  let k:M:={n with u:={n.u with aS:=b.aS,aF:=b.aF,hq:=b.hq,bQ:=b.bQ}}
  if bY R=true then tail k R else mv {k with u:={k.u with hq:=false,bQ:=[],aF:=if pR R=true then[]else jd true b.aF}} 15 true
def dN (base:Option U) (m:M) (R:List UInt8):M:=
 if kR (sp m) R=true then mv m 13 false
 else match base.filter fun b=>b.au=aB with
 |none=>mv m 15 true
 |some b=>mv {m with u:={m.u with aS:=b.aS,aF:=if pR R=false∧wG (b.aF.head?.elim [] fun x=>x.data.toList)=true then m.u.aF++b.aF.take 1 else m.u.aF}} 15 true
def dB (m:M) (R:List UInt8):M:=
 if bY R=false∧kR (sp m) R=false then {m with buf:=m.buf++[cc R]}
 else if mO m.buf=true then mv m 15 true
 else if m.buf=[]then mv m 14 true
 else if met m=false then fail (meet m)
 else mv {meet m with u:={(meet m).u with aS:=if (meet m).u.aS=LOCAL then[]else(meet m).u.aS}} 14 true
def dX (m:M) (R:List UInt8):M:=
 if sp m=true then mv m 15 (!kR true R)else if bY R=true then tail m R else mv m 15 (!kR false R)
def iF (m:M) (R:List UInt8):M:=
 if bY R=false∧kR (sp m) R=false then {m with buf:=m.buf++[cc R]}
 else tail {m with u:={m.u with aF:=sH (decide (m.u.au=aB)) (!kR (sp m) R) m.u.aF m.buf},buf:=[]} R
def qJ (m:M) (R:List UInt8):M:=
 if bY R=true then tail m R
 else if cc R=32∧(R.drop 1).head?.elim false (fun c=>decide (c=63)||decide (c=35))=true then {m with u:={m.u with txt:=m.u.txt++[37,50,48]}}
 else {m with u:={m.u with txt:=m.u.txt++aP.enc 0 [cc R]}}
def pI (m:M) (R:List UInt8):M:=
 if R≠[]∧cc R≠35 then {m with buf:=m.buf++[cc R]}
 else tail {m with u:={m.u with bQ:=aP.enc (if sp m=true then 3 else 2) m.buf},buf:=[]} R
def wM (m:M) (R:List UInt8):M:=
 if R≠[]then {m with buf:=m.buf++[cc R]}else {m with u:={m.u with dY:=aP.enc 1 m.buf},buf:=[]}
def kX (m:M) (R:List UInt8):M:=
 if letter (cc R).toNat=true∧R≠[]then mv {m with buf:=lower [cc R]} 1 false else mv m 2 true
def jA (m:M) (R:List UInt8):M:=if two R=true then mv {m with p:=m.p+1} 7 false else mv m 5 true
def kW (m:M) (R:List UInt8):M:=if cc R=47∧R≠[]then begin' m else mv m 15 true
def aX (base:Option U) (m:M) (R:List UInt8):M:=
 match m.st with
 |0=>kX m R
 |1=>eX base m R
 |2=>wO base m R
 |3=>jA m R
 |4=>kW m R
 |5=>lJ (base.getD U0) m R
 |6=>jc (base.getD U0) m R
 |7=>Dy m R
 |8=>kK m R
 |9=>kL m R
 |10=>gW m R
 |11=>jh base m R
 |12=>dN base m R
 |13=>dB m R
 |14=>dX m R
 |15=>iF m R
 |16=>qJ m R
 |17=>pI m R
 |18=>wM m R
 |_=>m
theorem ms0 {base:Option U} {m:M} {R:List UInt8} (h:m.st=0):aX base m R=kX m R:=by unfold aX;rw[h];rfl
theorem ms1 {base:Option U} {m:M} {R:List UInt8} (h:m.st=1):aX base m R=eX base m R:=by unfold aX;rw[h];rfl
theorem ms2 {base:Option U} {m:M} {R:List UInt8} (h:m.st=2):aX base m R=wO base m R:=by unfold aX;rw[h];rfl
theorem ms3 {base:Option U} {m:M} {R:List UInt8} (h:m.st=3):aX base m R=jA m R:=by unfold aX;rw[h];rfl
theorem ms4 {base:Option U} {m:M} {R:List UInt8} (h:m.st=4):aX base m R=kW m R:=by unfold aX;rw[h];rfl
theorem ms5 {base:Option U} {m:M} {R:List UInt8} (h:m.st=5):aX base m R=lJ (base.getD U0) m R:=by unfold aX;rw[h];rfl
theorem ms6 {base:Option U} {m:M} {R:List UInt8} (h:m.st=6):aX base m R=jc (base.getD U0) m R:=by unfold aX;rw[h];rfl
theorem ms7 {base:Option U} {m:M} {R:List UInt8} (h:m.st=7):aX base m R=Dy m R:=by unfold aX;rw[h];rfl
theorem ms8 {base:Option U} {m:M} {R:List UInt8} (h:m.st=8):aX base m R=kK m R:=by unfold aX;rw[h];rfl
theorem ms9 {base:Option U} {m:M} {R:List UInt8} (h:m.st=9):aX base m R=kL m R:=by unfold aX;rw[h];rfl
theorem ZE {base:Option U} {m:M} {R:List UInt8} (h:m.st=10):aX base m R=gW m R:=by unfold aX;rw[h];rfl
theorem WA {base:Option U} {m:M} {R:List UInt8} (h:m.st=11):aX base m R=jh base m R:=by unfold aX;rw[h];rfl
theorem ZF {base:Option U} {m:M} {R:List UInt8} (h:m.st=12):aX base m R=dN base m R:=by unfold aX;rw[h];rfl
theorem acD {base:Option U} {m:M} {R:List UInt8} (h:m.st=13):aX base m R=dB m R:=by unfold aX;rw[h];rfl
theorem afr {base:Option U} {m:M} {R:List UInt8} (h:m.st=14):aX base m R=dX m R:=by unfold aX;rw[h];rfl
theorem ZG {base:Option U} {m:M} {R:List UInt8} (h:m.st=15):aX base m R=iF m R:=by unfold aX;rw[h];rfl
theorem acE {base:Option U} {m:M} {R:List UInt8} (h:m.st=16):aX base m R=qJ m R:=by unfold aX;rw[h];rfl
theorem ZH {base:Option U} {m:M} {R:List UInt8} (h:m.st=17):aX base m R=pI m R:=by unfold aX;rw[h];rfl
theorem ZI {base:Option U} {m:M} {R:List UInt8} (h:m.st=18):aX base m R=wM m R:=by unfold aX;rw[h];rfl
inductive Out
 |stop (o:Option U)
 |go (m:M)
def ans (m:M):Option U:=if m.st=19 then none else some m.u
def out (S:List UInt8) (e:Bool) (m:M):Out:=if e=true∧(S.length:Int)≤m.p then .stop (ans m)else .go {m with p:=m.p+1}
def IE (S:List UInt8) (base:Option U) (m:M):Out:=
 if m.st=19 then .stop none
 else if m.p<0 then .go {m with p:=m.p+1}
 else out S (decide ((S.length:Int)≤m.p)) (aX base m (S.drop m.p.toNat))
inductive Run (S:List UInt8) (base:Option U):M→Option U→Prop
 |stop {m:M} {o:Option U} (h:IE S base m=.stop o):Run S base m o
 |go {m n:M} {o:Option U} (h:IE S base m=.go n) (r:Run S base n o):Run S base m o
def lY (S:List UInt8) (base:Option U):Out→Option U→Prop
 | .stop x,o=>x=o
 | .go m,o=>Run S base m o
theorem Run.of {S:List UInt8} {base:Option U} {m:M} {o:Option U} (h:lY S base (IE S base m) o):Run S base m o:=by
 match e:IE S base m,h with
 | .stop x,h=>exact .stop (by rw[e];exact congrArg _ h)
 | .go n,h=>exact .go e h
theorem bG {S:List UInt8} {base:Option U} {m:M} {o:Option U} {k:Nat} {R:List UInt8} (a:m.p=k) (f:k≤S.length) (c:S.drop k=R) (d:m.st≠19) (h:lY S base (out S (decide (R=[])) (aX base m R)) o):Run S base m o:=by
 refine .of ?_;have e:decide ((S.length:Int)≤m.p)=decide (R=[]):=by
  rw[←c,a,Bool.eq_iff_iff];simp only[decide_eq_true_eq,List.drop_eq_nil_iff];omega
 unfold IE;rw[if_neg d,if_neg (by omega),e,a,Int.toNat_natCast,c];exact h
theorem nC {S:List UInt8} {e:Bool} {m:M} (h:e=false∨m.p<S.length):out S e m=.go {m with p:=m.p+1}:=by
 unfold out;rw[if_neg];rintro⟨a,c⟩;rcases h with h|h
 ·rw[h]at a;cases a
 omega
theorem out_stop {S:List UInt8} {m:M} (h:(S.length:Int)≤m.p):out S true m=.stop (ans m):=by
 unfold out;rw[if_pos ⟨rfl,h⟩]
theorem lI (S:List UInt8) (base:Option U) (e:Bool) (m:M) (h:m.st=19):lY S base (out S e m) none:=by
 unfold out;split
 ·show ans m=none;unfold ans;rw[if_pos h]
 refine Run.stop ?_;unfold IE;rw[if_pos (by exact h)]
end jY
namespace fF
open Go.RowKit Base aV aC qB jY
structure K where
 g:Nat
 B:Nat
 T:List UInt8
 base:Option U
 A:Option Addr
 n:Nat
 c:Nat
 w0:World
def K.b (k:K):U:=k.base.getD {U0 with port:=0}
def K.has (k:K):Bool:=k.base.isSome
def K.qb (k:K):Value:=.slice k.A k.n k.c
def OX (k:K) (m:M) (q:Value):Array Value:=#[.string (ah k.T),.int .i64 m.p,.int .i64 (m.st:Int),.string (ah m.buf),.string (ah m.u.au),.string (ah m.u.bT),.string (ah m.u.bW),.string (ah m.u.aS),.bool m.u.hh,.int .i64 m.u.port,.bool m.u.bP,.string (ah m.u.txt),q,.bool m.u.hq,.bool m.u.hf,.string (ah m.u.bQ),.string (ah m.u.dY),.string (ah k.b.au),.string (ah k.b.bT),.string (ah k.b.bW),.string (ah k.b.aS),.bool k.b.hh,.int .i64 k.b.port,.bool k.b.bP,.string (ah k.b.txt),k.qb,.bool k.b.hq,.bool k.b.hf,.string (ah k.b.bQ),.string (ah k.b.dY),.bool k.has,.bool m.sign,.bool m.inn,.bool m.pass,.int .i64 0]
structure MX (k:K) (m:M) (q:Value) (w:World):Prop where
 row:w.heap[k.g]?=some (.cells (OX k m q) 48 (0,0))
 own:w.ownsRow k.B 9 1 q m.u.aF.length (m.u.aF.map Value.string)
 bD:Below k.B k.w0 w
 le:k.B≤k.g
structure KB (k:K):Prop where
 Ue:dW k.w0 k.A k.n (k.b.aF.map Value.string)
 nc:k.n≤k.c
 cm:k.c≤maxLen
 lo:k.w0.heap.size≤k.B
variable {k:K} {m:M} {q:Value} {w w':World}
theorem MX.lt (h:MX k m q w):k.g<w.heap.size:=(Array.getElem?_eq_some_iff.1 h.row).1
theorem MX.size (h:MX k m q w):k.B≤w.heap.size:=Nat.le_trans h.le (Nat.le_of_lt h.lt)
theorem MX.below (h:MX k m q w) (a:Below w.heap.size w w'):MX k m q w':=⟨(a.block _ h.lt).trans h.row,aY h.own a,h.bD.trans (a.mono h.size),h.le⟩
theorem dP {f:FuncId} {a:Array Value} {E:Ending} {Q:Ending→World→Prop} (h:Hid (MX k m q w)) (c:Calls prog f a w fun e w'=>e=E∧Below w.heap.size w w') (g:∀w',Hid (MX k m q w')→Q E w'):Calls prog f a w Q:=c.mono fun _ w' ⟨he,hb⟩=>he▸g w' (hid (h.below hb))
theorem jK {f:FuncId} {a:Array Value} {E:Ending} {Q:Ending→World→Prop} {d T:World→Prop} (c:Calls prog f a w fun e w'=>e=E∧d w'∧T w') (g:∀w',Hid (d w')→Q E w'):Calls prog f a w Q:=c.mono fun _ w' ⟨he,hm,_⟩=>he▸g w' (hid hm)
theorem MX.Ue (h:MX k m q w) (a:KB k):dW w k.A k.n (k.b.aF.map Value.string):=(a.Ue.below (w':=k.w0) (Below.refl _ _)).below (h.bD.mono a.lo)
theorem iD {v:Value} {n:Nat} {c:List Value} {C:Array Value} {x:Nat×Nat} (h:w.heap[k.g]?=some (.cells C 48 x)) (d:w.ownsRow k.B 9 1 v n c):v.ownBlock≠some k.g:=by
 rcases d.2 with⟨rfl,_⟩|⟨b,j,i,rfl,_,a,_⟩
 ·intro h;cases h
 intro e;injection e with e
 have f:b=k.g:=e;rw[f,h]at a;injection a with a
 injection a with h1 h2
 exact absurd h2 (by decide)
theorem gB {v x:Value} {n i:Nat} {c:List Value} (d:w.ownsRow k.B 9 1 v n c) (a:v.ownBlock≠some k.g):(w.setCell ⟨k.g,i,none⟩ x).ownsRow k.B 9 1 v n c:=by
 refine⟨d.1,?_⟩;rcases d.2 with h|⟨b,cap,cur,rfl,hB,hb,r⟩
 ·exact .inl h
 exact .inr ⟨b,cap,cur,rfl,hB,(heap_setCell_other w _ _ _ (fun e=>a (congrArg some e))).trans hb,r⟩
theorem MX.facts (h:MX k m q w):w.cell? ⟨k.g,0,none⟩=some (.string (ah k.T))∧w.cell? ⟨k.g,1,none⟩=some (.int .i64 m.p)∧w.cell? ⟨k.g,2,none⟩=some (.int .i64 (m.st:Int))∧w.cell? ⟨k.g,3,none⟩=some (.string (ah m.buf))∧w.cell? ⟨k.g,4,none⟩=some (.string (ah m.u.au))∧w.cell? ⟨k.g,5,none⟩=some (.string (ah m.u.bT))∧w.cell? ⟨k.g,6,none⟩=some (.string (ah m.u.bW))∧w.cell? ⟨k.g,7,none⟩=some (.string (ah m.u.aS))∧w.cell? ⟨k.g,8,none⟩=some (.bool m.u.hh)∧w.cell? ⟨k.g,9,none⟩=some (.int .i64 m.u.port)∧w.cell? ⟨k.g,10,none⟩=some (.bool m.u.bP)∧w.cell? ⟨k.g,11,none⟩=some (.string (ah m.u.txt))∧w.cell? ⟨k.g,12,none⟩=some (q)∧w.cell? ⟨k.g,13,none⟩=some (.bool m.u.hq)∧w.cell? ⟨k.g,14,none⟩=some (.bool m.u.hf)∧w.cell? ⟨k.g,15,none⟩=some (.string (ah m.u.bQ))∧w.cell? ⟨k.g,16,none⟩=some (.string (ah m.u.dY))∧w.cell? ⟨k.g,17,none⟩=some (.string (ah k.b.au))∧w.cell? ⟨k.g,18,none⟩=some (.string (ah k.b.bT))∧w.cell? ⟨k.g,19,none⟩=some (.string (ah k.b.bW))∧w.cell? ⟨k.g,20,none⟩=some (.string (ah k.b.aS))∧w.cell? ⟨k.g,21,none⟩=some (.bool k.b.hh)∧w.cell? ⟨k.g,22,none⟩=some (.int .i64 k.b.port)∧w.cell? ⟨k.g,23,none⟩=some (.bool k.b.bP)∧w.cell? ⟨k.g,24,none⟩=some (.string (ah k.b.txt))∧w.cell? ⟨k.g,25,none⟩=some (k.qb)∧w.cell? ⟨k.g,26,none⟩=some (.bool k.b.hq)∧w.cell? ⟨k.g,27,none⟩=some (.bool k.b.hf)∧w.cell? ⟨k.g,28,none⟩=some (.string (ah k.b.bQ))∧w.cell? ⟨k.g,29,none⟩=some (.string (ah k.b.dY))∧w.cell? ⟨k.g,30,none⟩=some (.bool k.has)∧w.cell? ⟨k.g,31,none⟩=some (.bool m.sign)∧w.cell? ⟨k.g,32,none⟩=some (.bool m.inn)∧w.cell? ⟨k.g,33,none⟩=some (.bool m.pass)∧w.cell? ⟨k.g,34,none⟩=some (.int .i64 0):=
 ⟨cell_of_row w k.g 0 _ _ _ h.row,cell_of_row w k.g 1 _ _ _ h.row,cell_of_row w k.g 2 _ _ _ h.row,cell_of_row w k.g 3 _ _ _ h.row,cell_of_row w k.g 4 _ _ _ h.row,cell_of_row w k.g 5 _ _ _ h.row,cell_of_row w k.g 6 _ _ _ h.row,cell_of_row w k.g 7 _ _ _ h.row,cell_of_row w k.g 8 _ _ _ h.row,cell_of_row w k.g 9 _ _ _ h.row,cell_of_row w k.g 10 _ _ _ h.row,cell_of_row w k.g 11 _ _ _ h.row,cell_of_row w k.g 12 _ _ _ h.row,cell_of_row w k.g 13 _ _ _ h.row,cell_of_row w k.g 14 _ _ _ h.row,cell_of_row w k.g 15 _ _ _ h.row,cell_of_row w k.g 16 _ _ _ h.row,cell_of_row w k.g 17 _ _ _ h.row,cell_of_row w k.g 18 _ _ _ h.row,cell_of_row w k.g 19 _ _ _ h.row,cell_of_row w k.g 20 _ _ _ h.row,cell_of_row w k.g 21 _ _ _ h.row,cell_of_row w k.g 22 _ _ _ h.row,cell_of_row w k.g 23 _ _ _ h.row,cell_of_row w k.g 24 _ _ _ h.row,cell_of_row w k.g 25 _ _ _ h.row,cell_of_row w k.g 26 _ _ _ h.row,cell_of_row w k.g 27 _ _ _ h.row,cell_of_row w k.g 28 _ _ _ h.row,cell_of_row w k.g 29 _ _ _ h.row,cell_of_row w k.g 30 _ _ _ h.row,cell_of_row w k.g 31 _ _ _ h.row,cell_of_row w k.g 32 _ _ _ h.row,cell_of_row w k.g 33 _ _ _ h.row,cell_of_row w k.g 34 _ _ _ h.row⟩
theorem MX.thaw (h:MX k m q w) (i:Nat):w.frozen? ⟨k.g,i,none⟩=false:=frozen_of_row w k.g i _ _ h.row
theorem MX.p (h:MX k m q w) (z:Int):MX k {m with p:=z} q (w.setCell ⟨k.g,1,none⟩ (.int .i64 z)):=⟨heap_setCell_same w k.g 1 _ _ _ h.row,gB h.own (iD h.row h.own),h.bD.setCell h.le _,h.le⟩
theorem MX.st (h:MX k m q w) (z:Nat):MX k {m with st:=z} q (w.setCell ⟨k.g,2,none⟩ (.int .i64 (z:Int))):=⟨heap_setCell_same w k.g 2 _ _ _ h.row,gB h.own (iD h.row h.own),h.bD.setCell h.le _,h.le⟩
theorem MX.buf (h:MX k m q w) (z:List UInt8):MX k {m with buf:=z} q (w.setCell ⟨k.g,3,none⟩ (.string (ah z))):=⟨heap_setCell_same w k.g 3 _ _ _ h.row,gB h.own (iD h.row h.own),h.bD.setCell h.le _,h.le⟩
theorem MX.sign (h:MX k m q w) (z:Bool):MX k {m with sign:=z} q (w.setCell ⟨k.g,31,none⟩ (.bool z)):=⟨heap_setCell_same w k.g 31 _ _ _ h.row,gB h.own (iD h.row h.own),h.bD.setCell h.le _,h.le⟩
theorem MX.inn (h:MX k m q w) (z:Bool):MX k {m with inn:=z} q (w.setCell ⟨k.g,32,none⟩ (.bool z)):=⟨heap_setCell_same w k.g 32 _ _ _ h.row,gB h.own (iD h.row h.own),h.bD.setCell h.le _,h.le⟩
theorem MX.pass (h:MX k m q w) (z:Bool):MX k {m with pass:=z} q (w.setCell ⟨k.g,33,none⟩ (.bool z)):=⟨heap_setCell_same w k.g 33 _ _ _ h.row,gB h.own (iD h.row h.own),h.bD.setCell h.le _,h.le⟩
theorem MX.AA (h:MX k m q w) (z:List UInt8):MX k {m with u:={m.u with au:=z}} q (w.setCell ⟨k.g,4,none⟩ (.string (ah z))):=⟨heap_setCell_same w k.g 4 _ _ _ h.row,gB h.own (iD h.row h.own),h.bD.setCell h.le _,h.le⟩
theorem MX.abI (h:MX k m q w) (z:List UInt8):MX k {m with u:={m.u with bT:=z}} q (w.setCell ⟨k.g,5,none⟩ (.string (ah z))):=⟨heap_setCell_same w k.g 5 _ _ _ h.row,gB h.own (iD h.row h.own),h.bD.setCell h.le _,h.le⟩
theorem MX.abH (h:MX k m q w) (z:List UInt8):MX k {m with u:={m.u with bW:=z}} q (w.setCell ⟨k.g,6,none⟩ (.string (ah z))):=⟨heap_setCell_same w k.g 6 _ _ _ h.row,gB h.own (iD h.row h.own),h.bD.setCell h.le _,h.le⟩
theorem MX.uf (h:MX k m q w) (z:List UInt8):MX k {m with u:={m.u with aS:=z}} q (w.setCell ⟨k.g,7,none⟩ (.string (ah z))):=⟨heap_setCell_same w k.g 7 _ _ _ h.row,gB h.own (iD h.row h.own),h.bD.setCell h.le _,h.le⟩
theorem MX.Uz (h:MX k m q w) (z:Bool):MX k {m with u:={m.u with hh:=z}} q (w.setCell ⟨k.g,8,none⟩ (.bool z)):=⟨heap_setCell_same w k.g 8 _ _ _ h.row,gB h.own (iD h.row h.own),h.bD.setCell h.le _,h.le⟩
theorem MX.Kr (h:MX k m q w) (z:Int):MX k {m with u:={m.u with port:=z}} q (w.setCell ⟨k.g,9,none⟩ (.int .i64 z)):=⟨heap_setCell_same w k.g 9 _ _ _ h.row,gB h.own (iD h.row h.own),h.bD.setCell h.le _,h.le⟩
theorem MX.Yi (h:MX k m q w) (z:Bool):MX k {m with u:={m.u with bP:=z}} q (w.setCell ⟨k.g,10,none⟩ (.bool z)):=⟨heap_setCell_same w k.g 10 _ _ _ h.row,gB h.own (iD h.row h.own),h.bD.setCell h.le _,h.le⟩
theorem MX.Yj (h:MX k m q w) (z:List UInt8):MX k {m with u:={m.u with txt:=z}} q (w.setCell ⟨k.g,11,none⟩ (.string (ah z))):=⟨heap_setCell_same w k.g 11 _ _ _ h.row,gB h.own (iD h.row h.own),h.bD.setCell h.le _,h.le⟩
theorem MX.NK (h:MX k m q w) (z:Bool):MX k {m with u:={m.u with hq:=z}} q (w.setCell ⟨k.g,13,none⟩ (.bool z)):=⟨heap_setCell_same w k.g 13 _ _ _ h.row,gB h.own (iD h.row h.own),h.bD.setCell h.le _,h.le⟩
theorem MX.aho (h:MX k m q w) (z:Bool):MX k {m with u:={m.u with hf:=z}} q (w.setCell ⟨k.g,14,none⟩ (.bool z)):=⟨heap_setCell_same w k.g 14 _ _ _ h.row,gB h.own (iD h.row h.own),h.bD.setCell h.le _,h.le⟩
theorem MX.vF (h:MX k m q w) (z:List UInt8):MX k {m with u:={m.u with bQ:=z}} q (w.setCell ⟨k.g,15,none⟩ (.string (ah z))):=⟨heap_setCell_same w k.g 15 _ _ _ h.row,gB h.own (iD h.row h.own),h.bD.setCell h.le _,h.le⟩
theorem MX.abG (h:MX k m q w) (z:List UInt8):MX k {m with u:={m.u with dY:=z}} q (w.setCell ⟨k.g,16,none⟩ (.string (ah z))):=⟨heap_setCell_same w k.g 16 _ _ _ h.row,gB h.own (iD h.row h.own),h.bD.setCell h.le _,h.le⟩
end fF
namespace vG
open Go.RowKit Base jY
theorem ae7 (g:Nat) (T:List UInt8) (j:Nat) (w:World) (c:w.cell? ⟨g,0,none⟩=some (.string (ah T))) (a:w.cell? ⟨g,1,none⟩=some (.int .i64 (j:Int))):
  Calls prog 16 #[.pointer (some ⟨g,0,none⟩)] w fun e w'=>e=.returned (.bool (decide ((T.length:Int)≤(j:Int))))∧Below w.heap.size w w':=by
 have z:(ah T).size=T.length:=ak T;go_enter func16,ntmps16;go_wp2
 go_quiet (fail)
 go_wp2;go_ret;exact⟨by first|rfl|simp,Base.below_drewN (Below.refl _ _) _⟩
theorem c_g (g:Nat) (T:List UInt8) (j:Nat) (w:World) (i:w.cell? ⟨g,0,none⟩=some (.string (ah T))) (q:w.cell? ⟨g,1,none⟩=some (.int .i64 (j:Int))):
  Calls prog 43 #[.pointer (some ⟨g,0,none⟩)] w fun e w'=>e=.returned (.int .u8 ((cc (T.drop j)).toNat:Int))∧Below w.heap.size w w':=by
 have z:(ah T).size=T.length:=ak T;by_cases h:T.length≤j
 ·have hi:(T.length:Int)≤(j:Int):=by omega
  have HC:Hid (cc (T.drop j)=0):=by show _=_;rw[List.drop_eq_nil_of_le h];rfl
  clear h;go_enter func43,ntmps43;go_wp2
  go_quiet (fail)
  go_wp2;go_ret;exact⟨by rw[HC.out];rfl,Base.below_drewN (Below.refl _ _) _⟩
 ·have d:j<T.length:=by omega
  have hi:¬(T.length:Int)≤(j:Int):=by omega
  have c:(j:Int)<(T.length:Int):=by omega
  obtain⟨x,hx⟩:∃x,x=T[j]:=⟨_,rfl⟩;have HC:Hid (cc (T.drop j)=x):=by show _=_;rw[List.drop_eq_getElem_cons d,hx];rfl
  obtain⟨X,a⟩:∃X,X=ah T:=⟨_,rfl⟩;have l:j<X.size:=by rw[a,z];exact d
  have f:(j:Int)<(X.size:Int):=by omega
  have sV:¬(X.size:Int)≤(j:Int):=by omega
  have k:X[j]=x:=by subst a;rw[hx];rfl
  rw[←a]at i;clear h a hx hi c z d;go_enter func43,ntmps43;go_wp2
  go_quiet (fail)
  have r:∀n,(w.drewN n).cell? ⟨g,0,none⟩=some (.string X):=fun n=>i;have m:∀n,(w.drewN n).cell? ⟨g,1,none⟩=some (.int .i64 (j:Int)):=fun n=>q;go_wp2
  go_quiet (fail)
  go_wp2;go_ret;exact⟨by rw[HC.out];first|rfl|simp,by first|exact Base.below_drewN (Base.below_drewN (Below.refl _ _) _) _|exact Base.below_drewN (Below.refl _ _) _⟩
end vG
namespace vO
open Go.RowKit Base aV fJ jY fF vG
variable {k:K} {m:M} {q:Value} {w:World} {j:Nat} {R:List UInt8}
theorem yZ (c:UInt8) (n:Nat) (h:n<256:=by decide):decide (c=UInt8.ofNat n)=decide (c.toNat=n):=by
 rw[Bool.eq_iff_iff];simp only[decide_eq_true_eq];constructor
 ·rintro rfl;exact UInt8.toNat_ofNat_of_lt h
 intro e;exact UInt8.toNat_inj.1 (e.trans (UInt8.toNat_ofNat_of_lt h).symm)
theorem VG (h:MX k m q w) (a:m.p=(j:Int)) (d:k.T.drop j=R):Calls prog 16 #[.pointer (some ⟨k.g,0,none⟩)] w fun e w'=>e=.returned (.bool (decide (R=[])))∧Below w.heap.size w w':=by
 obtain⟨i,f,_⟩:=h.facts;refine(ae7 k.g k.T j w i (a▸f)).mono ?_;rintro e w' ⟨rfl,c⟩;refine⟨?_,c⟩;have e:decide ((k.T.length:Int)≤(j:Int))=decide (R=[]):=by
  rw[←d,Bool.eq_iff_iff];simp only[decide_eq_true_eq,List.drop_eq_nil_iff];omega
 rw[e]
theorem c_x (h:MX k m q w) (a:m.p=(j:Int)) (c:k.T.drop j=R):Calls prog 43 #[.pointer (some ⟨k.g,0,none⟩)] w fun e w'=>e=.returned (.int .u8 ((cc R).toNat:Int))∧Below w.heap.size w w':=by
 obtain⟨f,d,_⟩:=h.facts;exact c▸c_g k.g k.T j w f (a▸d)
theorem Cb (h:MX k m q w):Calls prog 52 #[.pointer (some ⟨k.g,0,none⟩)] w fun e w'=>e=.returned (.bool (sp m))∧Below w.heap.size w w':=by
 obtain⟨_,_,_,_,d,_⟩:=h.facts;obtain⟨S,c⟩:∃S,S=ah m.u.au:=⟨_,rfl⟩;have f:Hid (aj S.data.toList=sp m):=by show _=_;rw[c];rfl
 obtain⟨g,a⟩:∃g,g=k.g:=⟨_,rfl⟩;rw[←c,←a]at d;rw[←a];rename_i x0 x1 x2 x3 x4;clear h c a x0 x1 x2 x3 x4;go_enter func52,ntmps52;go_wp2_with fail
 refine(oZ S w).mono ?_;rintro e i ⟨rfl,rfl⟩;go_wp2;go_ret;exact⟨by rw[f.out];rfl,Below.refl _ _⟩
theorem adp (h:MX k m q w) (r:m.p=(j:Int)) (t:k.T.drop j=R):
  Calls prog 112 #[.pointer (some ⟨k.g,0,none⟩)] w fun e w'=>e=.returned (.bool (bY R))∧Below w.heap.size w w':=by
 have y:Hid (∀w',Below w.heap.size w w'→Calls prog 16 #[.pointer (some ⟨k.g,0,none⟩)] w' fun e i=>e=.returned (.bool (decide (R=[])))∧Below w'.heap.size w' i):=fun w' f=>VG (h.below f) r t;have HC:Hid (∀w',Below w.heap.size w w'→Calls prog 43 #[.pointer (some ⟨k.g,0,none⟩)] w' fun e i=>e=.returned (.int .u8 ((cc R).toNat:Int))∧Below w'.heap.size w' i):=fun w' f=>c_x (h.below f) r t;have E:Hid (∀w',Below w.heap.size w w'→Calls prog 52 #[.pointer (some ⟨k.g,0,none⟩)] w' fun e i=>e=.returned (.bool (sp m))∧Below w'.heap.size w' i):=fun w' f=>Cb (h.below f);obtain⟨b,f⟩:∃b,b=decide (R=[]):=⟨_,rfl⟩;obtain⟨v,n⟩:∃v,v=(cc R).toNat:=⟨_,rfl⟩;obtain⟨s,x⟩:∃s,s=sp m:=⟨_,rfl⟩;obtain⟨g,l⟩:∃g,g=k.g:=⟨_,rfl⟩;rw[←f,←l]at y;rw[←n,←l]at HC;rw[←x,←l]at E;rw[←l];have z:Hid (bY R=(b||(decide (v=63)||decide (v=35)))):=by
  show _=_;rw[f,n]
  match R with
  |[]=>rfl
  |c::L=>show(decide (c=63)||decide (c=35))=(decide (c.toNat=63)||decide (c.toNat=35));rw[←yZ c 63,←yZ c 35];rfl
 rcases b with _|_
 ·by_cases h63:v=63
  ·subst h63;rw[show bY R=true from z.out];clear f n x l h r t;go_enter func112,ntmps112;go_wp2_with fail
   refine(y _ (Below.refl _ _)).mono ?_;rintro A i ⟨rfl,a⟩;have d:=hid a;clear a;go_wp2_with fail
   refine qV d (HC _ d) fun w3 HB3=>?_;go_wp2;go_ret;exact⟨aH (by first|rfl|simp[*]),HB3⟩
  ·by_cases h35:v=35
   ·subst h35;rw[show bY R=true from z.out];clear f n x l h r t;go_enter func112,ntmps112;go_wp2_with fail
    refine(y _ (Below.refl _ _)).mono ?_;rintro A i ⟨rfl,a⟩;have d:=hid a;clear a;go_wp2_with fail
    refine qV d (HC _ d) fun w3 HB3=>?_;go_wp2_with fail
    refine qV HB3 (HC _ HB3) fun w4 HB4=>?_;go_wp2;go_ret;exact⟨aH (by first|rfl|simp[*]),HB4⟩
   ·have B:Hid (bY R=false):=by show _=_;rw[z.out,decide_eq_false h63,decide_eq_false h35];rfl
    rw[B.out];have C:¬(v:Int)=63:=by omega
    have D:¬(v:Int)=35:=by omega
    clear f n x l h r t;go_enter func112,ntmps112;go_wp2_with fail
    refine(y _ (Below.refl _ _)).mono ?_;rintro A i ⟨rfl,a⟩;have d:=hid a;clear a;go_wp2_with fail
    refine qV d (HC _ d) fun w3 HB3=>?_;go_wp2_with fail
    refine qV HB3 (HC _ HB3) fun w4 HB4=>?_;go_wp2;go_ret;exact⟨aH (by first|rfl|simp[*]),HB4⟩
 ·rw[show bY R=true from z.out];clear f n x l h r t;go_enter func112,ntmps112;go_wp2_with fail
  refine(y _ (Below.refl _ _)).mono ?_;rintro A i ⟨rfl,a⟩;have d:=hid a;clear a;go_wp2;go_ret;exact⟨aH (by first|rfl|simp[*]),d⟩
theorem aaw (h:MX k m q w) (t:m.p=(j:Int)) (x:k.T.drop j=R):
  Calls prog 53 #[.pointer (some ⟨k.g,0,none⟩)] w fun e w'=>e=.returned (.bool (kR (sp m) R))∧Below w.heap.size w w':=by
 have z:Hid (∀w',Below w.heap.size w w'→Calls prog 16 #[.pointer (some ⟨k.g,0,none⟩)] w' fun e i=>e=.returned (.bool (decide (R=[])))∧Below w'.heap.size w' i):=fun w' f=>VG (h.below f) t x;have HC:Hid (∀w',Below w.heap.size w w'→Calls prog 43 #[.pointer (some ⟨k.g,0,none⟩)] w' fun e i=>e=.returned (.int .u8 ((cc R).toNat:Int))∧Below w'.heap.size w' i):=fun w' f=>c_x (h.below f) t x;have C:Hid (∀w',Below w.heap.size w w'→Calls prog 52 #[.pointer (some ⟨k.g,0,none⟩)] w' fun e i=>e=.returned (.bool (sp m))∧Below w'.heap.size w' i):=fun w' f=>Cb (h.below f);obtain⟨b,f⟩:∃b,b=decide (R=[]):=⟨_,rfl⟩;obtain⟨v,n⟩:∃v,v=(cc R).toNat:=⟨_,rfl⟩;obtain⟨s,r⟩:∃s,s=sp m:=⟨_,rfl⟩;obtain⟨g,l⟩:∃g,g=k.g:=⟨_,rfl⟩;rw[←f,←l]at z;rw[←n,←l]at HC;rw[←r,←l]at C;rw[←l];have A:Hid (kR (sp m) R=(!b&&(decide (v=47)||(s&&decide (v=92))))):=by
  show _=_;rw[f,n,r]
  match R with
  |[]=>rfl
  |c::L=>show(decide (c=47)||(sp m&&decide (c=92)))=(decide (c.toNat=47)||(sp m&&decide (c.toNat=92)));rw[←yZ c 47,←yZ c 92];rfl
 rcases b with _|_
 ·by_cases h47:v=47
  ·subst h47;rw[show kR (sp m) R=true from A.out];clear f n r l h t x;go_enter func53,ntmps53;go_wp2_with fail
   refine(z _ (Below.refl _ _)).mono ?_;rintro B i ⟨rfl,a⟩;have d:=hid a;clear a;go_wp2_with fail
   refine qV d (HC _ d) fun w3 HB3=>?_;go_wp2;go_ret;exact⟨aH (by first|rfl|simp[*]),HB3⟩
  ·have E:¬(v:Int)=47:=by omega
   rcases s with _|_
   ·have y:Hid (kR (sp m) R=false):=by show _=_;rw[A.out,decide_eq_false h47];rfl
    rw[y.out];clear f n r l h t x;go_enter func53,ntmps53;go_wp2_with fail
    refine(z _ (Below.refl _ _)).mono ?_;rintro B i ⟨rfl,a⟩;have d:=hid a;clear a;go_wp2_with fail
    refine qV d (HC _ d) fun w3 HB3=>?_;go_wp2_with fail
    refine qV HB3 (C _ HB3) fun w4 HB4=>?_;go_wp2;go_ret;exact⟨aH (by first|rfl|simp[*]),HB4⟩
   ·by_cases h92:v=92
    ·subst h92;rw[show kR (sp m) R=true from A.out];clear f n r l h t x;go_enter func53,ntmps53;go_wp2_with fail
     refine(z _ (Below.refl _ _)).mono ?_;rintro B i ⟨rfl,a⟩;have d:=hid a;clear a;go_wp2_with fail
     refine qV d (HC _ d) fun w3 HB3=>?_;go_wp2_with fail
     refine qV HB3 (C _ HB3) fun w4 HB4=>?_;go_wp2_with fail
     refine qV HB4 (HC _ HB4) fun w5 HB5=>?_;go_wp2;go_ret;exact⟨aH (by first|rfl|simp[*]),HB5⟩
    ·have y:Hid (kR (sp m) R=false):=by show _=_;rw[A.out,decide_eq_false h47,decide_eq_false h92];rfl
     rw[y.out];have D:¬(v:Int)=92:=by omega
     clear f n r l h t x;go_enter func53,ntmps53;go_wp2_with fail
     refine(z _ (Below.refl _ _)).mono ?_;rintro B i ⟨rfl,a⟩;have d:=hid a;clear a;go_wp2_with fail
     refine qV d (HC _ d) fun w3 HB3=>?_;go_wp2_with fail
     refine qV HB3 (C _ HB3) fun w4 HB4=>?_;go_wp2_with fail
     refine qV HB4 (HC _ HB4) fun w5 HB5=>?_;go_wp2;go_ret;exact⟨aH (by first|rfl|simp[*]),HB5⟩
 ·rw[show kR (sp m) R=false from A.out];clear f n r l h t x;go_enter func53,ntmps53;go_wp2_with fail
  refine(z _ (Below.refl _ _)).mono ?_;rintro B i ⟨rfl,a⟩;have d:=hid a;clear a;go_wp2;go_ret;exact⟨aH (by first|rfl|simp[*]),d⟩
theorem qL (h:MX k m q w) (i:Nat):Calls prog 110 #[.pointer (some ⟨k.g,0,none⟩),.int .i64 (i:Int)] w fun e w'=>e=.returned (.string (ah (k.T.drop i)))∧Below w.heap.size w w':=by
 obtain⟨j,_⟩:=h.facts;obtain⟨S,a⟩:∃S,S=ah k.T:=⟨_,rfl⟩;have z:S.size=k.T.length:=by rw[a];exact ak _
 obtain⟨g,c⟩:∃g,g=k.g:=⟨_,rfl⟩;rw[←a,←c]at j;rw[←c];by_cases hi:k.T.length≤i
 ·have d:Hid (ah (k.T.drop i)=ah []):=by show _=_;rw[List.drop_eq_nil_of_le hi]
  have f:(S.size:Int)≤(i:Int):=by omega
  clear h a c hi z;go_enter func110,ntmps110;go_wp2;go_ret;exact⟨by rw[d.out];rfl,Below.refl _ _⟩
 have d:Hid (ah (k.T.drop i)=S.extract i S.size):=by show _=_;rw[a,abL.str_rest _ _ (by omega)]
 have f:¬(S.size:Int)≤(i:Int):=by omega
 have l:(i:Int)≤(S.size:Int):=by omega
 have q3:i≤S.size:=by omega
 clear h a c hi z;go_enter func110,ntmps110;go_wp2;go_ret;exact⟨by rw[d.out];first|rfl|simp,Below.refl _ _⟩
theorem iP (h:MX k m q w) (d: -4611686018427387904≤m.p∧m.p≤4611686018427387904) (s:Nat) (b:Bool):Calls prog 46 #[.pointer (some ⟨k.g,0,none⟩),.int .i64 (s:Int),.bool b] w fun e w'=>e=.returned (.tuple #[])∧MX k (mv m s b) q w'∧w.heap.size≤w'.heap.size:=by
 obtain⟨y,x,v,_⟩:=h.facts;have i:=hid h;have n:=h.thaw 1;have l:=h.thaw 2;obtain⟨g,c⟩:∃g,g=k.g:=⟨_,rfl⟩;obtain⟨p,a⟩:∃p,p=m.p:=⟨_,rfl⟩;rw[←a,←c]at x;rw[←c]at n l v;rw[←c];have r: -4611686018427387904≤p:=a▸d.1;have t:p≤4611686018427387904:=a▸d.2;have j:=hid c;have f:=hid a;clear c a h y d;rcases b with _|_
 ·go_enter func46,ntmps46;go_wp2
  go_end0
  obtain rfl:=j.out;obtain rfl:=f.out;exact⟨rfl,i.st s,by rw[World.size_setCell];exact Nat.le_refl _⟩
 go_enter func46,ntmps46;go_wp2
 go_end0
 obtain rfl:=j.out;obtain rfl:=f.out;exact⟨rfl,(i.st s).p (m.p - 1),by rw[World.size_setCell,World.size_setCell];exact Nat.le_refl _⟩
end vO
namespace xQ
open Go.RowKit Base aV dJ aC jY fF vO
variable {k:K} {m:M} {q:Value} {w:World} {j:Nat} {R:List UInt8}
theorem _root_.Go.Proofs.YtmbpmbapelfobaaGreatDoor.fF.MX.x0 (h:MX k m q w):w.cell? ⟨k.g,0,none⟩=some (.string (ah k.T)):=cell_of_row w k.g 0 _ _ _ h.row
theorem _root_.Go.Proofs.YtmbpmbapelfobaaGreatDoor.fF.MX.x1 (h:MX k m q w):w.cell? ⟨k.g,1,none⟩=some (.int .i64 m.p):=cell_of_row w k.g 1 _ _ _ h.row
theorem _root_.Go.Proofs.YtmbpmbapelfobaaGreatDoor.fF.MX.x2 (h:MX k m q w):w.cell? ⟨k.g,2,none⟩=some (.int .i64 (m.st:Int)):=cell_of_row w k.g 2 _ _ _ h.row
theorem _root_.Go.Proofs.YtmbpmbapelfobaaGreatDoor.fF.MX.x3 (h:MX k m q w):w.cell? ⟨k.g,3,none⟩=some (.string (ah m.buf)):=cell_of_row w k.g 3 _ _ _ h.row
theorem _root_.Go.Proofs.YtmbpmbapelfobaaGreatDoor.fF.MX.x4 (h:MX k m q w):w.cell? ⟨k.g,4,none⟩=some (.string (ah m.u.au)):=cell_of_row w k.g 4 _ _ _ h.row
theorem _root_.Go.Proofs.YtmbpmbapelfobaaGreatDoor.fF.MX.x5 (h:MX k m q w):w.cell? ⟨k.g,5,none⟩=some (.string (ah m.u.bT)):=cell_of_row w k.g 5 _ _ _ h.row
theorem _root_.Go.Proofs.YtmbpmbapelfobaaGreatDoor.fF.MX.x6 (h:MX k m q w):w.cell? ⟨k.g,6,none⟩=some (.string (ah m.u.bW)):=cell_of_row w k.g 6 _ _ _ h.row
theorem _root_.Go.Proofs.YtmbpmbapelfobaaGreatDoor.fF.MX.x7 (h:MX k m q w):w.cell? ⟨k.g,7,none⟩=some (.string (ah m.u.aS)):=cell_of_row w k.g 7 _ _ _ h.row
theorem _root_.Go.Proofs.YtmbpmbapelfobaaGreatDoor.fF.MX.x8 (h:MX k m q w):w.cell? ⟨k.g,8,none⟩=some (.bool m.u.hh):=cell_of_row w k.g 8 _ _ _ h.row
theorem _root_.Go.Proofs.YtmbpmbapelfobaaGreatDoor.fF.MX.x9 (h:MX k m q w):w.cell? ⟨k.g,9,none⟩=some (.int .i64 m.u.port):=cell_of_row w k.g 9 _ _ _ h.row
theorem _root_.Go.Proofs.YtmbpmbapelfobaaGreatDoor.fF.MX.x10 (h:MX k m q w):w.cell? ⟨k.g,10,none⟩=some (.bool m.u.bP):=cell_of_row w k.g 10 _ _ _ h.row
theorem _root_.Go.Proofs.YtmbpmbapelfobaaGreatDoor.fF.MX.x11 (h:MX k m q w):w.cell? ⟨k.g,11,none⟩=some (.string (ah m.u.txt)):=cell_of_row w k.g 11 _ _ _ h.row
theorem _root_.Go.Proofs.YtmbpmbapelfobaaGreatDoor.fF.MX.x12 (h:MX k m q w):w.cell? ⟨k.g,12,none⟩=some (q):=cell_of_row w k.g 12 _ _ _ h.row
theorem _root_.Go.Proofs.YtmbpmbapelfobaaGreatDoor.fF.MX.x13 (h:MX k m q w):w.cell? ⟨k.g,13,none⟩=some (.bool m.u.hq):=cell_of_row w k.g 13 _ _ _ h.row
theorem _root_.Go.Proofs.YtmbpmbapelfobaaGreatDoor.fF.MX.x14 (h:MX k m q w):w.cell? ⟨k.g,14,none⟩=some (.bool m.u.hf):=cell_of_row w k.g 14 _ _ _ h.row
theorem _root_.Go.Proofs.YtmbpmbapelfobaaGreatDoor.fF.MX.x15 (h:MX k m q w):w.cell? ⟨k.g,15,none⟩=some (.string (ah m.u.bQ)):=cell_of_row w k.g 15 _ _ _ h.row
theorem _root_.Go.Proofs.YtmbpmbapelfobaaGreatDoor.fF.MX.x16 (h:MX k m q w):w.cell? ⟨k.g,16,none⟩=some (.string (ah m.u.dY)):=cell_of_row w k.g 16 _ _ _ h.row
theorem _root_.Go.Proofs.YtmbpmbapelfobaaGreatDoor.fF.MX.x17 (h:MX k m q w):w.cell? ⟨k.g,17,none⟩=some (.string (ah k.b.au)):=cell_of_row w k.g 17 _ _ _ h.row
theorem _root_.Go.Proofs.YtmbpmbapelfobaaGreatDoor.fF.MX.x18 (h:MX k m q w):w.cell? ⟨k.g,18,none⟩=some (.string (ah k.b.bT)):=cell_of_row w k.g 18 _ _ _ h.row
theorem _root_.Go.Proofs.YtmbpmbapelfobaaGreatDoor.fF.MX.x19 (h:MX k m q w):w.cell? ⟨k.g,19,none⟩=some (.string (ah k.b.bW)):=cell_of_row w k.g 19 _ _ _ h.row
theorem _root_.Go.Proofs.YtmbpmbapelfobaaGreatDoor.fF.MX.x20 (h:MX k m q w):w.cell? ⟨k.g,20,none⟩=some (.string (ah k.b.aS)):=cell_of_row w k.g 20 _ _ _ h.row
theorem _root_.Go.Proofs.YtmbpmbapelfobaaGreatDoor.fF.MX.x21 (h:MX k m q w):w.cell? ⟨k.g,21,none⟩=some (.bool k.b.hh):=cell_of_row w k.g 21 _ _ _ h.row
theorem _root_.Go.Proofs.YtmbpmbapelfobaaGreatDoor.fF.MX.x22 (h:MX k m q w):w.cell? ⟨k.g,22,none⟩=some (.int .i64 k.b.port):=cell_of_row w k.g 22 _ _ _ h.row
theorem _root_.Go.Proofs.YtmbpmbapelfobaaGreatDoor.fF.MX.x23 (h:MX k m q w):w.cell? ⟨k.g,23,none⟩=some (.bool k.b.bP):=cell_of_row w k.g 23 _ _ _ h.row
theorem _root_.Go.Proofs.YtmbpmbapelfobaaGreatDoor.fF.MX.x24 (h:MX k m q w):w.cell? ⟨k.g,24,none⟩=some (.string (ah k.b.txt)):=cell_of_row w k.g 24 _ _ _ h.row
theorem _root_.Go.Proofs.YtmbpmbapelfobaaGreatDoor.fF.MX.x25 (h:MX k m q w):w.cell? ⟨k.g,25,none⟩=some (k.qb):=cell_of_row w k.g 25 _ _ _ h.row
theorem _root_.Go.Proofs.YtmbpmbapelfobaaGreatDoor.fF.MX.x26 (h:MX k m q w):w.cell? ⟨k.g,26,none⟩=some (.bool k.b.hq):=cell_of_row w k.g 26 _ _ _ h.row
theorem _root_.Go.Proofs.YtmbpmbapelfobaaGreatDoor.fF.MX.x28 (h:MX k m q w):w.cell? ⟨k.g,28,none⟩=some (.string (ah k.b.bQ)):=cell_of_row w k.g 28 _ _ _ h.row
theorem _root_.Go.Proofs.YtmbpmbapelfobaaGreatDoor.fF.MX.x30 (h:MX k m q w):w.cell? ⟨k.g,30,none⟩=some (.bool k.has):=cell_of_row w k.g 30 _ _ _ h.row
theorem _root_.Go.Proofs.YtmbpmbapelfobaaGreatDoor.fF.MX.x31 (h:MX k m q w):w.cell? ⟨k.g,31,none⟩=some (.bool m.sign):=cell_of_row w k.g 31 _ _ _ h.row
theorem _root_.Go.Proofs.YtmbpmbapelfobaaGreatDoor.fF.MX.x32 (h:MX k m q w):w.cell? ⟨k.g,32,none⟩=some (.bool m.inn):=cell_of_row w k.g 32 _ _ _ h.row
theorem _root_.Go.Proofs.YtmbpmbapelfobaaGreatDoor.fF.MX.x33 (h:MX k m q w):w.cell? ⟨k.g,33,none⟩=some (.bool m.pass):=cell_of_row w k.g 33 _ _ _ h.row
theorem _root_.Go.Proofs.YtmbpmbapelfobaaGreatDoor.fF.MX.x34 (h:MX k m q w):w.cell? ⟨k.g,34,none⟩=some (.int .i64 0):=cell_of_row w k.g 34 _ _ _ h.row
theorem _root_.Go.Proofs.YtmbpmbapelfobaaGreatDoor.fF.MX.s34 (h:MX k m q w):MX k m q (w.setCell ⟨k.g,34,none⟩ (.int .i64 0)):=⟨heap_setCell_same w k.g 34 _ _ _ h.row,gB h.own (iD h.row h.own),h.bD.setCell h.le _,h.le⟩
theorem lD (h:MX k m q w) (a:m.p=(j:Int)) (d:k.T.drop j=R) {b:Bool} (c:decide (R=[])=b):Calls prog 16 #[.pointer (some ⟨k.g,0,none⟩)] w fun e w'=>e=.returned (.bool b)∧Below w.heap.size w w':=c▸VG h a d
theorem yC (h:MX k m q w) (c:m.p=(j:Int)) (d:k.T.drop j=R) {v:Nat} (a:(cc R).toNat=v):Calls prog 43 #[.pointer (some ⟨k.g,0,none⟩)] w fun e w'=>e=.returned (.int .u8 (v:Int))∧Below w.heap.size w w':=a▸c_x h c d
theorem dQ (h:MX k m q w) {b:Bool} (a:sp m=b):Calls prog 52 #[.pointer (some ⟨k.g,0,none⟩)] w fun e w'=>e=.returned (.bool b)∧Below w.heap.size w w':=a▸Cb h
theorem eH (h:MX k m q w) (a:m.p=(j:Int)) (d:k.T.drop j=R) {b:Bool} (c:bY R=b):Calls prog 112 #[.pointer (some ⟨k.g,0,none⟩)] w fun e w'=>e=.returned (.bool b)∧Below w.heap.size w w':=c▸adp h a d
theorem bK (h:MX k m q w) (a:m.p=(j:Int)) (d:k.T.drop j=R) {b:Bool} (c:kR (sp m) R=b):Calls prog 53 #[.pointer (some ⟨k.g,0,none⟩)] w fun e w'=>e=.returned (.bool b)∧Below w.heap.size w w':=c▸aaw h a d
theorem xq {c:UInt8} (n:Nat) (e:c.toNat=n) (h:n<256:=by decide):c=UInt8.ofNat n:=UInt8.toNat_inj.1 (e.trans (UInt8.toNat_ofNat_of_lt h).symm)
theorem um {c:UInt8} {n:Nat} (e:c.toNat≠n) (h:n<256:=by decide):¬c=UInt8.ofNat n:=by rintro rfl;exact e (UInt8.toNat_ofNat_of_lt h)
theorem nJ (h:MX k m q w) (y:m.p=(j:Int)) (z:k.T.drop j=R) (A:k.T.length≤4611686018427387904) (B:j≤k.T.length):Calls prog 111 #[.pointer (some ⟨k.g,0,none⟩)] w fun e w'=>e=.returned (.tuple #[])∧MX k (tail m R) q w'∧True:=by
 have d:=hid h;have l:=hid y;have i:=hid z;have E:Hid (-4611686018427387904≤m.p∧m.p≤4611686018427387904):=⟨by omega,by omega⟩;obtain⟨b,r⟩:∃b,decide (R=[])=b:=⟨_,rfl⟩;obtain⟨v,f⟩:∃v,(cc R).toNat=v:=⟨_,rfl⟩;have C:=hid r;have HV:=hid f;rcases b with _|_
 ·have D:Hid (R≠[]):=of_decide_eq_false r;by_cases h63:v=63
  ·subst h63;have s:Hid (tail m R=mv {m with u:={m.u with hq:=true,bQ:=[]}} 17 false):=by
    show _=_
    match R,D,f with
    |c::L,_,f=>exact if_pos (xq 63 f)
   clear r f;clear h y z A B;go_enter func111,ntmps111;go_wp2_with fail
   refine dP d (lD d l i C) fun w2 HM2=>?_;go_wp2_with fail
   refine dP HM2 (yC HM2 l i HV) fun w3 HM3=>?_;have V:=HM3.x13;have P:=HM3.x15;have I:=HM3.thaw 13;have G:=HM3.thaw 15;have a:=hid (HM3.NK true);have x:=hid (a.vF []);go_wp2_with fail
   refine jK (iP x E 17 false) fun w6 t=>?_;go_wp2;first|go_end0|((try simp only[Exit.inBlock,Exit.then]);refine eU rfl rfl ?_)
   exact⟨rfl,by rw[s.out];exact t,trivial⟩
  have J:¬(v:Int)=63:=by omega
  by_cases h35:v=35
  ·subst h35;have s:Hid (tail m R=mv {m with u:={m.u with hf:=true,dY:=[]}} 18 false):=by
    show _=_
    match R,D,f with
    |c::L,_,f=>exact(if_neg (um (c:=c) (n:=63) (by rw[show c.toNat=35 from f];decide))).trans (if_pos (xq 35 f))
   clear r f;clear h y z A B;go_enter func111,ntmps111;go_wp2_with fail
   refine dP d (lD d l i C) fun w2 HM2=>?_;go_wp2_with fail
   refine dP HM2 (yC HM2 l i HV) fun w3 HM3=>?_;go_wp2_with fail
   refine dP HM3 (yC HM3 l i HV) fun w4 a=>?_;have Q:=a.x14;have O:=a.x16;have H:=a.thaw 14;have F:=a.thaw 16;have x:=hid (a.aho true);have t:=hid (x.abG []);go_wp2_with fail
   refine jK (iP t E 18 false) fun w7 HM7=>?_;go_wp2;first|go_end0|((try simp only[Exit.inBlock,Exit.then]);refine eU rfl rfl ?_)
   exact⟨rfl,by rw[s.out];exact HM7,trivial⟩
  have N:¬(v:Int)=35:=by omega
  have s:Hid (tail m R=m):=by
   show _=_
   match R,D,f with
   |c::L,_,f=>exact(if_neg (um (c:=c) (n:=63) (by rw[show c.toNat=v from f];exact h63))).trans (if_neg (um (c:=c) (n:=35) (by rw[show c.toNat=v from f];exact h35)))
  clear r f;clear h y z A B;go_enter func111,ntmps111;go_wp2_with fail
  refine dP d (lD d l i C) fun w2 HM2=>?_;go_wp2_with fail
  refine dP HM2 (yC HM2 l i HV) fun w3 HM3=>?_;go_wp2_with fail
  refine dP HM3 (yC HM3 l i HV) fun w4 a=>?_;go_wp2;first|go_end0|((try simp only[Exit.inBlock,Exit.then]);refine eU rfl rfl ?_)
  exact⟨rfl,by rw[s.out];exact a,trivial⟩
 have s:Hid (tail m R=m):=by
  show _=_;rw[of_decide_eq_true r];rfl
 clear r f;clear h y z A B;go_enter func111,ntmps111;go_wp2_with fail
 refine dP d (lD d l i C) fun w2 HM2=>?_;go_wp2;first|go_end0|((try simp only[Exit.inBlock,Exit.then]);refine eU rfl rfl ?_)
 exact⟨rfl,by rw[s.out];exact HM2,trivial⟩
theorem DF (h:MX k m q w) (f: -4611686018427387904≤m.p∧m.p≤4611686018427387904):Calls prog 50 #[.pointer (some ⟨k.g,0,none⟩)] w fun e w'=>e=.returned (.tuple #[])∧MX k (begin' m) q w'∧True:=by
 have d:=hid h;have l:=hid f;clear h f;go_enter func50,ntmps50;go_wp2_with fail
 refine jK (iP d l 8 false) fun w2 HM2=>?_;have r:=HM2.x3;have j:=HM2.x34;have n:=HM2.thaw 3;have i:=HM2.thaw 34;have c:=hid (HM2.buf []);have a:=hid (c.s34);go_wp2
 go_end0
 exact⟨rfl,a,trivial⟩
theorem MG (h:MX k m q w) (t:m.p=(j:Int)) (y:k.T.drop j=R) (v:k.T.length≤4611686018427387904) (x:j≤k.T.length):Calls prog 61 #[.pointer (some ⟨k.g,0,none⟩)] w fun e w'=>e=.returned (.tuple #[])∧MX k (dX m R) q w'∧True:=by
 have c:=hid h;have n:=hid t;have i:=hid y;have B:Hid (-4611686018427387904≤m.p∧m.p≤4611686018427387904):=⟨by omega,by omega⟩;obtain⟨s,d⟩:∃s,sp m=s:=⟨_,rfl⟩;obtain⟨l,a⟩:∃l,kR (sp m) R=l:=⟨_,rfl⟩;obtain⟨o,f⟩:∃o,bY R=o:=⟨_,rfl⟩;have z:=hid d;have C:=hid a;have D:=hid f;have E:=hid x;have A:=hid v;rcases s with _|_
 ·rcases o with _|_
  ·have r:Hid (dX m R=mv m 15 (!l)):=by
    show _=_;unfold dX;rw[d]at a⊢;rw[f,a];rfl
   clear d a f;clear h t y v x;go_enter func61,ntmps61;go_wp2_with fail
   refine dP c (dQ c z) fun w2 HM2=>?_;go_wp2_with fail
   refine dP HM2 (eH HM2 n i D) fun w3 HM3=>?_;go_wp2_with fail
   refine dP HM3 (bK HM3 n i C) fun w4 HM4=>?_;go_wp2_with fail
   refine jK (iP HM4 B 15 (!l)) fun w5 HM5=>?_;go_wp2
   go_end0
   exact⟨rfl,by rw[r.out];exact HM5,trivial⟩
  have r:Hid (dX m R=tail m R):=by
   show _=_;unfold dX;rw[d,f];rfl
  clear d a f;clear h t y v x;go_enter func61,ntmps61;go_wp2_with fail
  refine dP c (dQ c z) fun w2 HM2=>?_;go_wp2_with fail
  refine dP HM2 (eH HM2 n i D) fun w3 HM3=>?_;go_wp2_with fail
  refine jK (nJ HM3 n i A E) fun w4 HM4=>?_;go_wp2
  go_end0
  exact⟨rfl,by rw[r.out];exact HM4,trivial⟩
 have r:Hid (dX m R=mv m 15 (!l)):=by
  show _=_;unfold dX;rw[d]at a⊢;rw[a];rfl
 clear d a f;clear h t y v x;go_enter func61,ntmps61;go_wp2_with fail
 refine dP c (dQ c z) fun w2 HM2=>?_;go_wp2_with fail
 refine dP HM2 (bK HM2 n i C) fun w3 HM3=>?_;go_wp2_with fail
 refine jK (iP HM3 B 15 (!l)) fun w4 HM4=>?_;go_wp2
 go_end0
 exact⟨rfl,by rw[r.out];exact HM4,trivial⟩
end xQ
namespace yw
open Go.RowKit Base aV dJ jq jY fF xQ
variable {k:K} {m:M} {q:Value} {w:World} {j:Nat} {R:List UInt8}
structure Dp:Prop where
 inn:∀(x:Int) (c:UInt8) (w:World),Calls prog 120 #[.int .i64 x,.int .u8 (c.toNat:Int)] w fun e w'=>e=.returned (.bool (jV.iC x c.toNat))∧w=w'
 host:∀(s:ByteArray) (b:Bool) (w:World),s.size≤900000→Calls prog 146 #[.string s,.bool b] w fun e w'=>e=.returned (jq.HV (aS s.data.toList b))∧Below w.heap.size w w'
theorem aad (dp:Dp) (h:MX k m q w) (Q:m.p=(j:Int)) (X:k.T.drop j=R) (V:k.T.length≤4611686018427387904) (W:j≤k.T.length) (v:m.buf.length≤900000):Calls prog 64 #[.pointer (some ⟨k.g,0,none⟩),.int .u8 ((cc R).toNat:Int)] w fun e w'=>e=.returned (.tuple #[])∧MX k (pI m R) q w'∧True:=by
 have i:=hid h;have E:=hid Q;have D:=hid X;obtain⟨B,A⟩:∃B,m.buf=B:=⟨_,rfl⟩;have y:=hid A;have x:Hid (B.length≤900000):=by show _≤_;rw[←A];exact v
 obtain⟨c,z⟩:∃c,c=cc R:=⟨_,rfl⟩;rw[←z];have G:=hid dp;have F:=hid V;have HJ:=hid W;obtain⟨s,I⟩:∃s,sp m=s:=⟨_,rfl⟩;have HS:=hid I;obtain⟨b,J⟩:∃b,decide (R=[])=b:=⟨_,rfl⟩;have HB:=hid J;by_cases ha:b=false∧c≠35
 ·obtain ⟨rfl,O⟩:=ha;have L:¬(c.toNat:Int)=35:=by intro e;exact O (UInt8.toNat_inj.1 (by show c.toNat=35;omega))
  have Y:Hid (pI m R={m with buf:=B++[c]}):=by
   show _=_;unfold pI;rw[if_pos ⟨of_decide_eq_false J,z▸O⟩,A,z]
  clear A z I J O v dp;clear h Q X V W;go_enter func64,ntmps64;go_wp2_with fail
  refine dP i (lD i E D HB) fun w2 HM2=>?_;go_wp2_with fail
  clear L;generalize ((c.toNat:Int) !=35)=g0;refine bf (by kernel_rfl) 11 [pg k.g 0,pg k.g 0,pg k.g 0,pg k.g 3,is (.string (ah B)),is (.int .u8 (c.toNat:Int)),row 1 (aU [c]),is (.string (ah [c])),is (.string (ah (B++[c]))),pg k.g 0,pg k.g 3] [[],[],[1],[1,2],[1,2,3],[],[5],[5,6],[1,2,3,4,5,6,7],[0],[0,9],[0,1,2,3,4,5,6,7,8,9,10]] (by kernel_rfl) ?_ ?_
  ·refine ⟨?_,?_,?_,?_,?_,?_,?_,?_,?_,?_,?_,trivial⟩;all_goals(intro t Z N hh K r;simp only[iQ,qQ,Act.put,Nat.reduceAdd,Nat.reduceEqDiff,reduceIte]at hh r⊢)
   iterate 4
    ·try simp only[hh]at r⊢
     clear hh;go_simp;exact r _ _ aZ rfl
   ·try simp only[hh]at r⊢
    clear hh;have l:=(HM2.below N).x3;rw[y.out]at l;go_simp;exact r _ _ aZ rfl
   ·try simp only[hh]at r⊢
    clear hh;go_simp;exact r _ _ aZ rfl
   ·try simp only[hh]at r⊢
    clear hh;go_simp;exact r _ _ ((Below.refl _ _).alloc (Nat.le_refl _) _) ⟨_,_,rfl,Nat.le_refl _,by decide,iT Z [c] 5 (0,0)⟩
   ·have e6:=hh.2.1;clear hh;obtain⟨A6,c6,e6,a4,a3,a0⟩:=e6;simp only[e6]at r⊢;have I:=bI 55 9 5 underlying55 underlying5 underlying9 _ c6 a0;go_simp;exact r _ _ aZ rfl
   ·try simp only[hh]at r⊢
    clear hh;have a2:(Op.stringOp .add (ah B) (ah [c])).run prog Z=.ok (.string (ah (B++[c]))) Z:=bH _ _ Z (by have:=x.out;simp;omega);go_simp;exact r _ _ aZ rfl
   iterate 2
    ·try simp only[hh]at r⊢
     clear hh;go_simp;exact r _ _ aZ rfl
  intro t Z N hh;have f8:=aO hh 8 (by decide);simp only[pick]at f8;replace f8:t 8=(.string (ah (B++[c]))):=f8;have C:=aO hh 10 (by decide);simp only[pick]at C;replace C:t 10=(.pointer (some ⟨k.g,3,none⟩)):=C;clear hh;simp only[iQ,qQ,Act.put,Nat.reduceAdd,Nat.reduceEqDiff,reduceIte];simp only[f8,C];have P:=hid (HM2.below N);have a1:=hid (P.buf (B++[c]));have H:=P.thaw 3;have l:=P.x3;go_wp2;first|go_end0|((try simp only[Exit.inBlock,Exit.then]);refine eU rfl rfl ?_)
  exact⟨rfl,by rw[Y.out];exact a1,trivial⟩
 have Y:Hid (pI m R=tail {m with u:={m.u with bQ:=aP.enc (if s=true then 3 else 2) B},buf:=[]} R):=by
  show _=_;unfold pI;rw[if_neg (fun h=>ha ⟨by rw[←J];exact decide_eq_false h.1,z▸h.2⟩),A,I]
 rcases s with _|_
 ·rcases b with _|_
  ·have L:(c.toNat:Int)=35:=by
    have:c=35:=by
     by_cases h:c=35
     ·exact h
     exact absurd ⟨rfl,h⟩ ha
    rw[this];rfl
   clear A z I J ha v dp;clear h Q X V W;go_enter func64,ntmps64;go_wp2_with fail
   refine dP i (lD i E D HB) fun w2 HM2=>?_;go_wp2_with fail
   refine dP HM2 (dQ HM2 HS) fun w3 HM3=>?_;have l:=HM3.x3;have a:=HM3.x15;have H:=HM3.thaw 3;have n:=HM3.thaw 15;rw[y.out]at l;go_wp2_with fail
   refine dP HM3 (AX.iw 2 (ah B) _ (by have:=x.out;rw[ak];omega) (fun c w=>G.inn _ c w)) fun w9 HM9=>?_;clear l;have l:=HM9.x3;clear a;have a:=HM9.x15;have H:=HM9.thaw 3;have n:=HM9.thaw 15;have f:=hid (HM9.vF (aP.enc 2 B));have d:=hid (f.buf []);go_wp2_with fail
   refine jK (nJ d E D F HJ) fun w12 HM12=>?_;go_wp2;first|go_end0|((try simp only[Exit.inBlock,Exit.then]);refine eU rfl rfl ?_)
   exact⟨rfl,by rw[Y.out];exact HM12,trivial⟩
  clear A z I J ha v dp;clear h Q X V W;go_enter func64,ntmps64;go_wp2_with fail
  refine dP i (lD i E D HB) fun w2 HM2=>?_;go_wp2_with fail
  refine dP HM2 (dQ HM2 HS) fun w3 HM3=>?_;have l:=HM3.x3;have a:=HM3.x15;have H:=HM3.thaw 3;have n:=HM3.thaw 15;rw[y.out]at l;go_wp2_with fail
  refine dP HM3 (AX.iw 2 (ah B) _ (by have:=x.out;rw[ak];omega) (fun c w=>G.inn _ c w)) fun w9 HM9=>?_;clear l;have l:=HM9.x3;clear a;have a:=HM9.x15;have H:=HM9.thaw 3;have n:=HM9.thaw 15;have f:=hid (HM9.vF (aP.enc 2 B));have d:=hid (f.buf []);go_wp2_with fail
  refine jK (nJ d E D F HJ) fun w12 HM12=>?_;go_wp2;first|go_end0|((try simp only[Exit.inBlock,Exit.then]);refine eU rfl rfl ?_)
  exact⟨rfl,by rw[Y.out];exact HM12,trivial⟩
 rcases b with _|_
 ·have L:(c.toNat:Int)=35:=by
   have:c=35:=by
    by_cases h:c=35
    ·exact h
    exact absurd ⟨rfl,h⟩ ha
   rw[this];rfl
  clear A z I J ha v dp;clear h Q X V W;go_enter func64,ntmps64;go_wp2_with fail
  refine dP i (lD i E D HB) fun w2 HM2=>?_;go_wp2_with fail
  refine dP HM2 (dQ HM2 HS) fun w3 HM3=>?_;have l:=HM3.x3;have a:=HM3.x15;have H:=HM3.thaw 3;have n:=HM3.thaw 15;rw[y.out]at l;go_wp2_with fail
  refine dP HM3 (AX.iw 3 (ah B) _ (by have:=x.out;rw[ak];omega) (fun c w=>G.inn _ c w)) fun w9 HM9=>?_;clear l;have l:=HM9.x3;clear a;have a:=HM9.x15;have H:=HM9.thaw 3;have n:=HM9.thaw 15;have f:=hid (HM9.vF (aP.enc 3 B));have d:=hid (f.buf []);go_wp2_with fail
  refine jK (nJ d E D F HJ) fun w12 HM12=>?_;go_wp2;first|go_end0|((try simp only[Exit.inBlock,Exit.then]);refine eU rfl rfl ?_)
  exact⟨rfl,by rw[Y.out];exact HM12,trivial⟩
 clear A z I J ha v dp;clear h Q X V W;go_enter func64,ntmps64;go_wp2_with fail
 refine dP i (lD i E D HB) fun w2 HM2=>?_;go_wp2_with fail
 refine dP HM2 (dQ HM2 HS) fun w3 HM3=>?_;have l:=HM3.x3;have a:=HM3.x15;have H:=HM3.thaw 3;have n:=HM3.thaw 15;rw[y.out]at l;go_wp2_with fail
 refine dP HM3 (AX.iw 3 (ah B) _ (by have:=x.out;rw[ak];omega) (fun c w=>G.inn _ c w)) fun w9 HM9=>?_;clear l;have l:=HM9.x3;clear a;have a:=HM9.x15;have H:=HM9.thaw 3;have n:=HM9.thaw 15;have f:=hid (HM9.vF (aP.enc 3 B));have d:=hid (f.buf []);go_wp2_with fail
 refine jK (nJ d E D F HJ) fun w12 HM12=>?_;go_wp2;first|go_end0|((try simp only[Exit.inBlock,Exit.then]);refine eU rfl rfl ?_)
 exact⟨rfl,by rw[Y.out];exact HM12,trivial⟩
end yw
namespace Ed
open Go.RowKit Base aV dJ iy aC jq jY fF vO xQ yw mW
variable {k:K} {m:M} {q:Value} {w:World} {j:Nat} {R:List UInt8}
theorem Zp (o:Option (List UInt8)):HV o=.tuple #[.string (ah (o.getD [])),.bool o.isSome]:=by cases o<;>rfl
theorem BM (dp:Dp) (h:MX k m q w) (n:m.buf.length≤900000):Calls prog 114 #[.pointer (some ⟨k.g,0,none⟩)] w fun e w'=>e=.returned (.bool (met m))∧MX k (meet m) q w':=by
 have E:=hid dp;have l:=hid h;obtain⟨B,r⟩:∃B,m.buf=B:=⟨_,rfl⟩;have G:=hid r;have F:Hid (B.length≤900000):=by show _≤_;rw[←r];exact n
 obtain⟨s,v⟩:∃s,sp m=s:=⟨_,rfl⟩;have O:=hid v;obtain⟨H,y⟩:∃H,(aS B s).getD []=H:=⟨_,rfl⟩;obtain⟨b,x⟩:∃b,(aS B s).isSome=b:=⟨_,rfl⟩;have N:Hid (HV (aS B s)=.tuple #[.string (ah H),.bool b]):=by show _=_;rw[Zp,y,x]
 have P:Hid (meet m={m with u:={m.u with hh:=true,aS:=H},buf:=[]}):=by
  show _=_;unfold meet;rw[r,v,y]
 have z:Hid (met m=b):=by
  show _=_;unfold met;rw[r,v,x]
 clear h r v y x n dp;go_enter func114,ntmps114;go_wp2_with fail
 refine dG (by kernel_rfl) [pg k.g 0,pg k.g 0,pg k.g 3,is (.string (ah B)),pg k.g 0,is (.bool s),is (.tuple #[.string (ah H),.bool b]),is (.tuple #[.string (ah H),.bool b]),is (.string (ah H)),is (.bool b),is (.string (ah H)),is (.bool b)] [[],[0],[1],[2],[],[4],[3,5],[6],[7],[7],[8],[9]] (by kernel_rfl) ?_ ?_
 ·refine ⟨?_,?_,?_,?_,?_,?_,?_,?_,?_,?_,?_,?_,trivial⟩;all_goals(intro t J c hh K i;simp only[iQ,Act.put,Nat.reduceAdd,Nat.reduceEqDiff,reduceIte]at hh i⊢;(try simp only[hh]at i⊢);clear hh)
  iterate 3
   ·go_simp;exact i _ _ aZ rfl
  ·have I:=(l.below c).x3;rw[G.out]at I;go_simp;exact i _ _ aZ rfl
  ·go_simp;exact i _ _ aZ rfl
  ·go_simp;refine(dQ (l.below c) O).mono ?_;rintro e L ⟨rfl,j⟩;exact i _ _ j rfl
  ·go_simp;refine(E.host (ah B) s _ (by have:=F.out;rw[ak];omega)).mono ?_;rintro e L ⟨rfl,j⟩;rw[show(ah B).data.toList=B from rfl,N.out];exact i _ _ j rfl
  iterate 5
   ·go_simp;exact i _ _ aZ rfl
 intro t J c hh;have f:=aO hh 10 (by decide);simp only[pick]at f;replace f:t 10=(.string (ah H)):=f;have d:=aO hh 11 (by decide);simp only[pick]at d;replace d:t 11=(.bool b):=d;clear hh;simp only[iQ,Act.put,Nat.reduceAdd,Nat.reduceEqDiff,reduceIte];simp only[f,d];have a:=hid (l.below c);have W:=a.x8;have X:=a.x7;have I:=a.x3;have Q:=a.thaw 8;have T:=a.thaw 7;have V:=a.thaw 3;have D:=hid (a.Uz true);have C:=hid (D.uf H);have A:=hid (C.buf []);go_wp2;go_ret;exact⟨by rw[z.out];rfl,by rw[P.out];exact A⟩
theorem Ox (dp:Dp) (h:MX k m q w) (hz:m.p=(j:Int)) (hR:k.T.drop j=R) (hl:k.T.length≤4611686018427387904) (hj:j≤k.T.length) (C:m.buf.length≤900000):Calls prog 60 #[.pointer (some ⟨k.g,0,none⟩),.int .u8 ((cc R).toNat:Int)] w fun e w'=>e=.returned (.tuple #[])∧MX k (dB m R) q w'∧True:=by
 have i:=hid h;have L:=hid hz;have J:=hid hR;have HZ:Hid (-4611686018427387904≤m.p∧m.p≤4611686018427387904):=⟨by omega,by omega⟩;obtain⟨B,E⟩:∃B,m.buf=B:=⟨_,rfl⟩;have H:=hid E;have a6:Hid (B.length≤900000):=by show _≤_;rw[←E];exact C
 obtain⟨c,Z⟩:∃c,c=cc R:=⟨_,rfl⟩;rw[←Z];have a4:=hid dp;obtain⟨s,hs⟩:∃s,sp m=s:=⟨_,rfl⟩;obtain⟨l,r⟩:∃l,kR (sp m) R=l:=⟨_,rfl⟩;have HL:=hid r;obtain⟨o,W⟩:∃o,bY R=o:=⟨_,rfl⟩;have HE:=hid W;have P:Hid (m.buf.length≤900000):=by show _≤_;rw[E];exact a6
 by_cases hg:o=false∧l=false
 ·obtain ⟨rfl,rfl⟩:=hg;have N:Hid (dB m R={m with buf:=B++[c]}):=by
   show _=_;unfold dB;rw[if_pos ⟨W,r⟩,E,Z]
  clear E Z hs r W C dp;clear h hz hR hl hj;go_enter func60,ntmps60;go_wp2_with fail
  refine dP i (eH i L J HE) fun w2 HM2=>?_;go_wp2_with fail
  refine dP HM2 (bK HM2 L J HL) fun Q a=>?_;go_wp2_with fail
  refine bf (by kernel_rfl) 11 [pg k.g 0,pg k.g 0,pg k.g 0,pg k.g 3,is (.string (ah B)),is (.int .u8 (c.toNat:Int)),row 1 (aU [c]),is (.string (ah [c])),is (.string (ah (B++[c]))),pg k.g 0,pg k.g 3] [[],[],[1],[1,2],[1,2,3],[],[5],[5,6],[1,2,3,4,5,6,7],[0],[0,9],[0,1,2,3,4,5,6,7,8,9,10]] (by kernel_rfl) ?_ ?_
  ·refine ⟨?_,?_,?_,?_,?_,?_,?_,?_,?_,?_,?_,trivial⟩;all_goals(intro t wq a0 hh K D;simp only[iQ,qQ,Act.put,Nat.reduceAdd,Nat.reduceEqDiff,reduceIte]at hh D⊢)
   iterate 4
    ·try simp only[hh]at D⊢
     clear hh;go_simp;exact D _ _ aZ rfl
   ·try simp only[hh]at D⊢
    clear hh;have F:=(a.below a0).x3;rw[H.out]at F;go_simp;exact D _ _ aZ rfl
   ·try simp only[hh]at D⊢
    clear hh;go_simp;exact D _ _ aZ rfl
   ·try simp only[hh]at D⊢
    clear hh;go_simp;exact D _ _ ((Below.refl _ _).alloc (Nat.le_refl _) _) ⟨_,_,rfl,Nat.le_refl _,by decide,iT wq [c] 5 (0,0)⟩
   ·have e6:=hh.2.1;clear hh;obtain⟨A6,c6,e6,b5,b3,a7⟩:=e6;simp only[e6]at D⊢;have hs:=bI 55 9 5 underlying55 underlying5 underlying9 _ c6 a7;go_simp;exact D _ _ aZ rfl
   ·try simp only[hh]at D⊢
    clear hh;have b0:(Op.stringOp .add (ah B) (ah [c])).run prog wq=.ok (.string (ah (B++[c]))) wq:=bH _ _ wq (by have:=a6.out;simp;omega);go_simp;exact D _ _ aZ rfl
   iterate 2
    ·try simp only[hh]at D⊢
     clear hh;go_simp;exact D _ _ aZ rfl
  intro t wq a0 hh;have f8:=aO hh 8 (by decide);simp only[pick]at f8;replace f8:t 8=(.string (ah (B++[c]))):=f8;have Y:=aO hh 10 (by decide);simp only[pick]at Y;replace Y:t 10=(.pointer (some ⟨k.g,3,none⟩)):=Y;clear hh;simp only[iQ,qQ,Act.put,Nat.reduceAdd,Nat.reduceEqDiff,reduceIte];simp only[f8,Y];have a1:=hid (a.below a0);have a9:=hid (a1.buf (B++[c]));have z3:=a1.thaw 3;have F:=a1.x3;go_wp2;first|go_end0|((try simp only[Exit.inBlock,Exit.then]);refine eU rfl rfl ?_)
  exact⟨rfl,by rw[N.out];exact a9,trivial⟩
 have HN:Hid (¬(bY R=false∧kR (sp m) R=false)):=by show ¬_;rw[W,r];exact hg
 obtain⟨d,I⟩:∃d,mO B=d:=⟨_,rfl⟩;have HD:=hid I;by_cases he:B=[]
 ·subst he;have a8:d=false:=I.symm.trans rfl;subst a8;have G:Hid ((ah []).toList.isEmpty=true):=by show _=_;rw[mW.tl];rfl
  have N:Hid (dB m R=mv m 14 true):=by
   show _=_;unfold dB;rw[if_neg HN.out,E,if_neg (by rw[I];decide),if_pos rfl]
  rcases o with _|_
  focus
   have n:l=true:=match l,hg with|true,_=>rfl|false,hg=>absurd ⟨rfl,rfl⟩ hg
   subst n
  rotate_left
  all_goals
   clear E Z hs r W C dp hg I;clear h hz hR hl hj;go_enter func60,ntmps60;go_wp2_with fail
   refine dP i (eH i L J HE) fun w2 HM2=>?_;first
   |go_wp2_with fail
    refine dP HM2 (bK HM2 L J HL) fun Q a=>?_
   |obtain⟨Q,rfl⟩:∃x,x=w2:=⟨_,rfl⟩
    have a:=HM2
   have F:=a.x3;rw[H.out]at F;go_wp2_with fail
   refine(sK.dK (ah []) _).mono ?_;rintro e9 w9 ⟨rfl,rfl⟩;rw[show mO (ah []).data.toList=false from HD.out];have X:=G.out;go_wp2_with fail
   refine jK (iP a HZ 14 true) fun w4 f=>?_;go_wp2;first|go_end0|((try simp only[Exit.inBlock,Exit.then]);refine eU rfl rfl ?_)
   exact⟨rfl,by rw[N.out];exact f,trivial⟩
 have G:Hid ((ah B).toList.isEmpty=false):=by
  show _=_;rw[mW.tl];cases B with
  |nil=>exact absurd rfl he
  |cons x y=>rfl
 rcases d with _|_
 ·obtain ⟨e,A⟩:∃e,met m=e:=⟨_,rfl⟩;have a2:=hid A;rcases e with _|_
  ·have N:Hid (dB m R=fail (meet m)):=by
    show _=_;unfold dB;rw[if_neg HN.out,E,if_neg (by rw[I];decide),if_neg he,if_pos A]
   rcases o with _|_
   focus
    have n:l=true:=match l,hg with|true,_=>rfl|false,hg=>absurd ⟨rfl,rfl⟩ hg
    subst n
   rotate_left
   all_goals
    clear E Z hs r W C dp hg I he A;clear h hz hR hl hj;go_enter func60,ntmps60;go_wp2_with fail
    refine dP i (eH i L J HE) fun w2 HM2=>?_;first
    |go_wp2_with fail
     refine dP HM2 (bK HM2 L J HL) fun Q a=>?_
    |obtain⟨Q,rfl⟩:∃x,x=w2:=⟨_,rfl⟩
     have a:=HM2
    have F:=a.x3;rw[H.out]at F;go_wp2_with fail
    refine(sK.dK (ah B) _).mono ?_;rintro e9 w9 ⟨rfl,rfl⟩;rw[show mO (ah B).data.toList=false from HD.out];have X:=G.out;go_wp2_with fail
    refine(BM a4 a P).mono ?_;rintro e4 w4 ⟨rfl,v⟩;rw[a2.out];have f:=hid v;clear v;clear F;have c2:=f.x2;have z2:=f.thaw 2;have O:=hid (f.st 19);go_wp2;first|go_end0|((try simp only[Exit.inBlock,Exit.then]);refine eU rfl rfl ?_)
    exact⟨rfl,by rw[N.out];exact O,trivial⟩
  obtain⟨V,hV⟩:∃V,(meet m).u.aS=V:=⟨_,rfl⟩;have HV:=hid hV;have a5:Hid (-4611686018427387904≤(meet m).p∧(meet m).p≤4611686018427387904):=HZ.out;by_cases z:(meet m).u.aS=LOCAL
  ·have a3:Hid (((ah V).toList==[108,111,99,97,108,104,111,115,116])=true):=by show _=_;rw[dU];exact decide_eq_true (hV▸z)
   have N:Hid (dB m R=mv {meet m with u:={(meet m).u with aS:=[]}} 14 true):=by
    show _=_;unfold dB;rw[if_neg HN.out,E,if_neg (by rw[I];decide),if_neg he,if_neg (by rw[A];decide),if_pos z]
   rcases o with _|_
   focus
    have n:l=true:=match l,hg with|true,_=>rfl|false,hg=>absurd ⟨rfl,rfl⟩ hg
    subst n
   rotate_left
   all_goals
    clear E Z hs r W C dp hg I he A z hV;clear h hz hR hl hj;go_enter func60,ntmps60;go_wp2_with fail
    refine dP i (eH i L J HE) fun w2 HM2=>?_;first
    |go_wp2_with fail
     refine dP HM2 (bK HM2 L J HL) fun Q a=>?_
    |obtain⟨Q,rfl⟩:∃x,x=w2:=⟨_,rfl⟩
     have a:=HM2
    have F:=a.x3;rw[H.out]at F;go_wp2_with fail
    refine(sK.dK (ah B) _).mono ?_;rintro e9 w9 ⟨rfl,rfl⟩;rw[show mO (ah B).data.toList=false from HD.out];have X:=G.out;go_wp2_with fail
    refine(BM a4 a P).mono ?_;rintro e4 w4 ⟨rfl,v⟩;rw[a2.out];have f:=hid v;clear v;clear F;have c7:=f.x7;have z7:=f.thaw 7;rw[HV.out]at c7;have z:=a3.out;have O:=hid (f.uf []);go_wp2_with fail
    refine jK (iP O a5 14 true) fun w6 HM6=>?_;go_wp2;first|go_end0|((try simp only[Exit.inBlock,Exit.then]);refine eU rfl rfl ?_)
    exact⟨rfl,by rw[N.out];exact HM6,trivial⟩
  have a3:Hid (((ah V).toList==[108,111,99,97,108,104,111,115,116])=false):=by show _=_;rw[dU];exact decide_eq_false (hV▸z)
  have N:Hid (dB m R=mv (meet m) 14 true):=by
   show _=_;unfold dB;rw[if_neg HN.out,E,if_neg (by rw[I];decide),if_neg he,if_neg (by rw[A];decide),if_neg z]
  rcases o with _|_
  focus
   have n:l=true:=match l,hg with|true,_=>rfl|false,hg=>absurd ⟨rfl,rfl⟩ hg
   subst n
  rotate_left
  all_goals
   clear E Z hs r W C dp hg I he A z hV;clear h hz hR hl hj;go_enter func60,ntmps60;go_wp2_with fail
   refine dP i (eH i L J HE) fun w2 HM2=>?_;first
   |go_wp2_with fail
    refine dP HM2 (bK HM2 L J HL) fun Q a=>?_
   |obtain⟨Q,rfl⟩:∃x,x=w2:=⟨_,rfl⟩
    have a:=HM2
   have F:=a.x3;rw[H.out]at F;go_wp2_with fail
   refine(sK.dK (ah B) _).mono ?_;rintro e9 w9 ⟨rfl,rfl⟩;rw[show mO (ah B).data.toList=false from HD.out];have X:=G.out;go_wp2_with fail
   refine(BM a4 a P).mono ?_;rintro e4 w4 ⟨rfl,v⟩;rw[a2.out];have f:=hid v;clear v;clear F;have c7:=f.x7;have z7:=f.thaw 7;rw[HV.out]at c7;have z:=a3.out;go_wp2_with fail
   refine jK (iP f a5 14 true) fun w5 O=>?_;go_wp2;first|go_end0|((try simp only[Exit.inBlock,Exit.then]);refine eU rfl rfl ?_)
   exact⟨rfl,by rw[N.out];exact O,trivial⟩
 have N:Hid (dB m R=mv m 15 true):=by
  show _=_;unfold dB;rw[if_neg HN.out,E,if_pos I]
 rcases o with _|_
 focus
  have n:l=true:=match l,hg with|true,_=>rfl|false,hg=>absurd ⟨rfl,rfl⟩ hg
  subst n
 rotate_left
 all_goals
  clear E Z hs r W C dp hg I he;clear h hz hR hl hj;go_enter func60,ntmps60;go_wp2_with fail
  refine dP i (eH i L J HE) fun w2 HM2=>?_;first
  |go_wp2_with fail
   refine dP HM2 (bK HM2 L J HL) fun Q a=>?_
  |obtain⟨Q,rfl⟩:∃x,x=w2:=⟨_,rfl⟩
   have a:=HM2
  have F:=a.x3;rw[H.out]at F;go_wp2_with fail
  refine(sK.dK (ah B) _).mono ?_;rintro e9 w9 ⟨rfl,rfl⟩;rw[show mO (ah B).data.toList=true from HD.out];have X:=G.out;go_wp2_with fail
  refine jK (iP a HZ 15 true) fun w4 f=>?_;go_wp2;first|go_end0|((try simp only[Exit.inBlock,Exit.then]);refine eU rfl rfl ?_)
  exact⟨rfl,by rw[N.out];exact f,trivial⟩
end Ed
