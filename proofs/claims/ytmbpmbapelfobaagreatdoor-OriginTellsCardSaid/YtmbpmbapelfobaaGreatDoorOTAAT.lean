/- Lemmas. -/
import Derived.Test.YtmbpmbapelfobaaGreatDoorOTAAS
set_option linter.unusedSimpArgs false
set_option linter.unusedVariables false
set_option maxRecDepth 100000
set_option maxHeartbeats 64000000
namespace Go.Proofs.YtmbpmbapelfobaaGreatDoor
open Tryz
namespace YF
open Go.RowKit Base aV fU dJ iy mJ jr qU aeH aC fJ jq jY fF vO xQ UW
variable {k:K} {m:M} {q:Value} {w:World} {j:Nat} {R:List UInt8}
theorem wP (W:World) (base:Nat) (t r e:TypeId) (i:TypeInfo) (z:Value) (h:Nat) (C:prog.underlying t=some (.slice e)) (hi:prog.info? e=some i) (D:i.zero=some z) (g:i.size=1) (x:i.bytes=h) (s:z.cells.size=1)
  (v:Value) (n:Nat) (k:List Value) (d:W.ownsRow base e 1 v n k) (A:Option Addr) (m c:Nat) (a:List Value) (q:dW W A m a) (O:∀u ∈ a,u.oneCell'=true)
  (y:n+m≤maxLen) (f:(n+m)*h≤140737488355328) (I:base≤W.heap.size):
  ∃l w',(Builtin.append_ #[t,t] r #[v,.slice A m c]).run prog W=.ok l w'∧w'.ownsRow base e 1 l (n+m) (k++a)∧W.grownBy w' v.ownBlock:=by
 cases A with
 | none=>
  have F:m=0:=by
   rcases Nat.eq_zero_or_pos m with h0|h0
   ·exact h0
   ·obtain⟨_,_,e,_⟩:=q.spot h0;cases e
  subst F;have E:a=[]:=List.eq_nil_of_length_eq_zero q.1;subst E;exact⟨v,W,Dh (P:=prog) (W:=W) base t r e i 1 c C hi v n k d,by simpa using d,⟨rfl,rfl,rfl,Nat.le_refl _,fun _ _ _=>rfl⟩⟩
 | some ad=>
  obtain⟨l,w',N,L,J,_⟩:=run_append_own W base t r e i z 1 h C hi D g x s (by decide) v n k d ad m c a (by rw[q.1,Nat.mul_one]) (fun j u hj=>by
   obtain⟨w,e⟩:=List.getElem?_eq_some_iff.1 hj;obtain⟨b,off,B,_,G⟩:=q.2 j w;injection B with B
   subst B;have H:(⟨b,off,none⟩:Addr).add j=⟨b,off+j,none⟩:=by
    unfold Addr.add;split<;>simp_all
   rw[H,G,e]) O y f I
  exact⟨l,w',N,L,J⟩
theorem _root_.Go.Proofs.YtmbpmbapelfobaaGreatDoor.fF.MX.as {m2:M} (h:MX k m q w) (e:m2=m):MX k m2 q w:=e▸h
theorem F6 {P:Program} {W:World} {ops:Array Oper} {o:Oper} {a:Act} {Q:Exit→Act→World→Prop} {K:Act→World→Prop} {X:Prop} {h:Array Value} (e:o.guard=none) (s x:Operand) (t g:TypeId) (j:o.op=.call {callee:=.builtin .append,args:=#[s,x],argTypes:=#[t,t]}) {v u f:Value} {w':World}
  (d:o.type=g) (i:a.eval s=v) (hx:a.eval x=u) (c:(Builtin.append_ #[t,t] g #[v,u]).run P W=.ok f w') (k:K (a.put o.dst f) w'):
  if Region.wanted o (yielded ops h)=true then Oper.wp P o a W K Q else X:=by
 subst d;rw[if_pos (by simp[Region.wanted,e])];unfold Oper.wp;simp[execOp,j,resolve,invoke,builtin,i,hx,c,Result.andThen];exact k
theorem _root_.Go.Proofs.YtmbpmbapelfobaaGreatDoor.fF.MX.x1j (h:MX k m q w) (e:m.p=(j:Int)):w.cell? ⟨k.g,1,none⟩=some (.int .i64 (j:Int)):=e▸h.x1
theorem lU {B:Nat} {v:Value} {n:Nat} {c:List Value} {C:Array Value} {x:Nat×Nat} (h:w.heap[k.g]?=some (.cells C 48 x)) (d:w.ownsRow B 9 1 v n c):v.ownBlock≠some k.g:=by
 rcases d.2 with⟨rfl,_⟩|⟨b,j,i,rfl,_,a,_⟩
 ·intro h;cases h
 intro e;injection e with e
 have f:b=k.g:=e;rw[f,h]at a;injection a with a
 injection a with h1 h2
 exact absurd h2 (by decide)
theorem dM {B:Nat} {v x:Value} {n i:Nat} {c:List Value} (d:w.ownsRow B 9 1 v n c) (a:v.ownBlock≠some k.g):(w.setCell ⟨k.g,i,none⟩ x).ownsRow B 9 1 v n c:=by
 refine⟨d.1,?_⟩;rcases d.2 with h|⟨b,cap,cur,rfl,hB,hb,r⟩
 ·exact .inl h
 exact .inr ⟨b,cap,cur,rfl,hB,(heap_setCell_other w _ _ _ (fun e=>a (congrArg some e))).trans hb,r⟩
theorem _root_.Go.Proofs.YtmbpmbapelfobaaGreatDoor.fF.MX.other (h:MX k m q w) {w':World} {row:Option Nat} (a:w.grownBy w' row) (e:some k.g≠row) (d:q.ownBlock=none∨q.ownBlock≠row) (c:∀b,row=some b→k.B≤b):MX k m q w':=
 ⟨(a.block _ h.lt e).trans h.row,h.own.kept a d,h.bD.grown a h.size c,h.le⟩
def rlD (m:M) (b:U) (x0 x1:Bool):M:={m with u:={m.u with hq:=if x0=true then b.hq else m.u.hq,bQ:=if x1=true then b.bQ else m.u.bQ}}
structure Nc (k:K) (m:M) (q:Value) (bs:Nat) (L:Nat→Bool) (t:Nat→Value) (w:World):Prop where
 sz:bs≤w.heap.size
 kb:k.B≤bs
 bu:L 3=true→L 9=false→∃A n c,t 3=.slice A n c∧w.ownsRow bs 9 1 (.slice A n c) 0 []
 ap:L 9=true→∃A n c,t 9=.slice A n c∧w.ownsRow bs 9 1 (.slice A n c) k.b.aF.length (k.b.aF.map Value.string)
 no:L 23=false→MX k (rlD m k.b (L 27) (L 31)) q w
 ye:L 23=true→∃q',MX k {(rlD m k.b (L 27) (L 31))with u:={(rlD m k.b (L 27) (L 31)).u with aF:=k.b.aF}} q' w
section
variable {bs:Nat} {L:Nat→Bool} {t:Nat→Value} {v:Value}
theorem Nh (c:Nc k m q bs L t w):∃m' a,MX k m' a w:=by
 cases h:L 23 with
 |false=>exact⟨_,_,c.no h⟩
 |true=>obtain⟨a,h⟩:=c.ye h;exact⟨_,a,h⟩
theorem IV (i:Nat) (hi:(i==3||i==9||i==23||i==27||i==31)=false) {w':World} (f:Below w.heap.size w w') (d:Nc k m q bs L t w):Nc k m q bs (did L i) (upd t i v) w':=by
 simp only[Bool.or_eq_false_iff,beq_eq_false_iff_ne]at hi;obtain⟨⟨⟨⟨B,z⟩,y⟩,x⟩,s⟩:=hi;have G:did L i 3=L 3:=aK L (Ne.symm B);have C:did L i 9=L 9:=aK L (Ne.symm z);have l:did L i 23=L 23:=aK L (Ne.symm y);have j:did L i 27=L 27:=aK L (Ne.symm x);have g:did L i 31=L 31:=aK L (Ne.symm s);have E:upd t i v 3=t 3:=by simp[upd,Ne.symm B]
 have D:upd t i v 9=t 9:=by simp[upd,Ne.symm z]
 refine⟨Nat.le_trans d.sz f.size,d.kb,?_,?_,?_,?_⟩
 ·rw[G,C,E];intro a b;obtain⟨A,n,c,e,r⟩:=d.bu a b;exact⟨A,n,c,e,aY r f⟩
 ·rw[C,D];intro a;obtain⟨A,n,c,e,r⟩:=d.ap a;exact⟨A,n,c,e,aY r f⟩
 ·rw[l,j,g];intro a;exact(d.no a).below f
 rw[l,j,g];intro a;obtain⟨F,h⟩:=d.ye a;exact⟨F,h.below f⟩
theorem rlB (c:Nc k m q bs L t w) (l:L 9=false):Nc k m q bs (did L 3) (upd t 3 (.slice (some ⟨w.heap.size,0,none⟩) 0 0)) (w.alloc (.cells #[] 9)):=by
 have g:Below w.heap.size w (w.alloc (.cells #[] 9)):=(Below.refl _ _).alloc (Nat.le_refl _) _;have n:did L 3 9=L 9:=aK L (by decide);have f:did L 3 23=L 23:=aK L (by decide);have e:did L 3 27=L 27:=aK L (by decide);have d:did L 3 31=L 31:=aK L (by decide);have i:upd t 3 (.slice (some ⟨w.heap.size,0,none⟩) 0 0) 9=t 9:=by simp[upd]
 refine⟨Nat.le_trans c.sz g.size,c.kb,?_,?_,?_,?_⟩
 ·intro _ _;exact⟨some ⟨w.heap.size,0,none⟩,0,0,by simp[upd],aI (World.ownsRow_made w #[] 0 (Nat.le_refl _) (by decide) rfl) c.sz⟩
 ·rw[n,i];intro a;rw[l]at a;cases a
 ·rw[f,e,d];intro a;exact(c.no a).below g
 rw[f,e,d];intro a;obtain⟨j,h⟩:=c.ye a;exact⟨j,h.below g⟩
theorem rlA (r:Nc k m q bs L t w) (E:L 23=false) (D:k.g<bs) (l:k.B≤bs) (hq:∀b,q.ownBlock=some b→b<bs) {A z:Option Addr} {n c h y:Nat} {w':World} (i:w.ownsRow bs 9 1 (.slice A n c) 0 []) (d:w'.ownsRow bs 9 1 (.slice z h y) (0+k.n) ([]++k.b.aF.map Value.string)) (j:k.n=k.b.aF.length) (C:w.grownBy w' (Value.slice A n c).ownBlock):Nc k m q bs (did L 9) (upd t 9 (.slice z h y)) w':=by
 have I:did L 9 3=L 3:=aK L (by decide);have f:did L 9 23=L 23:=aK L (by decide);have v:did L 9 27=L 27:=aK L (by decide);have s:did L 9 31=L 31:=aK L (by decide);have H:some k.g≠(Value.slice A n c).ownBlock:=fun e=>by have:=(i.lt k.g e.symm).1;omega
 have G:q.ownBlock=none∨q.ownBlock≠(Value.slice A n c).ownBlock:=by
  cases e:q.ownBlock with
  |none=>exact .inl rfl
  |some b=>exact .inr (fun x=>by have:=(i.lt b x.symm).1;have:=hq b e;omega)
 have F:∀b,(Value.slice A n c).ownBlock=some b→k.B≤b:=fun b e=>Nat.le_trans l (i.lt b e).1;refine⟨Nat.le_trans r.sz C.size,r.kb,?_,?_,?_,?_⟩
 ·intro _ b;rw[dI]at b;cases b
 ·intro _;exact⟨z,h,y,by simp[upd],by rw[Nat.zero_add,List.nil_append,j]at d;exact d⟩
 ·rw[f,v,s];intro a;exact(r.no a).other C H G F
 rw[f,E];intro a;cases a
theorem rlP (f:Nc k m q bs L t w) (z:L 9=true) (d:k.B≤bs) {A:Option Addr} {n c:Nat} (e:t 9=.slice A n c) (i:w.ownsRow bs 9 1 (.slice A n c) k.b.aF.length (k.b.aF.map Value.string)):Nc k m q bs (did L 23) (upd t 23 v) (w.setCell ⟨k.g,12,none⟩ (.slice A n c)):=by
 obtain⟨C,x,hx⟩:=Nh f;have D:did L 23 3=L 3:=aK L (by decide);have r:did L 23 9=L 9:=aK L (by decide);have l:did L 23 27=L 27:=aK L (by decide);have j:did L 23 31=L 31:=aK L (by decide);have s:upd t 23 v 9=t 9:=by simp[upd]
 have y:=lU hx.row i;refine⟨by rw[World.size_setCell];exact f.sz,f.kb,?_,?_,?_,?_⟩
 ·rw[r,z];intro _ b;cases b
 ·rw[r,s];intro _;exact⟨A,n,c,e,dM i y⟩
 ·rw[dI];intro a;cases a
 rw[l,j];intro _;refine⟨.slice A n c,?_⟩;cases h:L 23 with
 |false=>exact(f.no h).ug (aI i d)
 |true=>obtain⟨x,h⟩:=f.ye h;exact h.ug (aI i d)
theorem abu (d:Nc k m q bs L t w):Nc k m q bs (did L 27) (upd t 27 v) (w.setCell ⟨k.g,13,none⟩ (.bool k.b.hq)):=by
 obtain⟨z,l,hx⟩:=Nh d;have y:did L 27 3=L 3:=aK L (by decide);have r:did L 27 9=L 9:=aK L (by decide);have j:did L 27 23=L 23:=aK L (by decide);have i:did L 27 31=L 31:=aK L (by decide);have x:upd t 27 v 3=t 3:=by simp[upd]
 have s:upd t 27 v 9=t 9:=by simp[upd]
 refine⟨by rw[World.size_setCell];exact d.sz,d.kb,?_,?_,?_,?_⟩
 ·rw[y,r,x];intro a b;obtain⟨A,n,c,e,f⟩:=d.bu a b;exact⟨A,n,c,e,dM f (lU hx.row f)⟩
 ·rw[r,s];intro a;obtain⟨A,n,c,e,f⟩:=d.ap a;exact⟨A,n,c,e,dM f (lU hx.row f)⟩
 ·rw[j,dI,i];intro a;exact(d.no a).NK k.b.hq
 rw[j,dI,i];intro a;obtain⟨l,h⟩:=d.ye a;exact⟨l,h.NK k.b.hq⟩
theorem abv (d:Nc k m q bs L t w):Nc k m q bs (did L 31) (upd t 31 v) (w.setCell ⟨k.g,15,none⟩ (.string (ah k.b.bQ))):=by
 obtain⟨z,l,hx⟩:=Nh d;have y:did L 31 3=L 3:=aK L (by decide);have r:did L 31 9=L 9:=aK L (by decide);have j:did L 31 23=L 23:=aK L (by decide);have i:did L 31 27=L 27:=aK L (by decide);have x:upd t 31 v 3=t 3:=by simp[upd]
 have s:upd t 31 v 9=t 9:=by simp[upd]
 refine⟨by rw[World.size_setCell];exact d.sz,d.kb,?_,?_,?_,?_⟩
 ·rw[y,r,x];intro a b;obtain⟨A,n,c,e,f⟩:=d.bu a b;exact⟨A,n,c,e,dM f (lU hx.row f)⟩
 ·rw[r,s];intro a;obtain⟨A,n,c,e,f⟩:=d.ap a;exact⟨A,n,c,e,dM f (lU hx.row f)⟩
 ·rw[j,i,dI];intro a;exact(d.no a).vF k.b.bQ
 rw[j,i,dI];intro a;obtain⟨l,h⟩:=d.ye a;exact⟨l,h.vF k.b.bQ⟩
end
theorem PE (hk:KB k) (Z:k.n≤400000) (h:MX k m q w) (hz:m.p=(j:Int)) (hR:k.T.drop j=R) (hl:k.T.length≤4611686018427387904) (hj:j≤k.T.length):Calls prog 51 #[.pointer (some ⟨k.g,0,none⟩)] w fun e w'=>e=.returned (.tuple #[])∧∃q',MX k (lJ k.b m R) q' w':=by
 obtain⟨i0,hi,c2,c1,c0⟩:=info_parts iW;have s:=hid h;have HP:=hid hz;have HR:=hid hR;have HZ:Hid (-4611686018427387904≤m.p∧m.p≤4611686018427387904):=⟨by omega,by omega⟩;have d7:=hid hl;have HJ:=hid hj;have d1:=hid hk;have a0:k.n=k.b.aF.length:=by have:=hk.Ue.1;rw[List.length_map]at this;exact this.symm
 have a3:=hid a0;have O:=hid Z;obtain⟨o,ho⟩:∃o,bY R=o:=⟨_,rfl⟩;have HE:=hid ho;obtain⟨l,G⟩:∃l,kR (aj k.b.au) R=l:=⟨_,rfl⟩;have HL:=hid G;obtain⟨m2,E⟩:∃x,x=lN k.b {m with u:={m.u with au:=k.b.au}}:=⟨_,rfl⟩;have b3:Hid (m2.p=(j:Int)):=by show _=_;rw[E];exact hz
 have d6:Hid (-4611686018427387904≤m2.p∧m2.p≤4611686018427387904):=by show _∧_;rw[E];exact HZ.out
 have c8:=hid E;rcases l with _|_
 ·rcases o with _|_
  ·have HO:Hid (lJ k.b m R=mv {m2 with u:={m2.u with aF:=jd false k.b.aF,hq:=false,bQ:=[]}} 15 true):=by
    show _=_;unfold lJ;dsimp only;rw[if_neg (by rw[G];decide),if_neg (by rw[ho];decide),E];try rfl
   clear ho G E hk a0 Z;clear h hz hR hl hj;go_enter func51,ntmps51;have a1:=s.out.x17;have c4:=s.out.x4;have z4:=s.out.thaw 4;have F:=hid (s.out.AA k.b.au);go_wp2_with fail
   refine dP F (bK F.out HP.out HR.out HL.out) fun w3 HM3=>?_;go_wp2_with fail
   refine jK (Kz HM3.out) fun w4 HM4=>?_;clear a1 c4 z4;have C:=hid (HM4.out.as c8.out);go_wp2_with fail
   obtain⟨bs,sG⟩:∃bs,bs=w4.heap.size:=⟨_,rfl⟩;have b5:Hid (k.g<bs):=by show _<_;rw[sG];exact C.out.lt
   have y:Hid (k.B≤bs):=by show _≤_;rw[sG];exact C.out.size
   have b0:Hid (∀b,q.ownBlock=some b→b<bs):=fun b e=>by rw[sG];exact(C.out.own.lt b e).2
   have b6:Hid (bs≤w4.heap.size):=Nat.le_of_eq sG;clear sG;refine iH (by kernel_rfl) (Nc k m2 q bs) [pg k.g 0,pg k.g 0,pg k.g 0,any,pg k.g 0,pg k.g 0,pg k.g 17,pg k.g 25,is (.slice k.A k.n k.c),any,pg k.g 0,pg k.g 0,pg k.g 17,pg k.g 26,is (.bool k.b.hq),pg k.g 0,pg k.g 0,pg k.g 17,pg k.g 28,is (.string (ah k.b.bQ)),pg k.g 0,pg k.g 4,pg k.g 12,any,pg k.g 0,pg k.g 4,pg k.g 13,any,pg k.g 0,pg k.g 4,pg k.g 15,any] [[],[],[],[],[],[4],[5],[6],[7],[3,8],[],[10],[11],[12],[13],[],[15],[16],[17],[18],[0],[20],[21],[9,22],[1],[24],[25],[14,26],[2],[28],[29],[19,30]] (by kernel_rfl) (by repeat (first|exact oN|refine ru _ ?_|refine oM ?_)) ?_ ?_ ?_
   ·exact fun t=>(⟨b6.out,y.out,(fun a=>by cases a),(fun a=>by cases a),(fun _=>(show MX k (rlD m2 k.b false false) q _ from(C).out.below (w':={w4 with drawn:=w4.drawn+1}) ⟨rfl,rfl,rfl,Nat.le_refl _,fun _ _=>rfl⟩)),(fun a=>by cases a)⟩:Nc k m2 q bs (fun _=>false) t {w4 with drawn:=w4.drawn+1})
   ·refine ⟨?_,?_,?_,?_,?_,?_,?_,?_,?_,?_,?_,?_,?_,?_,?_,?_,?_,?_,?_,?_,?_,?_,?_,?_,?_,?_,?_,?_,?_,?_,?_,?_,trivial⟩;all_goals(intro L t wq d hL hC hN hh K i;simp only[iQ,Act.put,Nat.reduceAdd,Nat.reduceEqDiff,reduceIte]at hh i⊢;(try simp only[hh]at i⊢);clear hh)
    iterate 3
     ·go_simp;exact i _ _ rfl (IV _ (by decide) aZ d)
    ·go_simp;exact i _ _ trivial (rlB d (by cases h:L 9 with|false=>rfl|true=>exact absurd (hC 9 h 3 (by decide)) (by rw[hL];decide)))
    iterate 4
     ·go_simp;exact i _ _ rfl (IV _ (by decide) aZ d)
    ·obtain⟨I,H,f⟩:=Nh d;have a9:=f.x25;rw[show k.qb=.slice k.A k.n k.c from rfl]at a9;go_simp;exact i _ _ rfl (IV 8 (by decide) aZ d)
    ·obtain⟨A3,n3,c3,e3,V⟩:=d.bu (hN 3 (by decide)) hL;have a8:L 23=false:=by cases h:L 23 with|false=>rfl|true=>exact absurd (hC 23 h 9 (by decide)) (by rw[hL];decide)
     obtain⟨I,H,f⟩:=Nh d;obtain⟨v9,w9,Q,v,a7⟩:=wP wq bs 23 23 9 i0 (.string ByteArray.empty) 16 underlying23 hi c2 c1 c0 rfl (.slice A3 n3 c3) 0 [] V k.A k.n k.c (k.b.aF.map Value.string) (f.Ue d1.out) (kQ _) (by have:=O.out;unfold maxLen;omega) (by have:=O.out;omega) d.sz;obtain⟨A9,c9,a5,_⟩:=aW v;subst a5;simp only[e3]at i⊢;refine F6 ?_ (.tmp 20) (.tmp 25) _ _ ?_ ?_ ?_ ?_ Q ?_
     ·rfl
     ·rfl
     ·rfl
     ·rfl
     ·rfl
     exact i _ _ trivial (rlA d a8 b5.out y.out b0.out V v a3.out a7)
    iterate 4
     ·go_simp;exact i _ _ rfl (IV _ (by decide) aZ d)
    ·obtain⟨I,H,f⟩:=Nh d;have d5:=f.x26;go_simp;exact i _ _ rfl (IV 14 (by decide) aZ d)
    iterate 4
     ·go_simp;exact i _ _ rfl (IV _ (by decide) aZ d)
    ·obtain⟨I,H,f⟩:=Nh d;have d4:=f.x28;go_simp;exact i _ _ rfl (IV 19 (by decide) aZ d)
    iterate 3
     ·go_simp;exact i _ _ rfl (IV _ (by decide) aZ d)
    ·obtain⟨A9,n9,c9,e9,a6⟩:=d.ap (hN 9 (by decide));obtain⟨I,H,f⟩:=Nh d;have a2:=f.x12;have b9:=f.thaw 12;simp only[e9]at i⊢;go_simp;exact i undef _ trivial (rlP d (hN 9 (by decide)) y.out e9 a6)
    iterate 3
     ·go_simp;exact i _ _ rfl (IV _ (by decide) aZ d)
    ·obtain⟨I,H,f⟩:=Nh d;have c7:=f.x13;have b8:=f.thaw 13;go_simp;exact i undef _ trivial (abu d)
    iterate 3
     ·go_simp;exact i _ _ rfl (IV _ (by decide) aZ d)
    obtain⟨I,H,f⟩:=Nh d;have c6:=f.x15;have b7:=f.thaw 15;go_simp;exact i undef _ trivial (abv d)
   intro Lz t wq d r hh;clear hh;simp only[iQ,Act.put,Nat.reduceAdd,Nat.reduceEqDiff,reduceIte];obtain⟨qn,f⟩:=d.ye (r 23 (by decide));rw[r 27 (by decide),r 31 (by decide)]at f;have J:=hid f;clear f d r;have D:=J.out.BN (P:=k.b.aF) (N:=k.n) rfl a3.out.symm;obtain⟨vA,vc,d2,_⟩:=aW D;subst d2;clear D;go_wp2_with fail
   refine dP J (eH J.out b3.out HR.out HE.out) fun w31 HM31=>?_;have c7:=HM31.out.x13;have c6:=HM31.out.x15;have a2:=HM31.out.x12;have b8:=HM31.out.thaw 13;have b7:=HM31.out.thaw 15;have Y:=hid (HM31.out.NK false);have X:=hid (Y.out.vF []);have D:=X.out.BN (P:=k.b.aF) (N:=k.n) rfl a3.out.symm;have c5:=O.out;go_wp2_with fail
   clear a2 c5;refine(Di false k.B vA k.n vc k.b.aF _ D X.out.size (by have:=O.out;omega)).mono ?_;rintro d9 d8 ⟨v_,rfl,z,a4⟩;obtain⟨sA,sc,d3,_⟩:=aW z;subst d3;have W:=hid (X.out.below a4);clear a4 D;have a2:=W.out.x12;have b9:=W.out.thaw 12;have d0:=hid (W.out.ug z);clear z;go_wp2_with fail
   refine jK (iP d0.out d6.out 15 true) fun w36 HM36=>?_;go_wp2;first|go_end0|((try simp only[Exit.inBlock,Exit.then]);refine eU rfl rfl ?_)
   exact⟨rfl,_,by rw[HO.out];exact HM36.out⟩
  have HO:Hid (lJ k.b m R=tail {m2 with u:={m2.u with aF:=k.b.aF,hq:=k.b.hq,bQ:=k.b.bQ}} R):=by
   show _=_;unfold lJ;dsimp only;rw[if_neg (by rw[G];decide),if_pos ho,E];try rfl
  clear ho G E hk a0 Z;clear h hz hR hl hj;go_enter func51,ntmps51;have a1:=s.out.x17;have c4:=s.out.x4;have z4:=s.out.thaw 4;have F:=hid (s.out.AA k.b.au);go_wp2_with fail
  refine dP F (bK F.out HP.out HR.out HL.out) fun w3 HM3=>?_;go_wp2_with fail
  refine jK (Kz HM3.out) fun w4 HM4=>?_;clear a1 c4 z4;have C:=hid (HM4.out.as c8.out);go_wp2_with fail
  obtain⟨bs,sG⟩:∃bs,bs=w4.heap.size:=⟨_,rfl⟩;have b5:Hid (k.g<bs):=by show _<_;rw[sG];exact C.out.lt
  have y:Hid (k.B≤bs):=by show _≤_;rw[sG];exact C.out.size
  have b0:Hid (∀b,q.ownBlock=some b→b<bs):=fun b e=>by rw[sG];exact(C.out.own.lt b e).2
  have b6:Hid (bs≤w4.heap.size):=Nat.le_of_eq sG;clear sG;refine iH (by kernel_rfl) (Nc k m2 q bs) [pg k.g 0,pg k.g 0,pg k.g 0,any,pg k.g 0,pg k.g 0,pg k.g 17,pg k.g 25,is (.slice k.A k.n k.c),any,pg k.g 0,pg k.g 0,pg k.g 17,pg k.g 26,is (.bool k.b.hq),pg k.g 0,pg k.g 0,pg k.g 17,pg k.g 28,is (.string (ah k.b.bQ)),pg k.g 0,pg k.g 4,pg k.g 12,any,pg k.g 0,pg k.g 4,pg k.g 13,any,pg k.g 0,pg k.g 4,pg k.g 15,any] [[],[],[],[],[],[4],[5],[6],[7],[3,8],[],[10],[11],[12],[13],[],[15],[16],[17],[18],[0],[20],[21],[9,22],[1],[24],[25],[14,26],[2],[28],[29],[19,30]] (by kernel_rfl) (by repeat (first|exact oN|refine ru _ ?_|refine oM ?_)) ?_ ?_ ?_
  ·exact fun t=>(⟨b6.out,y.out,(fun a=>by cases a),(fun a=>by cases a),(fun _=>(show MX k (rlD m2 k.b false false) q _ from(C).out.below (w':={w4 with drawn:=w4.drawn+1}) ⟨rfl,rfl,rfl,Nat.le_refl _,fun _ _=>rfl⟩)),(fun a=>by cases a)⟩:Nc k m2 q bs (fun _=>false) t {w4 with drawn:=w4.drawn+1})
  ·refine ⟨?_,?_,?_,?_,?_,?_,?_,?_,?_,?_,?_,?_,?_,?_,?_,?_,?_,?_,?_,?_,?_,?_,?_,?_,?_,?_,?_,?_,?_,?_,?_,?_,trivial⟩;all_goals(intro L t wq d hL hC hN hh K i;simp only[iQ,Act.put,Nat.reduceAdd,Nat.reduceEqDiff,reduceIte]at hh i⊢;(try simp only[hh]at i⊢);clear hh)
   iterate 3
    ·go_simp;exact i _ _ rfl (IV _ (by decide) aZ d)
   ·go_simp;exact i _ _ trivial (rlB d (by cases h:L 9 with|false=>rfl|true=>exact absurd (hC 9 h 3 (by decide)) (by rw[hL];decide)))
   iterate 4
    ·go_simp;exact i _ _ rfl (IV _ (by decide) aZ d)
   ·obtain⟨I,H,f⟩:=Nh d;have a9:=f.x25;rw[show k.qb=.slice k.A k.n k.c from rfl]at a9;go_simp;exact i _ _ rfl (IV 8 (by decide) aZ d)
   ·obtain⟨A3,n3,c3,e3,V⟩:=d.bu (hN 3 (by decide)) hL;have a8:L 23=false:=by cases h:L 23 with|false=>rfl|true=>exact absurd (hC 23 h 9 (by decide)) (by rw[hL];decide)
    obtain⟨I,H,f⟩:=Nh d;obtain⟨v9,w9,Q,v,a7⟩:=wP wq bs 23 23 9 i0 (.string ByteArray.empty) 16 underlying23 hi c2 c1 c0 rfl (.slice A3 n3 c3) 0 [] V k.A k.n k.c (k.b.aF.map Value.string) (f.Ue d1.out) (kQ _) (by have:=O.out;unfold maxLen;omega) (by have:=O.out;omega) d.sz;obtain⟨A9,c9,a5,_⟩:=aW v;subst a5;simp only[e3]at i⊢;refine F6 ?_ (.tmp 20) (.tmp 25) _ _ ?_ ?_ ?_ ?_ Q ?_
    ·rfl
    ·rfl
    ·rfl
    ·rfl
    ·rfl
    exact i _ _ trivial (rlA d a8 b5.out y.out b0.out V v a3.out a7)
   iterate 4
    ·go_simp;exact i _ _ rfl (IV _ (by decide) aZ d)
   ·obtain⟨I,H,f⟩:=Nh d;have d5:=f.x26;go_simp;exact i _ _ rfl (IV 14 (by decide) aZ d)
   iterate 4
    ·go_simp;exact i _ _ rfl (IV _ (by decide) aZ d)
   ·obtain⟨I,H,f⟩:=Nh d;have d4:=f.x28;go_simp;exact i _ _ rfl (IV 19 (by decide) aZ d)
   iterate 3
    ·go_simp;exact i _ _ rfl (IV _ (by decide) aZ d)
   ·obtain⟨A9,n9,c9,e9,a6⟩:=d.ap (hN 9 (by decide));obtain⟨I,H,f⟩:=Nh d;have a2:=f.x12;have b9:=f.thaw 12;simp only[e9]at i⊢;go_simp;exact i undef _ trivial (rlP d (hN 9 (by decide)) y.out e9 a6)
   iterate 3
    ·go_simp;exact i _ _ rfl (IV _ (by decide) aZ d)
   ·obtain⟨I,H,f⟩:=Nh d;have c7:=f.x13;have b8:=f.thaw 13;go_simp;exact i undef _ trivial (abu d)
   iterate 3
    ·go_simp;exact i _ _ rfl (IV _ (by decide) aZ d)
   obtain⟨I,H,f⟩:=Nh d;have c6:=f.x15;have b7:=f.thaw 15;go_simp;exact i undef _ trivial (abv d)
  intro Lz t wq d r hh;clear hh;simp only[iQ,Act.put,Nat.reduceAdd,Nat.reduceEqDiff,reduceIte];obtain⟨qn,f⟩:=d.ye (r 23 (by decide));rw[r 27 (by decide),r 31 (by decide)]at f;have J:=hid f;clear f d r;go_wp2_with fail
  refine dP J (eH J.out b3.out HR.out HE.out) fun w31 HM31=>?_;go_wp2_with fail
  refine jK (nJ HM31.out b3.out HR.out d7.out HJ.out) fun w32 Y=>?_;go_wp2;first|go_end0|((try simp only[Exit.inBlock,Exit.then]);refine eU rfl rfl ?_)
  exact⟨rfl,_,by rw[HO.out];exact Y.out⟩
 have HO:Hid (lJ k.b m R=mv {m with u:={m.u with au:=k.b.au}} 6 false):=by
  show _=_;unfold lJ;dsimp only;rw[if_pos G];try rfl
 clear ho G E hk a0 Z;clear h hz hR hl hj;go_enter func51,ntmps51;have a1:=s.out.x17;have c4:=s.out.x4;have z4:=s.out.thaw 4;have F:=hid (s.out.AA k.b.au);go_wp2_with fail
 refine dP F (bK F.out HP.out HR.out HL.out) fun w3 HM3=>?_;go_wp2_with fail
 refine jK (iP HM3.out HZ.out 6 false) fun w4 HM4=>?_;go_wp2;first|go_end0|((try simp only[Exit.inBlock,Exit.then]);refine eU rfl rfl ?_)
 exact⟨rfl,_,by rw[HO.out];exact HM4.out⟩
def fiD (m:M) (b:U) (x0 x1 x2:Bool):M:={m with u:={m.u with aS:=if x0=true then b.aS else m.u.aS,hq:=if x1=true then b.hq else m.u.hq,bQ:=if x2=true then b.bQ else m.u.bQ}}
structure LC (k:K) (m:M) (q:Value) (bs:Nat) (L:Nat→Bool) (t:Nat→Value) (w:World):Prop where
 sz:bs≤w.heap.size
 kb:k.B≤bs
 bu:L 9=true→L 15=false→∃A n c,t 9=.slice A n c∧w.ownsRow bs 9 1 (.slice A n c) 0 []
 ap:L 15=true→∃A n c,t 15=.slice A n c∧w.ownsRow bs 9 1 (.slice A n c) k.b.aF.length (k.b.aF.map Value.string)
 no:L 33=false→MX k (fiD m k.b (L 29) (L 37) (L 41)) q w
 ye:L 33=true→∃q',MX k {(fiD m k.b (L 29) (L 37) (L 41))with u:={(fiD m k.b (L 29) (L 37) (L 41)).u with aF:=k.b.aF}} q' w
section
variable {bs:Nat} {L:Nat→Bool} {t:Nat→Value} {v:Value}
theorem SQ (c:LC k m q bs L t w):∃m' a,MX k m' a w:=by
 cases h:L 33 with
 |false=>exact⟨_,_,c.no h⟩
 |true=>obtain⟨a,h⟩:=c.ye h;exact⟨_,a,h⟩
theorem UH (i:Nat) (hi:(i==9||i==15||i==29||i==33||i==37||i==41)=false) {w':World} (f:Below w.heap.size w w') (d:LC k m q bs L t w):LC k m q bs (did L i) (upd t i v) w':=by
 simp only[Bool.or_eq_false_iff,beq_eq_false_iff_ne]at hi;obtain⟨⟨⟨⟨⟨F,g⟩,E⟩,D⟩,C⟩,B⟩:=hi;have I:did L i 9=L 9:=aK L (Ne.symm F);have x:did L i 15=L 15:=aK L (Ne.symm g);have s:did L i 29=L 29:=aK L (Ne.symm E);have r:did L i 33=L 33:=aK L (Ne.symm D);have l:did L i 37=L 37:=aK L (Ne.symm C);have j:did L i 41=L 41:=aK L (Ne.symm B);have G:upd t i v 9=t 9:=by simp[upd,Ne.symm F]
 have y:upd t i v 15=t 15:=by simp[upd,Ne.symm g]
 refine⟨Nat.le_trans d.sz f.size,d.kb,?_,?_,?_,?_⟩
 ·rw[I,x,G];intro a b;obtain⟨A,n,c,e,z⟩:=d.bu a b;exact⟨A,n,c,e,aY z f⟩
 ·rw[x,y];intro a;obtain⟨A,n,c,e,z⟩:=d.ap a;exact⟨A,n,c,e,aY z f⟩
 ·rw[r,s,l,j];intro a;exact(d.no a).below f
 rw[r,s,l,j];intro a;obtain⟨H,h⟩:=d.ye a;exact⟨H,h.below f⟩
theorem fiB (c:LC k m q bs L t w) (r:L 15=false):LC k m q bs (did L 9) (upd t 9 (.slice (some ⟨w.heap.size,0,none⟩) 0 0)) (w.alloc (.cells #[] 9)):=by
 have j:Below w.heap.size w (w.alloc (.cells #[] 9)):=(Below.refl _ _).alloc (Nat.le_refl _) _;have l:did L 9 15=L 15:=aK L (by decide);have g:did L 9 29=L 29:=aK L (by decide);have f:did L 9 33=L 33:=aK L (by decide);have e:did L 9 37=L 37:=aK L (by decide);have d:did L 9 41=L 41:=aK L (by decide);have i:upd t 9 (.slice (some ⟨w.heap.size,0,none⟩) 0 0) 15=t 15:=by simp[upd]
 refine⟨Nat.le_trans c.sz j.size,c.kb,?_,?_,?_,?_⟩
 ·intro _ _;exact⟨some ⟨w.heap.size,0,none⟩,0,0,by simp[upd],aI (World.ownsRow_made w #[] 0 (Nat.le_refl _) (by decide) rfl) c.sz⟩
 ·rw[l,i];intro a;rw[r]at a;cases a
 ·rw[f,g,e,d];intro a;exact(c.no a).below j
 rw[f,g,e,d];intro a;obtain⟨n,h⟩:=c.ye a;exact⟨n,h.below j⟩
theorem fiA (r:LC k m q bs L t w) (F:L 33=false) (E:k.g<bs) (l:k.B≤bs) (hq:∀b,q.ownBlock=some b→b<bs) {A C:Option Addr} {n c h z:Nat} {w':World} (i:w.ownsRow bs 9 1 (.slice A n c) 0 []) (d:w'.ownsRow bs 9 1 (.slice C h z) (0+k.n) ([]++k.b.aF.map Value.string)) (j:k.n=k.b.aF.length) (D:w.grownBy w' (Value.slice A n c).ownBlock):LC k m q bs (did L 15) (upd t 15 (.slice C h z)) w':=by
 have J:did L 15 9=L 9:=aK L (by decide);have y:did L 15 29=L 29:=aK L (by decide);have f:did L 15 33=L 33:=aK L (by decide);have v:did L 15 37=L 37:=aK L (by decide);have s:did L 15 41=L 41:=aK L (by decide);have I:some k.g≠(Value.slice A n c).ownBlock:=fun e=>by have:=(i.lt k.g e.symm).1;omega
 have H:q.ownBlock=none∨q.ownBlock≠(Value.slice A n c).ownBlock:=by
  cases e:q.ownBlock with
  |none=>exact .inl rfl
  |some b=>exact .inr (fun x=>by have:=(i.lt b x.symm).1;have:=hq b e;omega)
 have G:∀b,(Value.slice A n c).ownBlock=some b→k.B≤b:=fun b e=>Nat.le_trans l (i.lt b e).1;refine⟨Nat.le_trans r.sz D.size,r.kb,?_,?_,?_,?_⟩
 ·intro _ b;rw[dI]at b;cases b
 ·intro _;exact⟨C,h,z,by simp[upd],by rw[Nat.zero_add,List.nil_append,j]at d;exact d⟩
 ·rw[f,y,v,s];intro a;exact(r.no a).other D I H G
 rw[f,F];intro a;cases a
theorem fiP (f:LC k m q bs L t w) (C:L 15=true) (d:k.B≤bs) {A:Option Addr} {n c:Nat} (e:t 15=.slice A n c) (j:w.ownsRow bs 9 1 (.slice A n c) k.b.aF.length (k.b.aF.map Value.string)):LC k m q bs (did L 33) (upd t 33 v) (w.setCell ⟨k.g,12,none⟩ (.slice A n c)):=by
 obtain⟨D,y,hx⟩:=SQ f;have E:did L 33 9=L 9:=aK L (by decide);have i:did L 33 15=L 15:=aK L (by decide);have x:did L 33 29=L 29:=aK L (by decide);have s:did L 33 37=L 37:=aK L (by decide);have r:did L 33 41=L 41:=aK L (by decide);have l:upd t 33 v 15=t 15:=by simp[upd]
 have z:=lU hx.row j;refine⟨by rw[World.size_setCell];exact f.sz,f.kb,?_,?_,?_,?_⟩
 ·rw[i,C];intro _ b;cases b
 ·rw[i,l];intro _;exact⟨A,n,c,e,dM j z⟩
 ·rw[dI];intro a;cases a
 rw[x,s,r];intro _;refine⟨.slice A n c,?_⟩;cases h:L 33 with
 |false=>exact(f.no h).ug (aI j d)
 |true=>obtain⟨y,h⟩:=f.ye h;exact h.ug (aI j d)
theorem ae9 (d:LC k m q bs L t w):LC k m q bs (did L 29) (upd t 29 v) (w.setCell ⟨k.g,7,none⟩ (.string (ah k.b.aS))):=by
 obtain⟨B,x,hx⟩:=SQ d;have z:did L 29 9=L 9:=aK L (by decide);have r:did L 29 15=L 15:=aK L (by decide);have l:did L 29 33=L 33:=aK L (by decide);have j:did L 29 37=L 37:=aK L (by decide);have i:did L 29 41=L 41:=aK L (by decide);have y:upd t 29 v 9=t 9:=by simp[upd]
 have s:upd t 29 v 15=t 15:=by simp[upd]
 refine⟨by rw[World.size_setCell];exact d.sz,d.kb,?_,?_,?_,?_⟩
 ·rw[z,r,y];intro a b;obtain⟨A,n,c,e,f⟩:=d.bu a b;exact⟨A,n,c,e,dM f (lU hx.row f)⟩
 ·rw[r,s];intro a;obtain⟨A,n,c,e,f⟩:=d.ap a;exact⟨A,n,c,e,dM f (lU hx.row f)⟩
 ·rw[l,dI,j,i];intro a;exact(d.no a).uf k.b.aS
 rw[l,dI,j,i];intro a;obtain⟨x,h⟩:=d.ye a;exact⟨x,h.uf k.b.aS⟩
theorem afa (d:LC k m q bs L t w):LC k m q bs (did L 37) (upd t 37 v) (w.setCell ⟨k.g,13,none⟩ (.bool k.b.hq)):=by
 obtain⟨B,x,hx⟩:=SQ d;have z:did L 37 9=L 9:=aK L (by decide);have r:did L 37 15=L 15:=aK L (by decide);have l:did L 37 29=L 29:=aK L (by decide);have j:did L 37 33=L 33:=aK L (by decide);have i:did L 37 41=L 41:=aK L (by decide);have y:upd t 37 v 9=t 9:=by simp[upd]
 have s:upd t 37 v 15=t 15:=by simp[upd]
 refine⟨by rw[World.size_setCell];exact d.sz,d.kb,?_,?_,?_,?_⟩
 ·rw[z,r,y];intro a b;obtain⟨A,n,c,e,f⟩:=d.bu a b;exact⟨A,n,c,e,dM f (lU hx.row f)⟩
 ·rw[r,s];intro a;obtain⟨A,n,c,e,f⟩:=d.ap a;exact⟨A,n,c,e,dM f (lU hx.row f)⟩
 ·rw[j,l,dI,i];intro a;exact(d.no a).NK k.b.hq
 rw[j,l,dI,i];intro a;obtain⟨x,h⟩:=d.ye a;exact⟨x,h.NK k.b.hq⟩
theorem afb (d:LC k m q bs L t w):LC k m q bs (did L 41) (upd t 41 v) (w.setCell ⟨k.g,15,none⟩ (.string (ah k.b.bQ))):=by
 obtain⟨B,x,hx⟩:=SQ d;have z:did L 41 9=L 9:=aK L (by decide);have r:did L 41 15=L 15:=aK L (by decide);have l:did L 41 29=L 29:=aK L (by decide);have j:did L 41 33=L 33:=aK L (by decide);have i:did L 41 37=L 37:=aK L (by decide);have y:upd t 41 v 9=t 9:=by simp[upd]
 have s:upd t 41 v 15=t 15:=by simp[upd]
 refine⟨by rw[World.size_setCell];exact d.sz,d.kb,?_,?_,?_,?_⟩
 ·rw[z,r,y];intro a b;obtain⟨A,n,c,e,f⟩:=d.bu a b;exact⟨A,n,c,e,dM f (lU hx.row f)⟩
 ·rw[r,s];intro a;obtain⟨A,n,c,e,f⟩:=d.ap a;exact⟨A,n,c,e,dM f (lU hx.row f)⟩
 ·rw[j,l,i,dI];intro a;exact(d.no a).vF k.b.bQ
 rw[j,l,i,dI];intro a;obtain⟨x,h⟩:=d.ye a;exact⟨x,h.vF k.b.bQ⟩
end
theorem Ju (h:k.has=false∨k.b.au≠aB):(k.base.filter fun b=>decide (b.au=aB))=none:=by
 unfold K.has K.b at h;cases e:k.base with
 |none=>rfl
 |some b=>
  rw[e]at h;rcases h with h|h
  ·cases h
  exact Option.filter_eq_none_iff.2 (fun x hx=>by cases hx;simpa using h)
theorem zD (c:k.has=true) (a:k.b.au=aB):(k.base.filter fun b=>decide (b.au=aB))=some k.b:=by
 unfold K.has K.b at*;cases e:k.base with
 |none=>rw[e]at c;cases c
 |some b=>
  rw[e]at a;have a:b.au=aB:=a;show Option.filter _ (some b)=some b;simp[Option.filter,a]
theorem acr (hk:KB k) (Y:k.n≤400000) (a5:k.T.length≤1000000) (h:MX k m q w) (hz:m.p=(j:Int)) (hR:k.T.drop j=R) (hl:k.T.length≤4611686018427387904) (hj:j≤k.T.length):Calls prog 58 #[.pointer (some ⟨k.g,0,none⟩)] w fun e w'=>e=.returned (.tuple #[])∧∃q',MX k (jh k.base m R) q' w':=by
 obtain⟨i0,hi,d6,d5,d4⟩:=info_parts iW;have d:=hid h;have HR:=hid hR;have HZ:Hid (-4611686018427387904≤m.p∧m.p≤4611686018427387904):=⟨by omega,by omega⟩;have f1:=hid hl;have HJ:=hid hj;have f3:=hid hk;have Z:k.n=k.b.aF.length:=by have:=hk.Ue.1;rw[List.length_map]at this;exact this.symm
 have b7:=hid Z;have a9:=hid Y;obtain⟨o,ho⟩:∃o,bY R=o:=⟨_,rfl⟩;have HE:=hid ho;have D:aj aB=true:=by decide
 obtain⟨l,C⟩:∃l,kR true R=l:=⟨_,rfl⟩;obtain⟨m2,r⟩:∃x,x={m with u:={m.u with au:=aB,hh:=true,aS:=[]}}:=⟨_,rfl⟩;have HL:Hid (kR (sp m2) R=l):=by show _=_;rw[r,←C,←D];rfl
 have H:Hid (m2.p=(j:Int)):=by show _=_;rw[r];exact hz
 have a0:Hid (-4611686018427387904≤m2.p∧m2.p≤4611686018427387904):=by show _∧_;rw[r];exact HZ.out
 have a8:=hid r;obtain⟨bh,hh⟩:∃x,k.has=x:=⟨_,rfl⟩;have HH:=hid hh;obtain⟨S,hS⟩:∃S,k.b.au=S:=⟨_,rfl⟩;have d1:=hid hS;obtain⟨X,f⟩:∃X,X=ah R:=⟨_,rfl⟩;have HX:Hid (ah (k.T.drop j)=X):=by show _=_;rw[f,hR]
 have e8:Hid (X.size≤1073741824):=by show _≤_;rw[f,ak,←hR,List.length_drop];omega
 obtain⟨bg,Q⟩:∃x,pR R=x:=⟨_,rfl⟩;have f5:Hid (pR X.data.toList=bg):=by show _=_;rw[f,←Q];rfl
 rcases l with _|_
 ·rcases bh with _|_
  ·skip
   have HO:Hid (jh k.base m R=mv m2 15 true):=by
    show _=_;unfold jh;dsimp only;rw[if_neg (by rw[C];decide),Ju (.inl hh),r];try rfl
   clear ho C r hk Z Y D hh hS f Q a5;clear h hz hR hl hj;go_enter func58,ntmps58;have c4:=d.out.x4;have c8:=d.out.x8;have c7:=d.out.x7;have z4:=d.out.thaw 4;have z8:=d.out.thaw 8;have z7:=d.out.thaw 7;have O:=hid (d.out.AA aB);have J:=hid (O.out.Uz true);have I:=hid (J.out.uf []);have s:=hid (I.out.as a8.out);go_wp2_with fail
   refine dP s (bK s.out H.out HR.out HL.out) fun w5 HM5=>?_;clear c4 c8 c7 z4 z8 z7;have V:=HM5.out.x30;rw[HH.out]at V;go_wp2_with fail
   refine jK (iP HM5.out a0.out 15 true) fun w6 HM6=>?_;go_wp2;first|go_end0|((try simp only[Exit.inBlock,Exit.then]);refine eU rfl rfl ?_)
   exact⟨rfl,_,by rw[HO.out];exact HM6.out⟩
  by_cases hf:S=aB
  ·have a4:Hid (((ah S).toList==[102,105,108,101])=true):=by show _=_;rw[mW.dU];exact decide_eq_true hf
   have b8:Hid (((ah S).toList !=[102,105,108,101])=false):=by show _=_;rw[bne,a4.out];rfl
   have HO:Hid (jh k.base m R=if o=true then tail {m2 with u:={m2.u with aS:=k.b.aS,aF:=k.b.aF,hq:=k.b.hq,bQ:=k.b.bQ}} R else mv {m2 with u:={m2.u with aS:=k.b.aS,aF:=if bg=true then[]else jd true k.b.aF,hq:=false,bQ:=[]}} 15 true):=by
    show _=_;unfold jh;dsimp only;rw[if_neg (by rw[C];decide),zD hh (hS.trans hf),r];dsimp only;rw[ho,Q];try rfl
   clear ho C r hk Z Y D hh hS f Q a5 hf;clear h hz hR hl hj;go_enter func58,ntmps58;have c4:=d.out.x4;have c8:=d.out.x8;have c7:=d.out.x7;have z4:=d.out.thaw 4;have z8:=d.out.thaw 8;have z7:=d.out.thaw 7;have O:=hid (d.out.AA aB);have J:=hid (O.out.Uz true);have I:=hid (J.out.uf []);have s:=hid (I.out.as a8.out);go_wp2_with fail
   refine dP s (bK s.out H.out HR.out HL.out) fun w5 HM5=>?_;clear c4 c8 c7 z4 z8 z7;have V:=HM5.out.x30;rw[HH.out]at V;have a6:=HM5.out.x17;rw[d1.out]at a6;have d0:=a4.out;have c6:=b8.out;go_wp2_with fail
   clear V a6 d0 c6;try generalize ((ah S).toList==[102,105,108,101])=gf
   try generalize ((ah S).toList !=[102,105,108,101])=gn
   obtain⟨bs,sG⟩:∃bs,bs=w5.heap.size:=⟨_,rfl⟩;have f2:Hid (k.g<bs):=by show _<_;rw[sG];exact HM5.out.lt
   have a3:Hid (k.B≤bs):=by show _≤_;rw[sG];exact HM5.out.size
   have f0:Hid (∀b,q.ownBlock=some b→b<bs):=fun b e=>by rw[sG];exact(HM5.out.own.lt b e).2
   have f4:Hid (bs≤w5.heap.size):=Nat.le_of_eq sG;clear sG;refine iH (by kernel_rfl) (LC k m2 q bs) [pg k.g 0,pg k.g 0,pg k.g 0,pg k.g 0,pg k.g 0,pg k.g 0,pg k.g 17,pg k.g 20,is (.string (ah k.b.aS)),any,pg k.g 0,pg k.g 0,pg k.g 17,pg k.g 25,is (.slice k.A k.n k.c),any,pg k.g 0,pg k.g 0,pg k.g 17,pg k.g 26,is (.bool k.b.hq),pg k.g 0,pg k.g 0,pg k.g 17,pg k.g 28,is (.string (ah k.b.bQ)),pg k.g 0,pg k.g 4,pg k.g 7,any,pg k.g 0,pg k.g 4,pg k.g 12,any,pg k.g 0,pg k.g 4,pg k.g 13,any,pg k.g 0,pg k.g 4,pg k.g 15,any] [[],[],[],[],[],[4],[5],[6],[7],[],[],[10],[11],[12],[13],[9,14],[],[16],[17],[18],[19],[],[21],[22],[23],[24],[0],[26],[27],[8,28],[1],[30],[31],[15,32],[2],[34],[35],[20,36],[3],[38],[39],[25,40]] (by kernel_rfl) (by repeat (first|exact oN|refine ru _ ?_|refine oM ?_)) ?_ ?_ ?_
   ·exact fun t=>(⟨f4.out,a3.out,(fun a=>by cases a),(fun a=>by cases a),(fun _=>(show MX k (fiD m2 k.b false false false) q _ from(HM5).out.below (w':={w5 with drawn:=w5.drawn+1}) ⟨rfl,rfl,rfl,Nat.le_refl _,fun _ _=>rfl⟩)),(fun a=>by cases a)⟩:LC k m2 q bs (fun _=>false) t {w5 with drawn:=w5.drawn+1})
   ·refine ⟨?_,?_,?_,?_,?_,?_,?_,?_,?_,?_,?_,?_,?_,?_,?_,?_,?_,?_,?_,?_,?_,?_,?_,?_,?_,?_,?_,?_,?_,?_,?_,?_,?_,?_,?_,?_,?_,?_,?_,?_,?_,?_,trivial⟩;all_goals(intro L t wq i hL hC hN hh K y;simp only[iQ,Act.put,Nat.reduceAdd,Nat.reduceEqDiff,reduceIte]at hh y⊢;(try simp only[hh]at y⊢);clear hh)
    iterate 8
     ·go_simp;exact y _ _ rfl (UH _ (by decide) aZ i)
    ·obtain⟨m_,q_,f⟩:=SQ i;have g2:=f.x20;go_simp;exact y _ _ rfl (UH 8 (by decide) aZ i)
    ·go_simp;exact y _ _ trivial (fiB i (by cases h:L 15 with|false=>rfl|true=>exact absurd (hC 15 h 9 (by decide)) (by rw[hL];decide)))
    iterate 4
     ·go_simp;exact y _ _ rfl (UH _ (by decide) aZ i)
    ·obtain⟨m_,q_,f⟩:=SQ i;have e5:=f.x25;rw[show k.qb=.slice k.A k.n k.c from rfl]at e5;go_simp;exact y _ _ rfl (UH 14 (by decide) aZ i)
    ·obtain⟨A3,n3,c3,e3,c2⟩:=i.bu (hN 9 (by decide)) hL;have e4:L 33=false:=by cases h:L 33 with|false=>rfl|true=>exact absurd (hC 33 h 15 (by decide)) (by rw[hL];decide)
     obtain⟨m_,q_,f⟩:=SQ i;obtain⟨v9,w9,c0,W,e2⟩:=wP wq bs 23 23 9 i0 (.string ByteArray.empty) 16 underlying23 hi d6 d5 d4 rfl (.slice A3 n3 c3) 0 [] c2 k.A k.n k.c (k.b.aF.map Value.string) (f.Ue f3.out) (kQ _) (by have:=a9.out;unfold maxLen;omega) (by have:=a9.out;omega) i.sz;obtain⟨A9,c9,d9,_⟩:=aW W;subst d9;simp only[e3]at y⊢;refine F6 ?_ (.tmp 42) (.tmp 47) _ _ ?_ ?_ ?_ ?_ c0 ?_
     ·rfl
     ·rfl
     ·rfl
     ·rfl
     ·rfl
     exact y _ _ trivial (fiA i e4 f2.out a3.out f0.out c2 W b7.out e2)
    iterate 4
     ·go_simp;exact y _ _ rfl (UH _ (by decide) aZ i)
    ·obtain⟨m_,q_,f⟩:=SQ i;have g1:=f.x26;go_simp;exact y _ _ rfl (UH 20 (by decide) aZ i)
    iterate 4
     ·go_simp;exact y _ _ rfl (UH _ (by decide) aZ i)
    ·obtain⟨m_,q_,f⟩:=SQ i;have g0:=f.x28;go_simp;exact y _ _ rfl (UH 25 (by decide) aZ i)
    iterate 3
     ·go_simp;exact y _ _ rfl (UH _ (by decide) aZ i)
    ·obtain⟨m_,q_,f⟩:=SQ i;have c7:=f.x7;have z7:=f.thaw 7;go_simp;exact y undef _ trivial (ae9 i)
    iterate 3
     ·go_simp;exact y _ _ rfl (UH _ (by decide) aZ i)
    ·obtain⟨A9,n9,c9,e9,e1⟩:=i.ap (hN 15 (by decide));obtain⟨m_,q_,f⟩:=SQ i;have a7:=f.x12;have b9:=f.thaw 12;simp only[e9]at y⊢;go_simp;exact y undef _ trivial (fiP i (hN 15 (by decide)) a3.out e9 e1)
    iterate 3
     ·go_simp;exact y _ _ rfl (UH _ (by decide) aZ i)
    ·obtain⟨m_,q_,f⟩:=SQ i;have e7:=f.x13;have d3:=f.thaw 13;go_simp;exact y undef _ trivial (afa i)
    iterate 3
     ·go_simp;exact y _ _ rfl (UH _ (by decide) aZ i)
    obtain⟨m_,q_,f⟩:=SQ i;have e6:=f.x15;have d2:=f.thaw 15;go_simp;exact y undef _ trivial (afb i)
   intro Lz t wq i F hh;clear hh;simp only[iQ,Act.put,Nat.reduceAdd,Nat.reduceEqDiff,reduceIte];obtain⟨qn,f⟩:=i.ye (F 33 (by decide));rw[F 29 (by decide),F 37 (by decide),F 41 (by decide)]at f;have b6:=hid f;clear f i F;have E:=b6.out.BN (P:=k.b.aF) (N:=k.n) rfl b7.out.symm;obtain⟨vA,vc,d8,_⟩:=aW E;subst d8;clear E;go_wp2_with fail
   refine dP b6 (eH b6.out H.out HR.out HE.out) fun w31 HM31=>?_;rcases o with _|_
   ·have c1:=HM31.out.x1j H.out;have e7:=HM31.out.x13;have e6:=HM31.out.x15;have d3:=HM31.out.thaw 13;have d2:=HM31.out.thaw 15;have a2:=hid (HM31.out.NK false);have b5:=hid (a2.out.vF []);go_wp2_with fail
    refine(qL b5.out j).mono ?_;rintro f9 f7 ⟨rfl,b3⟩;rw[HX.out];have v:=hid (b5.out.below b3);clear b3 c1;go_wp2_with fail
    refine(KL.lK X _ e8.out).mono ?_;rintro e_ w_ ⟨rfl,d7⟩;subst d7;rw[f5.out];rcases bg with _|_
    ·have a7:=v.out.x12;have E:=v.out.BN (P:=k.b.aF) (N:=k.n) rfl b7.out.symm;have c5:=a9.out;go_wp2_with fail
     clear a7 c5;refine(Di true k.B vA k.n vc k.b.aF _ E v.out.size (by have:=a9.out;omega)).mono ?_;rintro f8 f6 ⟨v_,rfl,z,b0⟩;obtain⟨sA,sc,e0,_⟩:=aW z;subst e0;have G:=hid (v.out.below b0);clear b0 E;have a7:=G.out.x12;have b9:=G.out.thaw 12;have a1:=hid (G.out.ug z);clear z;go_wp2_with fail
     refine jK (iP a1.out a0.out 15 true) fun w37 HM37=>?_;go_wp2;first|go_end0|((try simp only[Exit.inBlock,Exit.then]);refine eU rfl rfl ?_)
     exact⟨rfl,_,by rw[HO.out,if_neg (by simp)];exact HM37.out⟩
    have a7:=v.out.x12;have b9:=v.out.thaw 12;have G:=hid (v.out.ug (P:=[]) (World.ownsRow_nil _ _ _ _));go_wp2_with fail
    refine jK (iP G.out a0.out 15 true) fun w36 a1=>?_;go_wp2;first|go_end0|((try simp only[Exit.inBlock,Exit.then]);refine eU rfl rfl ?_)
    exact⟨rfl,_,by rw[HO.out,if_neg (by simp)];exact a1.out⟩
   go_wp2_with fail
   refine jK (nJ HM31.out H.out HR.out f1.out HJ.out) fun w32 a2=>?_;go_wp2;first|go_end0|((try simp only[Exit.inBlock,Exit.then]);refine eU rfl rfl ?_)
   exact⟨rfl,_,by rw[HO.out,if_pos (by simp)];exact a2.out⟩
  have a4:Hid (((ah S).toList==[102,105,108,101])=false):=by show _=_;rw[mW.dU];exact decide_eq_false hf
  have b8:Hid (((ah S).toList !=[102,105,108,101])=true):=by show _=_;rw[bne,a4.out];rfl
  have HO:Hid (jh k.base m R=mv m2 15 true):=by
   show _=_;unfold jh;dsimp only;rw[if_neg (by rw[C];decide),Ju (.inr (fun x=>hf (hS.symm.trans x))),r];try rfl
  clear ho C r hk Z Y D hh hS f Q a5 hf;clear h hz hR hl hj;go_enter func58,ntmps58;have c4:=d.out.x4;have c8:=d.out.x8;have c7:=d.out.x7;have z4:=d.out.thaw 4;have z8:=d.out.thaw 8;have z7:=d.out.thaw 7;have O:=hid (d.out.AA aB);have J:=hid (O.out.Uz true);have I:=hid (J.out.uf []);have s:=hid (I.out.as a8.out);go_wp2_with fail
  refine dP s (bK s.out H.out HR.out HL.out) fun w5 HM5=>?_;clear c4 c8 c7 z4 z8 z7;have V:=HM5.out.x30;rw[HH.out]at V;have a6:=HM5.out.x17;rw[d1.out]at a6;have d0:=a4.out;have c6:=b8.out;go_wp2_with fail
  refine jK (iP HM5.out a0.out 15 true) fun w6 HM6=>?_;go_wp2;first|go_end0|((try simp only[Exit.inBlock,Exit.then]);refine eU rfl rfl ?_)
  exact⟨rfl,_,by rw[HO.out];exact HM6.out⟩
 skip
 have HO:Hid (jh k.base m R=mv m2 12 false):=by
  show _=_;unfold jh;dsimp only;rw[if_pos C,r];try rfl
 clear ho C r hk Z Y D hh hS f Q a5;clear h hz hR hl hj;go_enter func58,ntmps58;have c4:=d.out.x4;have c8:=d.out.x8;have c7:=d.out.x7;have z4:=d.out.thaw 4;have z8:=d.out.thaw 8;have z7:=d.out.thaw 7;have O:=hid (d.out.AA aB);have J:=hid (O.out.Uz true);have I:=hid (J.out.uf []);have s:=hid (I.out.as a8.out);go_wp2_with fail
 refine dP s (bK s.out H.out HR.out HL.out) fun w5 HM5=>?_;go_wp2_with fail
 refine jK (iP HM5.out a0.out 12 false) fun w6 HM6=>?_;go_wp2;first|go_end0|((try simp only[Exit.inBlock,Exit.then]);refine eU rfl rfl ?_)
 exact⟨rfl,_,by rw[HO.out];exact HM6.out⟩
end YF
