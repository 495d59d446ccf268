/- Lemmas. -/
import Derived.Test.YtmbpmbapelfobaaGreatDoorOTAAQ
set_option linter.unusedSimpArgs false
set_option linter.unusedVariables false
set_option maxRecDepth 100000
set_option maxHeartbeats 64000000
namespace Go.Proofs.YtmbpmbapelfobaaGreatDoor
open Tryz
namespace fF
open Go.RowKit Base aV qB jY
variable {k:K} {m:M} {q:Value} {w w':World}
theorem MX.ug (h:MX k m q w) {v:Value} {P:List ByteArray} (a:w.ownsRow k.B 9 1 v P.length (P.map Value.string)):MX k {m with u:={m.u with aF:=P}} v (w.setCell ⟨k.g,12,none⟩ v):=⟨heap_setCell_same w k.g 12 _ _ _ h.row,gB a (iD h.row a),h.bD.setCell h.le _,h.le⟩
structure NT (k:K) (m:M) (q:Value) (w:World):Prop where
 row:w.heap[k.g]?=some (.cells (OX k m q) 48 (0,0))
 bD:Below k.B k.w0 w
 le:k.B≤k.g
theorem NT.thaw (h:NT k m q w) (i:Nat):w.frozen? ⟨k.g,i,none⟩=false:=frozen_of_row w k.g i _ _ h.row
theorem NT.ug (h:NT k m q w) {v:Value} {P:List ByteArray} (a:w.ownsRow k.B 9 1 v P.length (P.map Value.string)):MX k {m with u:={m.u with aF:=P}} v (w.setCell ⟨k.g,12,none⟩ v):=⟨heap_setCell_same w k.g 12 _ _ _ h.row,gB a (iD h.row a),h.bD.setCell h.le _,h.le⟩
theorem MX.grown (h:MX k m q w) (a:w.grownBy w' q.ownBlock):NT k m q w':=
 ⟨(a.block _ h.lt (fun e=>iD h.row h.own e.symm)).trans h.row,h.bD.grown a h.size (fun g' hg'=>(h.own.lt g' hg').1),h.le⟩
theorem NT.x12 (h:NT k m q w):w.cell? ⟨k.g,12,none⟩=some q:=cell_of_row w k.g 12 _ _ _ h.row
theorem NT.x3 (h:NT k m q w):w.cell? ⟨k.g,3,none⟩=some (.string (ah m.buf)):=cell_of_row w k.g 3 _ _ _ h.row
theorem MX.BN (h:MX k m q w) {P:List ByteArray} {N:Nat} (a:m.u.aF=P) (c:P.length=N):w.ownsRow k.B 9 1 q N (P.map Value.string):=by
 have:=h.own;rw[a,c]at this;exact this
theorem zZ {w:World} {B N:Nat} {v:Value} {P:List ByteArray} {x:ByteArray} (a:P.length=N) (h:w.ownsRow B 9 1 v (N+1) (P.map Value.string++[Value.string x])):w.ownsRow B 9 1 v (P++[x]).length ((P++[x]).map Value.string):=by
 rw[List.length_append,a,List.map_append];exact h
end fF
namespace YD
open Go.RowKit Base aV fU dJ dw ig iy mJ Je jr qU abT aC jY fF xQ yw
variable {k:K} {m:M} {q:Value} {w:World} {j:Nat} {R:List UInt8}
def _root_.Go.Proofs.YtmbpmbapelfobaaGreatDoor.dJ.ahi (B:Nat) (l:List ByteArray):Keep:=⟨fun v w=>∃A n c,v=.slice A n c∧w.ownsRow B 9 1 (.slice A n c) l.length (l.map Value.string),fun _ _ _ hb ⟨A,n,c,h1,h2⟩=>⟨A,n,c,h1,aY h2 hb⟩⟩
theorem made1 (w:World) (x:ByteArray):dW (w.alloc (.cells #[Value.string x] 9)) (some ⟨w.heap.size,0,none⟩) 1 [Value.string x]:=
 dW.lT rfl (by simp) fun j hj=>by rw[Nat.zero_add,World.cell?_alloc_mark];match j,hj with|0,_=>rfl
theorem yQ {s:Bool} (h:bY R=true):kR s R=false:=by
 match R,h with
 |[],_=>rfl
 |c::L,h=>
  have h:(decide (c=63)||decide (c=35))=true:=h;show bU s c=false;simp only[Bool.or_eq_true,decide_eq_true_eq]at h;rcases h with rfl|rfl<;>cases s<;>decide
theorem JI (c:UInt8) (h:letter (c.toNat:Int)=true):jV.iC 4 c.toNat=false:=by
 have H:∀n:Fin 256,letter (n.val:Int)=true→jV.iC 4 (n.val:Int)=false:=by decide+kernel
 exact H ⟨c.toNat,c.toNat_lt⟩ h
theorem SK (b:List UInt8) (h:mO b=true):aP.enc 4 (b.take 1++[58])=b.take 1++[58]:=by
 match b,h with
 |[x,y],h=>
  have hx:letter (x.toNat:Int)=true:=by
   simp only[mO,Bool.and_eq_true]at h;exact h.1
  have c:=JI x hx;have a:jV.iC 4 ((58:UInt8).toNat:Int)=false:=by decide+kernel
  simp only[List.take_succ_cons,List.take_zero,List.cons_append,List.nil_append,aP.enc,List.flatMap_cons,List.flatMap_nil,aP.one,c,a];rfl
theorem J7 (file e:Bool) (l:List ByteArray) (b:List UInt8) (h:qh b=true):sH file e l b=if e then jd file l++[ah []]else jd file l:=by unfold sH;rw[if_pos h]
theorem Ea (file e:Bool) (l:List ByteArray) (b:List UInt8) (h:qh b=false) (a:qW b=true):sH file e l b=if e then l++[ah []]else l:=by unfold sH;rw[h,if_neg (by decide),if_pos a]
theorem Ap (file e:Bool) (l:List ByteArray) (b:List UInt8) (h:qh b=false) (a:qW b=false):sH file e l b=l++[ah (wr (file&&l.isEmpty) b)]:=by unfold sH;rw[h,if_neg (by decide),a,if_neg (by decide)]
theorem GR (file:Bool) (l:List ByteArray):(jd file l).length≤l.length:=by rw[nU];split<;>omega
theorem O6 {w:World} {B N:Nat} {A:Option Addr} {n c:Nat} {l:List ByteArray} (h:w.ownsRow B 9 1 (.slice A n c) N (l.map Value.string)):dW w A n (l.map Value.string):=by
 obtain⟨f,d,e,_,_,a⟩:=aW h;cases e;exact a
theorem WX (dp:Dp) (h:MX k m q w) (H:m.p=(j:Int)) (J:k.T.drop j=R) (Q:k.T.length≤4611686018427387904) (V:j≤k.T.length) (r:m.buf.length≤900000) (z:m.u.aF.length≤500000) (W:bY R=false∧kR (sp m) R=false):Calls prog 62 #[.pointer (some ⟨k.g,0,none⟩),.int .u8 ((cc R).toNat:Int)] w fun e w'=>e=.returned (.tuple #[])∧∃q',MX k (iF m R) q' w':=by
 have s:=hid h;have O:=hid H;have N:=hid J;obtain⟨B,v⟩:∃B,m.buf=B:=⟨_,rfl⟩;have G:=hid v;have F:Hid (B.length≤900000):=by show _≤_;rw[←v];exact r
 obtain⟨c,C⟩:∃c,c=cc R:=⟨_,rfl⟩;rw[←C];obtain⟨A,f⟩:=W;have HE:=hid A;have HL:=hid f;have Z:Hid (iF m R={m with buf:=B++[c]}):=by
  show _=_;unfold iF;rw[if_pos ⟨A,f⟩,v,C]
 clear v C A f r dp z;clear h H J Q V;go_enter func62,ntmps62;go_wp2_with fail
 refine dP s (eH s O N HE) fun w2 HM2=>?_;go_wp2_with fail
 refine dP HM2 (bK HM2 O N HL) fun w3 HM3=>?_;go_wp2_with fail
 refine bf (by kernel_rfl) 11 [pg k.g 0,pg k.g 0,pg k.g 0,pg k.g 3,is (.string (ah B)),is (.int .u8 (c.toNat:Int)),row 1 (aU [c]),is (.string (ah [c])),is (.string (ah (B++[c]))),pg k.g 0,pg k.g 3] [[],[],[1],[1,2],[1,2,3],[],[5],[5,6],[1,2,3,4,5,6,7],[0],[0,9],[0,1,2,3,4,5,6,7,8,9,10]] (by kernel_rfl) ?_ ?_
 ·refine ⟨?_,?_,?_,?_,?_,?_,?_,?_,?_,?_,?_,trivial⟩;all_goals(intro t n i hh K a;simp only[iQ,qQ,Act.put,Nat.reduceAdd,Nat.reduceEqDiff,reduceIte]at hh a⊢)
  iterate 4
   ·try simp only[hh]at a⊢
    clear hh;go_simp;exact a _ _ aZ rfl
  ·try simp only[hh]at a⊢
   clear hh;have L:=(HM3.below i).x3;rw[G.out]at L;go_simp;exact a _ _ aZ rfl
  ·try simp only[hh]at a⊢
   clear hh;go_simp;exact a _ _ aZ rfl
  ·try simp only[hh]at a⊢
   clear hh;go_simp;exact a _ _ ((Below.refl _ _).alloc (Nat.le_refl _) _) ⟨_,_,rfl,Nat.le_refl _,by decide,iT n [c] 5 (0,0)⟩
  ·have D:=hh.2.1;clear hh;obtain⟨A6,Y,D,X,P,y⟩:=D;simp only[D]at a⊢;have hs:=bI 55 9 5 underlying55 underlying5 underlying9 _ Y y;go_simp;exact a _ _ aZ rfl
  ·try simp only[hh]at a⊢
   clear hh;have I:(Op.stringOp .add (ah B) (ah [c])).run prog n=.ok (.string (ah (B++[c]))) n:=bH _ _ n (by have:=F.out;simp;omega);go_simp;exact a _ _ aZ rfl
  iterate 2
   ·try simp only[hh]at a⊢
    clear hh;go_simp;exact a _ _ aZ rfl
 intro t n i hh;have x:=aO hh 8 (by decide);simp only[pick]at x;replace x:t 8=(.string (ah (B++[c]))):=x;have d:=aO hh 10 (by decide);simp only[pick]at d;replace d:t 10=(.pointer (some ⟨k.g,3,none⟩)):=d;clear hh;simp only[iQ,qQ,Act.put,Nat.reduceAdd,Nat.reduceEqDiff,reduceIte];simp only[x,d];have l:=hid (HM3.below i);have E:=hid (l.buf (B++[c]));have z3:=l.thaw 3;have L:=l.x3;go_wp2;first|go_end0|((try simp only[Exit.inBlock,Exit.then]);refine eU rfl rfl ?_)
 exact⟨rfl,_,by rw[Z.out];exact E⟩
theorem WY (dp:Dp) (h:MX k m q w) (hz:m.p=(j:Int)) (hR:k.T.drop j=R) (hl:k.T.length≤4611686018427387904) (hj:j≤k.T.length) (b8:m.buf.length≤900000) (b3:m.u.aF.length≤500000) (hg:¬(bY R=false∧kR (sp m) R=false)) (hd:qh m.buf=true):Calls prog 62 #[.pointer (some ⟨k.g,0,none⟩),.int .u8 ((cc R).toNat:Int)] w fun e w'=>e=.returned (.tuple #[])∧∃q',MX k (iF m R) q' w':=by
 obtain⟨i0,hi,a5,a4,a3⟩:=info_parts iW;have HP:=hid hz;have HR:=hid hR;obtain⟨B,hB⟩:∃B,m.buf=B:=⟨_,rfl⟩;have d0:=hid hB;have c9:Hid (B.length≤900000):=by show _≤_;rw[←hB];exact b8
 obtain⟨c,hc⟩:∃c,c=cc R:=⟨_,rfl⟩;rw[←hc];have c8:=hid hl;have HJ:=hid hj;obtain⟨l,s⟩:∃l,kR (sp m) R=l:=⟨_,rfl⟩;have HL:=hid s;obtain⟨o,ho⟩:∃o,bY R=o:=⟨_,rfl⟩;have HE:=hid ho;obtain⟨P,hP⟩:∃P,m.u.aF=P:=⟨_,rfl⟩;obtain⟨N,hN⟩:∃N,P.length=N:=⟨_,rfl⟩;have e7:=hid hP;have e8:=hid hN;have c7:Hid (N≤500000):=by show _≤_;rw[←hN,←hP];exact b3
 obtain⟨S,hS⟩:∃S,m.u.au=S:=⟨_,rfl⟩;have e2:=hid hS;obtain⟨fl,V⟩:∃x,decide (S=aB)=x:=⟨_,rfl⟩;have e9:Hid (((ah S).toList==[102,105,108,101])=fl):=by show _=_;rw[mW.dU,←V];rfl
 obtain⟨qA,qc,d7,a9,b0,d6⟩:=aW (h.BN hP hN);subst d7;have e3:=hid a9;have e6:=hid b0;have L:=hid h;have hg:¬(o=false∧l=false):=fun x=>hg ⟨ho.trans x.1,s.trans x.2⟩;have W:(o=true∧l=false)∨(o=false∧l=true):=by
  cases o with
  |true=>exact .inl ⟨rfl,s▸yQ ho⟩
  |false=>cases l with
   |true=>exact .inr ⟨rfl,rfl⟩
   |false=>exact absurd ⟨rfl,rfl⟩ hg
 have HD:Hid (qh B=true):=by show _=_;rw[←hB,hd]
 obtain⟨A,G⟩:∃A,jd fl P=A:=⟨_,rfl⟩;have e1:=hid G;obtain⟨O,Y⟩:∃O,A.length=O:=⟨_,rfl⟩;have J:=hid Y;have c6:Hid (O≤500000):=by show _≤_;have:=GR fl P;have:=c7.out;rw[←Y,←G];omega
 have HO:Hid (iF m R=tail {m with u:={m.u with aF:=if l=false then A++[⟨#[]⟩]else A},buf:=[]} R):=by
  show _=_;unfold iF;rw[if_neg (fun x=>hg ⟨ho▸x.1,s▸x.2⟩),J7 _ _ _ _ hd,s,hP,hS,V,G];cases l<;>rfl
 have c2:Hid (m.p=(j:Int)):=hz;clear hg hd G Y;clear hB hc s ho b8 dp b3;clear hP hN hS V a9 b0 d6;clear h hz hR hl hj;have f4:=c6.out;have d9:=c7.out;rcases W with⟨rfl,rfl⟩|⟨rfl,rfl⟩
 focus
  go_enter func62,ntmps62;go_wp2_with fail
  refine dP L (eH L HP HR HE) fun w2 HM2=>?_;go_wp2_with fail
  refine dP HM2 (bK HM2 HP HR HL) fun w3 HM3=>?_;have Z:=HM3.x3;rw[d0.out]at Z;go_wp2_with fail
  clear Z;refine(KJ.jT (ah B) _ (by have:=c9.out;rw[ak];omega)).mono ?_;rintro e4 wD ⟨rfl,b9⟩;rw[show qh (ah B).data.toList=true from HD.out];have a0:=hid (HM3.below b9);clear b9
 rotate_left
 focus
  go_enter func62,ntmps62;go_wp2_with fail
  refine dP L (eH L HP HR HE) fun w2 HM2=>?_;go_wp2_with fail
  refine dP HM2 (bK HM2 HP HR HL) fun w3 HM3=>?_;go_wp2_with fail
  refine dP HM3 (bK HM3 HP HR HL) fun w4 HM4=>?_;have Z:=HM4.x3;rw[d0.out]at Z;go_wp2_with fail
  clear Z;refine(KJ.jT (ah B) _ (by have:=c9.out;rw[ak];omega)).mono ?_;rintro e5 wD ⟨rfl,F⟩;rw[show qh (ah B).data.toList=true from HD.out];have a0:=hid (HM4.below F);clear F
 rotate_left
 all_goals
  go_wp2_with fail
  have r:=hid (a0.below (w':=wD.drew) ⟨rfl,rfl,rfl,Nat.le_refl _,fun _ _=>rfl⟩);refine wp_region_any (by kernel_rfl) ?_;change wpAny _ _ _ _ _ _ _ (World.drew _);refine wpAny_take (i:=0) (v:=(.pointer (some ⟨k.g,0,none⟩))) rfl (by kernel_rfl) (by kernel_rfl) (by kernel_rfl) (fun _ _ _ h=>h) (Or.inl ⟨by rfl,?yy0⟩) ?_;case yy0=>(intro w;go_simp;try with_reducible rfl)
  simp only[List.getElem_toArray,List.getElem_cons_zero,List.getElem_cons_succ,Act.put,List.setIfInBounds_toArray,List.set_cons_zero,List.set_cons_succ];refine Gq 14 [pg k.g 0,ahi wD.heap.size [],pg k.g 0,pg k.g 0,pg k.g 4,pg k.g 4,is (.string (ah S)),is (.bool fl),pg k.g 0,pg k.g 0,pg k.g 4,pg k.g 12,is (.slice qA N qc),row O (A.map Value.string)] [[],[],[],[2],[2,3],[2,3,4],[2,3,4,5],[2,3,4,5,6],[],[8],[8,9],[8,9,10],[8,9,10,11],[2,3,4,5,6,7,8,9,10,11,12],[1,2,3,4,5,6,7,8,9,10,11,12,13]] [0] (by kernel_rfl) (by kernel_rfl) (by kernel_rfl) ?_ ?_ ?_
  ·intro k hk;simp only[List.mem_cons,List.not_mem_nil,or_false]at hk;subst hk;rfl
  ·refine ⟨?_,?_,?_,?_,?_,?_,?_,?_,?_,?_,?_,?_,?_,?_,trivial⟩;all_goals(intro t wq n hh K D;simp only[iQ,qQ,Act.put,Nat.reduceAdd,Nat.reduceEqDiff,reduceIte]at hh D⊢;(try simp only[hh]at D⊢);clear hh)
   ·go_simp;exact D _ _ aZ rfl
   ·go_simp;exact D _ _ ((Below.refl _ _).alloc (Nat.le_refl _) _) ⟨_,_,_,rfl,aI (World.ownsRow_made wq #[] 0 (Nat.le_refl _) (by decide) rfl) n.size⟩
   iterate 4
    ·go_simp;exact D _ _ aZ rfl
   ·have c4:=(r.below n).x4;rw[e2.out]at c4;go_simp;exact D _ _ aZ rfl
   ·have f8:=e9.out;go_simp;exact D _ _ aZ rfl
   iterate 4
    ·go_simp;exact D _ _ aZ rfl
   ·have I:=(r.below n).x12;go_simp;exact D _ _ aZ rfl
   go_simp;refine(FK fl qA N qc P _ ((O6 ((r.below n).BN e7 e8))) e3 e6 (by omega)).mono ?_;rintro e w5 ⟨A5,n5,c5,rfl,Q,b6,b7,a7,F⟩;rw[e1.out]at Q a7;rw[J.out]at Q;subst Q;exact D _ _ F ⟨A5,c5,rfl,b6,b7,a7⟩
  intro t wq n hh;have f0:=aO hh 0 (by decide);simp only[pick]at f0;replace f0:t 0=(.pointer (some ⟨k.g,0,none⟩)):=f0;have f1:=aO hh 1 (by decide);simp only[pick]at f1;have H:=aO hh 13 (by decide);simp only[pick]at H;clear hh;simp only[iQ,qQ,Act.put,Nat.reduceAdd,Nat.reduceEqDiff,reduceIte];obtain⟨A1,n1,c1,f1,d8⟩:=f1;obtain⟨f2,e0,H,f5,f3,a8⟩:=H;simp only[f0,f1,H];show wpList _ _ _ [_,_,_,_,_] _ _;refine gX rfl _ _ 23 rfl wD.heap.size 9 i0 (.string ByteArray.empty) 16 underlying23 hi a5 a4 a3 rfl (.slice A1 n1 c1) 0 [] rfl d8 n n.size f2 O e0 (A.map Value.string) rfl a8 (kQ _) (by unfold maxLen;omega) (by omega) ?_;intro v4 w4 a X;replace a:w4.ownsRow wD.heap.size 9 1 v4 O (A.map Value.string):=by simpa using a
  have f:=aI a a0.size;obtain⟨vA,vc,d5,_⟩:=aW f;subst d5;have y:=r.below X;have d:=hid (y.ug (P:=A) (by rw[J.out];exact f));have I:=y.x12;have a2:=y.thaw 12;have c0:=hid y;clear a f y
 focus
  go_upto_region 9 with(fail)
  generalize hw9:World.setCell w4 _ _=w9 at d⊢;clear hw9 I a2;have I:=d.x12;have b5:=d.BN (P:=A) rfl J;go_wp2_with (at_builtin;refine wpList_append_own _ rfl _ _ 23 rfl k.B 9 i0 (.string ByteArray.empty) 1 16 underlying23 hi a5 a4 a3 rfl (by decide) (.slice vA O vc) O (A.map Value.string) rfl (b5.alloc _) ⟨w9.heap.size,0,none⟩ 1 1 [Value.string ⟨#[]⟩] rfl rfl ?d1 (by intro u hu;simp at hu;subst hu;rfl) ?d2 ?d3 ?d4 ?_)
  try case d1=>intro j u hj;rw[Bf,World.cell?_alloc_mark];simpa using hj
  try case d2=>unfold maxLen;omega
  try case d3=>omega
  try case d4=>first|(rw[World.size_alloc];exact Nat.le_succ_of_le d.size)|exact Nat.le_succ_of_le d.size
  intro v6 w6 z E _;have C:=(d.below ((Below.refl _ _).alloc (Nat.le_refl _) _)).grown E;obtain⟨f7,f6,a6,_⟩:=aW z;subst a6;have d:=hid (C.ug (zZ J z));have I:=C.x12;have a2:=C.thaw 12;have Z:=C.x3;have z3:=C.thaw 3;have a1:=hid (d.buf []);go_wp2_with fail
  refine jK (nJ a1 c2 HR c8 HJ) fun w9 HM9=>?_;go_wp2
  go_end0
  exact⟨rfl,_,by rw[HO.out];exact HM9⟩
 focus
  have Z:=c0.x3;have z3:=c0.thaw 3;have a1:=hid (d.buf []);go_wp2_with fail
  refine jK (nJ a1 c2 HR c8 HJ) fun w9 HM9=>?_;go_wp2
  go_end0
  exact⟨rfl,_,by rw[HO.out];exact HM9⟩
theorem W9 (dp:Dp) (h:MX k m q w) (hz:m.p=(j:Int)) (hR:k.T.drop j=R) (hl:k.T.length≤4611686018427387904) (hj:j≤k.T.length) (I:m.buf.length≤900000) (E:m.u.aF.length≤500000) (H:¬(bY R=false∧kR (sp m) R=false)) (hd:qh m.buf=false) (hs:qW m.buf=true):Calls prog 62 #[.pointer (some ⟨k.g,0,none⟩),.int .u8 ((cc R).toNat:Int)] w fun e w'=>e=.returned (.tuple #[])∧∃q',MX k (iF m R) q' w':=by
 obtain⟨i0,hi,a3,a2,a1⟩:=info_parts iW;have Y:=hid hz;have v:=hid hR;obtain⟨B,V⟩:∃B,m.buf=B:=⟨_,rfl⟩;have C:=hid V;have A:Hid (B.length≤900000):=by show _≤_;rw[←V];exact I
 obtain⟨c,hc⟩:∃c,c=cc R:=⟨_,rfl⟩;rw[←hc];have a0:=hid hl;have HJ:=hid hj;obtain⟨l,d⟩:∃l,kR (sp m) R=l:=⟨_,rfl⟩;have HL:=hid d;obtain⟨o,G⟩:∃o,bY R=o:=⟨_,rfl⟩;have HE:=hid G;obtain⟨P,Q⟩:∃P,m.u.aF=P:=⟨_,rfl⟩;obtain⟨N,hN⟩:∃N,P.length=N:=⟨_,rfl⟩;have X:=hid Q;have Z:=hid hN;have b5:Hid (N≤500000):=by show _≤_;rw[←hN,←Q];exact E
 obtain⟨S,hS⟩:∃S,m.u.au=S:=⟨_,rfl⟩;obtain⟨fl,a9⟩:∃x,decide (S=aB)=x:=⟨_,rfl⟩;obtain⟨qA,qc,a7,a5,a6,a4⟩:=aW (h.BN Q hN);subst a7;have s:=hid h;have H:¬(o=false∧l=false):=fun x=>H ⟨G.trans x.1,d.trans x.2⟩;have t:(o=true∧l=false)∨(o=false∧l=true):=by
  cases o with
  |true=>exact .inl ⟨rfl,d▸yQ G⟩
  |false=>cases l with
   |true=>exact .inr ⟨rfl,rfl⟩
   |false=>exact absurd ⟨rfl,rfl⟩ H
 have HD:Hid (qh B=false):=by show _=_;rw[←V,hd]
 have b3:Hid (qW B=true):=by show _=_;rw[←V,hs]
 have HO:Hid (iF m R=tail {m with u:={m.u with aF:=if l=false then P++[⟨#[]⟩]else P},buf:=[]} R):=by
  show _=_;unfold iF;rw[if_neg (fun x=>H ⟨G▸x.1,d▸x.2⟩),Ea _ _ _ _ hd hs,d,Q];cases l<;>rfl
 have W:Hid (m.p=(j:Int)):=hz;clear H hd hs;clear V hc d G I dp E;clear Q hN hS a9 a5 a6 a4;clear h hz hR hl hj;have a8:=b5.out;rcases t with⟨rfl,rfl⟩|⟨rfl,rfl⟩
 focus
  go_enter func62,ntmps62;go_wp2_with fail
  refine dP s (eH s Y v HE) fun w2 HM2=>?_;go_wp2_with fail
  refine dP HM2 (bK HM2 Y v HL) fun w3 HM3=>?_;have n:=HM3.x3;rw[C.out]at n;go_wp2_with fail
  clear n;refine(KJ.jT (ah B) _ (by have:=A.out;rw[ak];omega)).mono ?_;rintro e4 wD ⟨rfl,O⟩;rw[show qh (ah B).data.toList=false from HD.out];have y:=hid (HM3.below O);clear O
 rotate_left
 focus
  go_enter func62,ntmps62;go_wp2_with fail
  refine dP s (eH s Y v HE) fun w2 HM2=>?_;go_wp2_with fail
  refine dP HM2 (bK HM2 Y v HL) fun w3 HM3=>?_;go_wp2_with fail
  refine dP HM3 (bK HM3 Y v HL) fun w4 HM4=>?_;have n:=HM4.x3;rw[C.out]at n;go_wp2_with fail
  clear n;refine(KJ.jT (ah B) _ (by have:=A.out;rw[ak];omega)).mono ?_;rintro e5 wD ⟨rfl,L⟩;rw[show qh (ah B).data.toList=false from HD.out];have y:=hid (HM4.below L);clear L
 rotate_left
 all_goals
  have n:=y.x3;rw[C.out]at n;go_wp2_with fail
  clear n;refine(mW.yt (ah B) _ (by have:=A.out;rw[ak];omega)).mono ?_;rintro e7 w7 ⟨rfl,J⟩;rw[show qW (ah B).data.toList=true from b3.out];have a:=hid (y.below J);clear J
 focus
  have b0:=a.x12;have F:=a.BN X Z;go_wp2_with (at_builtin;refine wpList_append_own _ rfl _ _ 23 rfl k.B 9 i0 (.string ByteArray.empty) 1 16 underlying23 hi a3 a2 a1 rfl (by decide) (.slice qA N qc) N (P.map Value.string) rfl (F.alloc _) ⟨w7.heap.size,0,none⟩ 1 1 [Value.string ⟨#[]⟩] rfl rfl ?d1 (by intro u hu;simp at hu;subst hu;rfl) ?d2 ?d3 ?d4 ?_)
  try case d1=>intro j u hj;rw[Bf,World.cell?_alloc_mark];simpa using hj
  try case d2=>unfold maxLen;omega
  try case d3=>omega
  try case d4=>first|(rw[World.size_alloc];exact Nat.le_succ_of_le a.size)|exact Nat.le_succ_of_le a.size
  intro v6 w6 f r _;have i:=(a.below ((Below.refl _ _).alloc (Nat.le_refl _) _)).grown r;obtain⟨b9,b8,D,_⟩:=aW f;subst D;have b6:=hid (i.ug (zZ Z f));have b0:=i.x12;have b7:=i.thaw 12;have n:=i.x3;have z3:=i.thaw 3;have z:=hid (b6.buf []);go_wp2_with fail
  refine jK (nJ z W v a0 HJ) fun w9 HM9=>?_;go_wp2
  go_end0
  exact⟨rfl,_,by rw[HO.out];exact HM9⟩
 focus
  have n:=a.x3;have z3:=a.thaw 3;have z:=hid (a.buf []);go_wp2_with fail
  refine jK (nJ z W v a0 HJ) fun w9 HM9=>?_;go_wp2
  go_end0
  exact⟨rfl,_,by rw[HO.out,←X.out];exact HM9⟩
theorem WZ (dp:Dp) (h:MX k m q w) (hz:m.p=(j:Int)) (hR:k.T.drop j=R) (hl:k.T.length≤4611686018427387904) (hj:j≤k.T.length) (b7:m.buf.length≤900000) (b5:m.u.aF.length≤500000) (hg:¬(bY R=false∧kR (sp m) R=false)) (hd:qh m.buf=false) (hs:qW m.buf=false):Calls prog 62 #[.pointer (some ⟨k.g,0,none⟩),.int .u8 ((cc R).toNat:Int)] w fun e w'=>e=.returned (.tuple #[])∧∃q',MX k (iF m R) q' w':=by
 obtain⟨i0,hi,d7,d6,d5⟩:=info_parts iW;have HP:=hid hz;have HR:=hid hR;obtain⟨B,hB⟩:∃B,m.buf=B:=⟨_,rfl⟩;have s:=hid hB;have a2:Hid (B.length≤900000):=by show _≤_;rw[←hB];exact b7
 obtain⟨c,hc⟩:∃c,c=cc R:=⟨_,rfl⟩;rw[←hc];have g3:=hid dp;have f9:=hid hl;have HJ:=hid hj;obtain⟨l,G⟩:∃l,kR (sp m) R=l:=⟨_,rfl⟩;have HL:=hid G;obtain⟨o,ho⟩:∃o,bY R=o:=⟨_,rfl⟩;have HE:=hid ho;obtain⟨P,hP⟩:∃P,m.u.aF=P:=⟨_,rfl⟩;obtain⟨N,hN⟩:∃N,P.length=N:=⟨_,rfl⟩;have c8:=hid hN;have f6:Hid (N≤500000):=by show _≤_;rw[←hN,←hP];exact b5
 obtain⟨S,hS⟩:∃S,m.u.au=S:=⟨_,rfl⟩;have f2:=hid hS;obtain⟨fl,a4⟩:∃x,decide (S=aB)=x:=⟨_,rfl⟩;have g0:Hid (((ah S).toList==[102,105,108,101])=fl):=by show _=_;rw[mW.dU,←a4];rfl
 obtain⟨qA,qc,e2,d9,e0,d8⟩:=aW (h.BN hP hN);subst e2;have a1:=hid h;have hg:¬(o=false∧l=false):=fun x=>hg ⟨ho.trans x.1,G.trans x.2⟩;have a5:(o=true∧l=false)∨(o=false∧l=true):=by
  cases o with
  |true=>exact .inl ⟨rfl,G▸yQ ho⟩
  |false=>cases l with
   |true=>exact .inr ⟨rfl,rfl⟩
   |false=>exact absurd ⟨rfl,rfl⟩ hg
 have HD:Hid (qh B=false):=by show _=_;rw[←hB,hd]
 have f1:Hid (qW B=false):=by show _=_;rw[←hB,hs]
 obtain⟨dv,H⟩:∃x,mO B=x:=⟨_,rfl⟩;have g2:=hid H;obtain⟨z,a3⟩:∃x,P.isEmpty=x:=⟨_,rfl⟩;have r:((N:Int)==0)=z:=by
  rw[←a3,←hN];cases P with
  |nil=>rfl
  |cons a b=>simp only[List.length_cons,List.isEmpty_cons,beq_eq_false_iff_ne];omega
 obtain⟨D,I⟩:∃X,X=if fl&&(z&&dv)then B.take 1++[58]else B:=⟨_,rfl⟩
 have c6:D.length≤B.length+1:=by rw[I];split;(rw[List.length_append,List.length_take];simp only[List.length_cons,List.length_nil];omega);omega
 obtain⟨E,hE⟩:∃E,aP.enc 4 D=E:=⟨_,rfl⟩;have g1:=hid hE;have a9:wr (fl&&P.isEmpty) B=E:=by
  rw[←hE,I,a3];unfold wr;rw[H];cases fl<;>cases z<;>cases dv<;>first|rfl|exact(SK B H).symm
 obtain⟨M2,A⟩:∃X,X={m with buf:=D}:=⟨_,rfl⟩;have y:=hid A;have g6:Hid (M2.buf=D):=by show _=_;rw[A]
 have c9:Hid (D.length≤900001):=by show _≤_;have:=a2.out;omega
 have f3:Hid (M2.p=(j:Int)):=by show _=_;rw[A];exact hz
 have f4:Hid (M2.u.aF=P):=by show _=_;rw[A];exact hP
 have HO:Hid (iF m R=tail {M2 with u:={M2.u with aF:=P++[ah E]},buf:=[]} R):=by
  show _=_;unfold iF;rw[if_neg (fun x=>hg ⟨ho▸x.1,G▸x.2⟩),Ap _ _ _ _ hd hs,hP,hS,a4,hB,a9,A]
 have c7:=hid r;have c5:mO B=true→B.length=2:=fun h=>by match B,h with|[_,_],_=>rfl
 have g5:Hid (dv=true→B.length=2):=fun h=>c5 (H.trans h);have g4:Hid (fl=true→z=true→dv=true→D=B.take 1++[58]):=fun a b c=>by rw[I,a,b,c];rfl
 have a8:Hid (¬(fl=true∧z=true∧dv=true)→D=B):=fun a=>by
  rw[I,if_neg];intro x;simp only[Bool.and_eq_true]at x;exact a x
 clear hg hd hs H a3 r I c6 hE a9 A c5;clear hB hc G ho b7 dp b5;clear hP hN hS a4 d9 e0 d8;clear h hz hR hl hj;have e3:=f6.out;rcases a5 with⟨rfl,rfl⟩|⟨rfl,rfl⟩
 focus
  go_enter func62,ntmps62;go_wp2_with fail
  refine dP a1 (eH a1 HP HR HE) fun w2 HM2=>?_;go_wp2_with fail
  refine dP HM2 (bK HM2 HP HR HL) fun w3 HM3=>?_;have n:=HM3.x3;rw[s.out]at n;go_wp2_with fail
  clear n;refine(KJ.jT (ah B) _ (by have:=a2.out;rw[ak];omega)).mono ?_;rintro e4 wD ⟨rfl,c0⟩;rw[show qh (ah B).data.toList=false from HD.out];have a7:=hid (HM3.below c0);clear c0
 rotate_left
 focus
  go_enter func62,ntmps62;go_wp2_with fail
  refine dP a1 (eH a1 HP HR HE) fun w2 HM2=>?_;go_wp2_with fail
  refine dP HM2 (bK HM2 HP HR HL) fun w3 HM3=>?_;go_wp2_with fail
  refine dP HM3 (bK HM3 HP HR HL) fun w4 HM4=>?_;have n:=HM4.x3;rw[s.out]at n;go_wp2_with fail
  clear n;refine(KJ.jT (ah B) _ (by have:=a2.out;rw[ak];omega)).mono ?_;rintro e5 wD ⟨rfl,Y⟩;rw[show qh (ah B).data.toList=false from HD.out];have a7:=hid (HM4.below Y);clear Y
 rotate_left
 all_goals
  have n:=a7.x3;rw[s.out]at n;go_wp2_with fail
  clear n;refine(mW.yt (ah B) _ (by have:=a2.out;rw[ak];omega)).mono ?_;rintro e7 w7 ⟨rfl,b8⟩;rw[show qW (ah B).data.toList=false from f1.out];have d:=hid (a7.below b8);clear b8;have c4:=d.x4;rw[f2.out]at c4;have V:=g0.out
 all_goals
  rcases fl with _|_
  focus
   have J:=a8 (by rintro⟨x,_⟩;cases x);have f:Hid (MX k M2 (.slice qA N qc) w7):=by show MX _ _ _ _;rw[y.out,J,←s.out];exact d
   clear J;go_wp2_with fail
   clear c4 V;generalize w7=wX at f⊢
  rotate_left
  focus
   rcases z with _|_
   focus
    have J:=a8 (by rintro⟨_,x,_⟩;cases x);have f:Hid (MX k M2 (.slice qA N qc) w7):=by show MX _ _ _ _;rw[y.out,J,←s.out];exact d
    clear J;have C:=d.x12;have r:=c7.out;go_wp2_with fail
    clear c4 V C r;generalize w7=wX at f⊢
   rotate_left
   focus
    have C:=d.x12;have r:=c7.out;have n:=d.x3;rw[s.out]at n;go_wp2_with fail
    refine(sK.dK (ah B) _).mono ?_;rintro e8 w8 ⟨rfl,rfl⟩;rw[show mO (ah B).data.toList=dv from g2.out];rcases dv with _|_
    focus
     have J:=a8 (by rintro⟨_,_,x⟩;cases x);have f:Hid (MX k M2 (.slice qA N qc) w7):=by show MX _ _ _ _;rw[y.out,J,←s.out];exact d
     clear J;go_wp2_with fail
     clear c4 V C r n;generalize w7=wX at f⊢
    rotate_left
    focus
     have J:=g4 (by first|rfl|trivial) (by first|rfl|trivial) (by first|rfl|trivial);have c1:=g5 (by first|rfl|trivial);have f:Hid (MX k M2 (.slice qA N qc) (w7.setCell ⟨k.g,3,none⟩ (.string (ah D)))):=by show MX _ _ _ _;rw[y.out];exact d.buf D
     obtain⟨Z,hZ⟩:∃Z,Z=ah B:=⟨_,rfl⟩;have d0:Z.size=2:=by rw[hZ,ak,c1]
     have hex:Z.extract 0 1=ah (B.take 1):=by rw[hZ];simp[ah,ByteArray.ext_iff,Array.toList_extract,List.extract_eq_take_drop]
     have c2:∀w:World,(Op.stringOp .add (ah (B.take 1)) ({data:=#[58]}:ByteArray)).run prog w=.ok (.string (ah D)) w:=fun w=>by rw[J];exact bH _ [58] w (by rw[List.length_take];simp;omega)
     rw[←hZ]at n⊢;have z3:=d.thaw 3;clear hZ J c1;go_wp2_with fail
     clear c4 V C r n z3 c2 hex d0;generalize World.setCell w7 _ _=wX at f⊢
 all_goals
  have O:=hid (f.below (w':=wX.drew) ⟨rfl,rfl,rfl,Nat.le_refl _,fun _ _=>rfl⟩);refine wp_region_any (by kernel_rfl) ?_;change wpAny _ _ _ _ _ _ _ (World.drew _);refine wpAny_take (i:=0) (v:=(.pointer (some ⟨k.g,0,none⟩))) rfl (by kernel_rfl) (by kernel_rfl) (by kernel_rfl) (fun _ _ _ h=>h) (Or.inl ⟨by rfl,?yy0⟩) ?_;case yy0=>(intro w;go_simp;try with_reducible rfl)
  simp only[List.getElem_toArray,List.getElem_cons_zero,List.getElem_cons_succ,Act.put,List.setIfInBounds_toArray,List.set_cons_zero,List.set_cons_succ];refine Gq 12 [pg k.g 0,pg k.g 0,pg k.g 0,pg k.g 4,pg k.g 12,is (.slice qA N qc),pg k.g 0,pg k.g 0,pg k.g 3,is (.string (ah D)),is (.string (ah E)),row 1 [Value.string (ah E)]] [[],[],[1],[1,2],[1,2,3],[1,2,3,4],[],[6],[6,7],[6,7,8],[6,7,8,9],[6,7,8,9,10],[1,2,3,4,5,6,7,8,9,10,11]] [0] (by kernel_rfl) (by kernel_rfl) (by kernel_rfl) ?_ ?_ ?_
  ·intro k hk;simp only[List.mem_cons,List.not_mem_nil,or_false]at hk;subst hk;rfl
  ·refine ⟨?_,?_,?_,?_,?_,?_,?_,?_,?_,?_,?_,?_,trivial⟩;all_goals(intro t wq W hh K hK;simp only[iQ,qQ,Act.put,Nat.reduceAdd,Nat.reduceEqDiff,reduceIte]at hh hK⊢;(try simp only[hh]at hK⊢);clear hh)
   iterate 5
    ·go_simp;exact hK _ _ aZ rfl
   ·have C:=(O.below W).x12;go_simp;exact hK _ _ aZ rfl
   iterate 3
    ·go_simp;exact hK _ _ aZ rfl
   ·have n:=(O.below W).x3;rw[g6.out]at n;go_simp;exact hK _ _ aZ rfl
   ·go_simp;refine(AX.iw 4 (ah D) _ (by have:=c9.out;rw[ak];omega) (fun c w=>g3.inn _ c w)).mono ?_;rintro e w5 ⟨rfl,Y⟩;rw[show aP.enc 4 (ah D).data.toList=E from g1.out];exact hK _ _ Y rfl
   go_simp;exact hK _ _ ((Below.refl _ _).alloc (Nat.le_refl _) _) ⟨_,_,rfl,Nat.le_refl _,by decide,made1 _ _⟩
  intro t wq W hh;have f0:=aO hh 0 (by decide);simp only[pick]at f0;replace f0:t 0=(.pointer (some ⟨k.g,0,none⟩)):=f0;have f5:=aO hh 5 (by decide);simp only[pick]at f5;replace f5:t 5=(.slice qA N qc):=f5;have a0:=aO hh 11 (by decide);simp only[pick]at a0;clear hh;simp only[iQ,qQ,Act.put,Nat.reduceAdd,Nat.reduceEqDiff,reduceIte];obtain⟨h3,e9,a0,g8,g7,b3⟩:=a0;simp only[f0,f5,a0];have a6:=hid (O.below W);obtain⟨b9,o9,rfl,h2,e6⟩:=b3.spot (by decide);have b6:=a6.BN f4 c8;show wpList _ _ _ [_,_,_,_,_] _ _;refine wpList_append_own _ rfl _ _ 23 rfl k.B 9 i0 (.string ByteArray.empty) 1 16 underlying23 hi d7 d6 d5 rfl (by decide) (.slice qA N qc) N (P.map Value.string) rfl b6 ⟨b9,o9,none⟩ 1 e9 [Value.string (ah E)] rfl rfl ?d1 (by intro u hu;simp at hu;subst hu;rfl) ?d2 ?d3 ?d4 ?_;case d1=>intro j u hj;match j,hj with|0,hj=>(simp at hj;subst hj;simpa[Addr.add]using e6 0 Nat.zero_lt_one)
  try case d2=>unfold maxLen;omega
  try case d3=>omega
  try case d4=>exact a6.size
  intro v6 w6 F Q _;have L:=a6.grown Q;obtain⟨h1,h0,b0,_⟩:=aW F;subst b0;have f8:=hid (L.ug (zZ c8 F));have C:=L.x12;have g9:=L.thaw 12;have n:=L.x3;have z3:=L.thaw 3;have f7:=hid (f8.buf []);go_wp2_with fail
  refine jK (nJ f7 f3 HR f9 HJ) fun w9 HM9=>?_;go_wp2
  go_end0
  exact⟨rfl,_,by rw[HO.out];exact HM9⟩
theorem acT (dp:Dp) (h:MX k m q w) (d:m.p=(j:Int)) (l:k.T.drop j=R) (f:k.T.length≤4611686018427387904) (i:j≤k.T.length) (c:m.buf.length≤900000) (a:m.u.aF.length≤500000):Calls prog 62 #[.pointer (some ⟨k.g,0,none⟩),.int .u8 ((cc R).toNat:Int)] w fun e w'=>e=.returned (.tuple #[])∧∃q',MX k (iF m R) q' w':=by
 by_cases hg:bY R=false∧kR (sp m) R=false
 ·exact WX dp h d l f i c a hg
 cases hd:qh m.buf with
 |true=>exact WY dp h d l f i c a hg hd
 |false=>
  cases hs:qW m.buf with
  |true=>exact W9 dp h d l f i c a hg hd hs
  |false=>exact WZ dp h d l f i c a hg hd hs
end YD
namespace aeH
open Go.RowKit Base fU iy sK mJ jr qU
def Mine (w:World) (B:Nat) (l:List ByteArray) (e:Ending) (w':World):Prop:=∃v,e=.returned v∧w'.ownsRow B 9 1 v l.length (l.map Value.string)∧Below w.heap.size w w'
theorem JD {w w':World} {B:Nat} {l:List ByteArray} {v:Value} {n:Nat} (h:w'.ownsRow w.heap.size 9 1 v n (l.map Value.string)) (d:B≤w.heap.size) (c:Below w.heap.size w w'):Mine w B l (.returned v) w':=by
 have a:l.length=n:=by have:=h.1;rwa[List.length_map,Nat.mul_one]at this
 exact⟨v,rfl,by rw[a];exact aI h d,c⟩
theorem Di (file:Bool) (B:Nat) (A:Option Addr) (n s:Nat) (l:List ByteArray) (w:World) (T:w.ownsRow B 9 1 (.slice A n s) n (l.map Value.string)) (W:B≤w.heap.size) (a0:n≤1000000):
  Calls prog 113 #[.bool file,.slice A n s] w (Mine w B (jd file l)):=by
 obtain⟨A',c',e',Z,N,z⟩:=aW T;cases e';have H:=hid W;obtain⟨P,hi,G,F,E⟩:=info_parts iW;have V:=N;unfold maxLen at N;have t:l.length=n:=by rw[←z.1,List.length_map]
 have k:=JM file z;obtain⟨m,v⟩:∃m,m=if keep file l then n else n - 1:=⟨_,rfl⟩
 rw[←v]at k;have D:=hid k;have L:m=(jd file l).length:=by rw[←k.1,List.length_map]
 have a1:m≤s:=by rw[v];split<;>omega
 have j:Hid (keep file l=true→Mine w B (jd file l) (.returned (.slice A n s)) w):=by
  intro h;have e:m=n:=by rw[v,if_pos h]
  rw[e]at k L;have es:jd file l=l:=by unfold jd;rw[if_pos h]
  exact⟨_,rfl,by rw[es,t];exact T,Below.refl _ _⟩
 have a2:m≤1000000:=by rw[v];split<;>omega
 generalize hS:jd file l=S at D j⊢;clear k L hS T W
 match l,t with
 |[],t=>
  obtain rfl:n=0:=by simpa using t.symm
  have C:=hid (j.out rfl);clear v t z j;go_enter func113,ntmps113;go_wp2;go_ret;exact C
 | [x],t=>
  obtain rfl:n=1:=by simpa using t.symm
  obtain⟨g,off,rfl,hg,f⟩:=z.spot (by omega);have Q:=f 0 (by simp);rw[Nat.add_zero]at Q;replace Q:w.cell? ⟨g,off,none⟩=some (.string x):=Q;cases file with
  |false=>
   obtain rfl:m=0:=by rw[v];rfl
   clear v t z f j;have c:(w.alloc (.cells #[] 9)).ownsRow w.heap.size 9 1 (.slice (some ⟨w.heap.size,0,none⟩) 0 0) 0 []:=World.ownsRow_made w #[] 0 (Nat.le_refl _) (by decide) rfl;have a:Below w.heap.size w (w.alloc (.cells #[] 9)):=(Below.refl _ _).alloc (Nat.le_refl _) _;have q:Hid (dW (w.alloc (.cells #[] 9)) (some ⟨g,off,none⟩) 0 (S.map Value.string)):=D.below a;go_enter func113,ntmps113;go_wp2_with (at_builtin;refine gX rfl _ _ 23 rfl w.heap.size 9 P (.string ByteArray.empty) 16 underlying23 hi G F E rfl _ 0 [] rfl c a a.size (some ⟨g,off,none⟩) 0 s (S.map Value.string) rfl q (kQ _) (by unfold maxLen;omega) (by omega) ?_)
   intro J I d i;have C:Hid (Mine w B S (.returned J) I):=JD (by simpa using d) H i;clear c a q d;go_wp2;go_ret;exact C
  |true=>
   obtain⟨b,O⟩:∃b,b=wG x.data.toList:=⟨_,rfl⟩;have X:=hid O;cases b with
   |true=>
    have C:=hid (j.out (by show(true&&wG x.data.toList)=true;rw[←O];rfl));clear v t z f O j;go_enter func113,ntmps113;go_wp2_with fail
    refine(jU x _).mono ?_;rintro e Y ⟨rfl,rfl⟩;rw[←X.out];go_wp2;go_ret;exact C
   |false=>
    obtain rfl:m=0:=by rw[v];show(if (true&&wG x.data.toList)=true then 1 else 1 - 1)=0;rw[←O];rfl
    clear v t z f O j;have c:(w.alloc (.cells #[] 9)).ownsRow w.heap.size 9 1 (.slice (some ⟨w.heap.size,0,none⟩) 0 0) 0 []:=World.ownsRow_made w #[] 0 (Nat.le_refl _) (by decide) rfl;have a:Below w.heap.size w (w.alloc (.cells #[] 9)):=(Below.refl _ _).alloc (Nat.le_refl _) _;have q:Hid (dW (w.alloc (.cells #[] 9)) (some ⟨g,off,none⟩) 0 (S.map Value.string)):=D.below a;go_enter func113,ntmps113;go_wp2_with fail
    refine(jU x _).mono ?_;rintro e Y ⟨rfl,rfl⟩;rw[←X.out];go_wp2_with (at_builtin;refine gX rfl _ _ 23 rfl w.heap.size 9 P (.string ByteArray.empty) 16 underlying23 hi G F E rfl _ 0 [] rfl c a a.size (some ⟨g,off,none⟩) 0 s (S.map Value.string) rfl q (kQ _) (by unfold maxLen;omega) (by omega) ?_)
    intro J I d i;have C:Hid (Mine w B S (.returned J) I):=JD (by simpa using d) H i;clear c a q d;go_wp2;go_ret;exact C
 |x::y::r,t=>
  have h2:2≤n:=by rw[←t];simp
  have HM:Hid (m=n - 1):=by show _=_;rw[v];rfl
  have q1:((n:Int)==0)=false:=by simp;omega
  have q2:((n:Int)==1)=false:=by simp;omega
  obtain⟨g,off,rfl,hg,f⟩:=z.spot (by omega);have q3:((n:Int) - 1).toNat=m:=by have:=HM.out;omega
  clear v t z f j;have c:(w.alloc (.cells #[] 9)).ownsRow w.heap.size 9 1 (.slice (some ⟨w.heap.size,0,none⟩) 0 0) 0 []:=World.ownsRow_made w #[] 0 (Nat.le_refl _) (by decide) rfl;have a:Below w.heap.size w (w.alloc (.cells #[] 9)):=(Below.refl _ _).alloc (Nat.le_refl _) _;have q:Hid (dW (w.alloc (.cells #[] 9)) (some ⟨g,off,none⟩) m (S.map Value.string)):=D.below a;cases file;all_goals
   go_enter func113,ntmps113;go_wp2_with (at_builtin;refine gX rfl _ _ 23 rfl w.heap.size 9 P (.string ByteArray.empty) 16 underlying23 hi G F E rfl _ 0 [] rfl c a a.size (some ⟨g,off,none⟩) m s (S.map Value.string) rfl q (kQ _) (by unfold maxLen;omega) (by omega) ?_)
   intro J I d i;have C:Hid (Mine w B S (.returned J) I):=JD (by simpa using d) H i;clear c a q d;go_wp2;go_ret;exact C
end aeH
