/- Lemmas. -/
import Derived.Test.YtmbpmbapelfobaaGreatDoorOTAAP
set_option linter.unusedSimpArgs false
set_option linter.unusedVariables false
set_option maxRecDepth 100000
set_option maxHeartbeats 64000000
namespace Go.Proofs.YtmbpmbapelfobaaGreatDoor
open Tryz
namespace Dq
open Go.RowKit Base aV dJ ig jY fF vO xQ yw Ed
variable {k:K} {m:M} {q:Value} {w:World} {j:Nat} {R:List UInt8}
theorem EK:(ah []).toList.isEmpty=true:=by rw[mW.tl];rfl
theorem CV {B:List UInt8} (h:B≠[]):(ah B).toList.isEmpty=false:=by
 rw[mW.tl];cases B with
 |nil=>exact absurd rfl h
 |cons x y=>rfl
theorem ceq {c:UInt8} {n:Nat} (h:n<256) (e:c=UInt8.ofNat n):((c.toNat:Int)==(n:Int))=true:=by
 rw[e,show(UInt8.ofNat n).toNat=n from UInt8.toNat_ofNat_of_lt h];exact beq_self_eq_true _
theorem cne {c:UInt8} {n:Nat} (h:n<256) (e:c≠UInt8.ofNat n):((c.toNat:Int)==(n:Int))=false:=by
 refine beq_false_of_ne fun x=>e (UInt8.toNat_inj.1 ?_);rw[show(UInt8.ofNat n).toNat=n from UInt8.toNat_ofNat_of_lt h];exact Int.ofNat.inj x
theorem afW {s:Bool} (h:kR s R=true):cc R≠58:=by
 match R,h with
 |c::L,h=>
  intro e;have e:c=58:=e;have h:bU s c=true:=h;subst e;cases s<;>exact absurd h (by decide)
theorem Le {c:UInt8} (n:Nat) (h:n<256) {d:Bool} (e:decide (c=UInt8.ofNat n)=d):Hid (((c.toNat:Int)==(n:Int))=d):=by
 subst e;show _=_;by_cases g:c=UInt8.ofNat n
 ·rw[ceq h g,decide_eq_true g]
 rw[cne h g,decide_eq_false g]
theorem b4 (d i l:Bool) (h:d=true→l=false):((d=false∧l=false)∨(d=true∧i=true∧l=false))∨(d=true∧i=false)∨(d=false∧l=true):=by
 revert d i l;decide
theorem b2 (a b:Bool) (h:a=true→b=false):(a=true∧b=false)∨(a=false∧b=true)∨(a=false∧b=false):=by
 revert a b;decide
theorem b1 (s:Bool) (B:List UInt8):(s=false∨(s=true∧B≠[]))∨(s=true∧B=[]):=by
 cases s<;>by_cases h:B=[]<;>simp[h]
theorem acw (dp:Dp) (h:MX k m q w) (hz:m.p=(j:Int)) (hR:k.T.drop j=R) (hl:k.T.length≤4611686018427387904) (hj:j≤k.T.length) (a7:m.buf.length≤900000):Calls prog 56 #[.pointer (some ⟨k.g,0,none⟩),.int .u8 ((cc R).toNat:Int)] w fun e w'=>e=.returned (.tuple #[])∧MX k (kL m R) q w'∧True:=by
 have b3:=hid h;have HP:=hid hz;have HR:=hid hR;have HZ:Hid (-4611686018427387904≤m.p∧m.p≤4611686018427387904):=⟨by omega,by omega⟩;obtain⟨B,Y⟩:∃B,m.buf=B:=⟨_,rfl⟩;have D:=hid Y;have b5:Hid (B.length≤900000):=by show _≤_;rw[←Y];exact a7
 obtain⟨c,W⟩:∃c,c=cc R:=⟨_,rfl⟩;rw[←W];have a4:=hid dp;obtain⟨s,hs⟩:∃s,sp m=s:=⟨_,rfl⟩;have HS:=hid hs;obtain⟨l,H⟩:∃l,kR (sp m) R=l:=⟨_,rfl⟩;have HL:=hid H;obtain⟨o,ho⟩:∃o,bY R=o:=⟨_,rfl⟩;have HE:=hid ho;obtain⟨i,hi⟩:∃i,m.inn=i:=⟨_,rfl⟩;have HI:=hid hi;obtain⟨me,L⟩:∃e,met m=e:=⟨_,rfl⟩;have a3:=hid L;have J:Hid (m.buf.length≤900000):=by show _≤_;rw[Y];exact b5
 have a0:Hid (-4611686018427387904≤(meet m).p∧(meet m).p≤4611686018427387904):=HZ.out;obtain⟨F,E⟩:∃x,decide (c=58)=x:=⟨_,rfl⟩;have a5:Hid (((c.toNat:Int)==58)=F):=Le 58 (by decide) E;obtain⟨V,O⟩:∃x,decide (c=91)=x:=⟨_,rfl⟩;have c1:Hid (((c.toNat:Int)==91)=V):=Le 91 (by decide) O;obtain⟨Q,N⟩:∃x,decide (c=93)=x:=⟨_,rfl⟩;have c0:Hid (((c.toNat:Int)==93)=Q):=Le 93 (by decide) N;have a6:F=true→l=false:=by
  intro x;cases l with
  |false=>rfl
  |true=>exact absurd (W.symm.trans (of_decide_eq_true (E.trans x))) (afW H)
 have b9:=hid a6;have b7:Hid (Q=true→V=false):=by
  intro x;rw[←O,of_decide_eq_true (N.trans x)];decide
 have a1:Hid (o=false→F=true→i=false→kL m R=if B=[]then fail m else if me=false then fail (meet m)else mv (meet m) 10 false):=by
  intro x y z;unfold kL;rw[if_pos ⟨ho.trans x,W.symm.trans (of_decide_eq_true (E.trans y)),hi.trans z⟩,Y,L]
 have G:Hid (o=true∨(l=true∧F=false)→kL m R=if s=true∧B=[]then fail m else if me=false then fail (meet m)else mv (meet m) 14 true):=by
  intro x;unfold kL;rw[if_neg (fun y=>by rcases x with x|⟨_,x⟩;(rw[ho,x]at y;exact absurd y.1 (by decide));exact of_decide_eq_false (E.trans x) (W.trans y.2.1)),if_pos (by rw[ho,H];rcases x with x|⟨x,_⟩;exact .inl x;exact .inr x),Y,L,hs]
 have b8:Hid (o=false→l=false→(F=false∨i=true)→kL m R={m with inn:=if Q=true then false else if V=true then true else m.inn,buf:=B++[c]}):=by
  intro x y z;unfold kL;rw[if_neg (fun v=>by rcases z with z|z;(exact of_decide_eq_false (E.trans z) (W.trans v.2.1));(rw[hi,z]at v;exact absurd v.2.2 (by decide))),if_neg (by rw[ho,H,x,y];decide),Y,←W,←N,←O];simp only[decide_eq_true_eq]
 clear Y W hs H ho a7 dp hi L E O N a6;clear h hz hR hl hj;go_enter func56,ntmps56;go_wp2_with fail
 refine dP b3 (eH b3 HP HR HE) fun w2 HM2=>?_;rcases o with _|_
 ·rcases b4 F i l b9 with (⟨rfl, rfl⟩ | ⟨rfl, rfl, rfl⟩) | ⟨rfl, rfl⟩ | ⟨rfl, rfl⟩
  iterate 2
   ·have Z := a5.out;have C:=HM2.x32;rw[HI.out]at C;go_wp2_with fail
    refine dP HM2 (eH HM2 HP HR HE) fun w3 HM3=>?_;go_wp2_with fail
    refine dP HM3 (bK HM3 HP HR HL) fun w4 HM4=>?_;clear C;have C:=HM4.x32;have c5:=HM4.thaw 32;rcases b2 Q V b7 with⟨rfl,rfl⟩|⟨rfl,rfl⟩|⟨rfl,rfl⟩
    all_goals
     have a9:=c1.out;have a8:=c0.out;first|(have x:((c.toNat:Int)==93)=true:=a8;clear x;have f:=hid (HM4.inn false))|(have x:((c.toNat:Int)==91)=true:=a9;clear x;have f:=hid (HM4.inn true))|(have f:Hid (MX k {m with inn:=m.inn} q _):=HM4)
     go_wp2_with fail
     clear Z a9 a8;try generalize ((c.toNat:Int)==58)=g58
     try generalize ((c.toNat:Int)==91)=g91
     try generalize ((c.toNat:Int)==93)=g93
     clear C;refine bf (by kernel_rfl) 11 [pg k.g 0,pg k.g 0,pg k.g 0,pg k.g 3,is (.string (ah B)),is (.int .u8 (c.toNat:Int)),row 1 (aU [c]),is (.string (ah [c])),is (.string (ah (B++[c]))),pg k.g 0,pg k.g 3] [[],[],[1],[1,2],[1,2,3],[],[5],[5,6],[1,2,3,4,5,6,7],[0],[0,9],[0,1,2,3,4,5,6,7,8,9,10]] (by kernel_rfl) ?_ ?_
     ·refine ⟨?_,?_,?_,?_,?_,?_,?_,?_,?_,?_,?_,trivial⟩;all_goals(intro t wq X hh K A;simp only[iQ,qQ,Act.put,Nat.reduceAdd,Nat.reduceEqDiff,reduceIte]at hh A⊢)
      iterate 4
       ·try simp only[hh]at A⊢
        clear hh;go_simp;exact A _ _ aZ rfl
      ·try simp only[hh]at A⊢
       clear hh;have r:=(f.below X).x3;rw[D.out]at r;go_simp;exact A _ _ aZ rfl
      ·try simp only[hh]at A⊢
       clear hh;go_simp;exact A _ _ aZ rfl
      ·try simp only[hh]at A⊢
       clear hh;go_simp;exact A _ _ ((Below.refl _ _).alloc (Nat.le_refl _) _) ⟨_,_,rfl,Nat.le_refl _,by decide,iT wq [c] 5 (0,0)⟩
      ·have e6:=hh.2.1;clear hh;obtain⟨A6,c6,e6,c8,c7,b6⟩:=e6;simp only[e6]at A⊢;have hs:=bI 55 9 5 underlying55 underlying5 underlying9 _ c6 b6;go_simp;exact A _ _ aZ rfl
      ·try simp only[hh]at A⊢
       clear hh;have c4:(Op.stringOp .add (ah B) (ah [c])).run prog wq=.ok (.string (ah (B++[c]))) wq:=bH _ _ wq (by have:=b5.out;simp;omega);go_simp;exact A _ _ aZ rfl
      iterate 2
       ·try simp only[hh]at A⊢
        clear hh;go_simp;exact A _ _ aZ rfl
     ·intro t wq X hh;have f8:=aO hh 8 (by decide);simp only[pick]at f8;replace f8:t 8=(.string (ah (B++[c]))):=f8;have P:=aO hh 10 (by decide);simp only[pick]at P;replace P:t 10=(.pointer (some ⟨k.g,3,none⟩)):=P;clear hh;simp only[iQ,qQ,Act.put,Nat.reduceAdd,Nat.reduceEqDiff,reduceIte];simp only[f8,P];have a2:=hid (f.below X);have b0:=hid (a2.buf (B++[c]));have z3:=a2.thaw 3;have r:=a2.x3;go_wp2;first|go_end0|((try simp only[Exit.inBlock,Exit.then]);refine eU rfl rfl ?_)
      refine⟨rfl,?_⟩;try refine⟨?_,trivial⟩
      rw[b8.out (by simp) (by simp) (by simp)];first|exact b0|(simp only[reduceIte,Bool.false_eq_true];exact b0)
  ·have Z:=a5.out;have C:=HM2.x32;rw[HI.out]at C;by_cases he:B=[]
   ·subst he;have r:=HM2.x3;have c2:=HM2.x2;have z2:=HM2.thaw 2;rw[D.out]at r;have I:=EK;have a:=hid (HM2.st 19);go_wp2;first|go_end0|((try simp only[Exit.inBlock,Exit.then]);refine eU rfl rfl ?_)
    exact⟨rfl,by rw[a1.out (by simp) (by simp) (by simp),if_pos (by simp)];exact a,trivial⟩
   have I:=CV he;have r:=HM2.x3;rw[D.out]at r;go_wp2_with fail
   refine(BM a4 HM2 J).mono ?_;rintro e7 w7 ⟨rfl,n⟩;rw[a3.out];have a:=hid n;clear n r C;rcases me with _|_
   ·have c2:=a.x2;have z2:=a.thaw 2;have d:=hid (a.st 19);go_wp2;first|go_end0|((try simp only[Exit.inBlock,Exit.then]);refine eU rfl rfl ?_)
    exact⟨rfl,by rw[a1.out (by simp) (by simp) (by simp),if_neg he,if_pos (by simp)];exact d,trivial⟩
   go_wp2_with fail
   refine jK (iP a a0 10 false) fun w8 d=>?_;go_wp2;first|go_end0|((try simp only[Exit.inBlock,Exit.then]);refine eU rfl rfl ?_)
   exact⟨rfl,by rw[a1.out (by simp) (by simp) (by simp),if_neg he,if_neg (by simp)];exact d,trivial⟩
  have Z:=a5.out;go_wp2_with fail
  refine dP HM2 (eH HM2 HP HR HE) fun w3 HM3=>?_;go_wp2_with fail
  refine dP HM3 (bK HM3 HP HR HL) fun w4 HM4=>?_;go_wp2_with fail
  refine dP HM4 (dQ HM4 HS) fun w5 f=>?_;rcases b1 s B with(rfl|⟨rfl,he⟩)|⟨rfl,rfl⟩
  iterate 2
   ·have r:=f.x3;rw[D.out]at r;try have I:=CV he
    skip
    go_wp2_with fail
    refine(BM a4 f J).mono ?_;rintro e7 w7 ⟨rfl,n⟩;rw[a3.out];have a:=hid n;clear n r;rcases me with _|_
    ·have c2:=a.x2;have z2:=a.thaw 2;have d:=hid (a.st 19);go_wp2;first|go_end0|((try simp only[Exit.inBlock,Exit.then]);refine eU rfl rfl ?_)
     exact⟨rfl,by rw[G.out (by simp),if_neg (by first|simp[he]|simp),if_pos (by simp)];exact d,trivial⟩
    ·go_wp2_with fail
     refine jK (iP a a0 14 true) fun w8 d=>?_;go_wp2;first|go_end0|((try simp only[Exit.inBlock,Exit.then]);refine eU rfl rfl ?_)
     exact⟨rfl,by rw[G.out (by simp),if_neg (by first|simp[he]|simp),if_neg (by simp)];exact d,trivial⟩
  skip
  have r:=f.x3;have c2:=f.x2;have z2:=f.thaw 2;rw[D.out]at r;have I:=EK;have a:=hid (f.st 19);go_wp2;first|go_end0|((try simp only[Exit.inBlock,Exit.then]);refine eU rfl rfl ?_)
  exact⟨rfl,by rw[G.out (by simp),if_pos (by simp)];exact a,trivial⟩
 go_wp2_with fail
 refine dP HM2 (eH HM2 HP HR HE) fun w3 HM3=>?_;go_wp2_with fail
 refine dP HM3 (dQ HM3 HS) fun w4 HM4=>?_;rcases b1 s B with(rfl|⟨rfl,he⟩)|⟨rfl,rfl⟩
 iterate 2
  ·have r:=HM4.x3;rw[D.out]at r;try have I:=CV he
   skip
   go_wp2_with fail
   refine(BM a4 HM4 J).mono ?_;rintro e7 w7 ⟨rfl,n⟩;rw[a3.out];have a:=hid n;clear n r;rcases me with _|_
   ·have c2:=a.x2;have z2:=a.thaw 2;have d:=hid (a.st 19);go_wp2;first|go_end0|((try simp only[Exit.inBlock,Exit.then]);refine eU rfl rfl ?_)
    exact⟨rfl,by rw[G.out (by simp),if_neg (by first|simp[he]|simp),if_pos (by simp)];exact d,trivial⟩
   ·go_wp2_with fail
    refine jK (iP a a0 14 true) fun w8 d=>?_;go_wp2;first|go_end0|((try simp only[Exit.inBlock,Exit.then]);refine eU rfl rfl ?_)
    exact⟨rfl,by rw[G.out (by simp),if_neg (by first|simp[he]|simp),if_neg (by simp)];exact d,trivial⟩
 skip
 have r:=HM4.x3;have c2:=HM4.x2;have z2:=HM4.thaw 2;rw[D.out]at r;have I:=EK;have a:=hid (HM4.st 19);go_wp2;first|go_end0|((try simp only[Exit.inBlock,Exit.then]);refine eU rfl rfl ?_)
 exact⟨rfl,by rw[G.out (by simp),if_pos (by simp)];exact a,trivial⟩
end Dq
namespace YB
open Go.RowKit Base aV dJ jq jY fF vO xQ yw Dq
variable {k:K} {m:M} {q:Value} {w:World} {j:Nat} {R:List UInt8}
theorem ahg (c:UInt8) (D:List UInt8):(c≠32∨(c=32∧D=[])∨∃x L,c=32∧D=x::L∧x≠63∧x≠35)∨∃x L,c=32∧D=x::L∧(x=63∨x≠63∧x=35):=by
 by_cases h:c=32
 ·cases D with
  |nil=>exact .inl (.inr (.inl ⟨h,rfl⟩))
  |cons x L=>
   by_cases h1:x=63
   ·exact .inr ⟨x,L,h,rfl,.inl h1⟩
   by_cases h2:x=35
   ·exact .inr ⟨x,L,h,rfl,.inr ⟨h1,h2⟩⟩
   exact .inl (.inr (.inr ⟨x,L,h,rfl,h1,h2⟩))
 exact .inl (.inl h)
theorem WR (dp : Dp) (h : MX k m q w) (hz : m.p = (j : Int)) (hR : k.T.drop j = R) (hl : k.T.length ≤ 4611686018427387904) (hj : j ≤ k.T.length) (N : m.u.txt.length ≤ 100000000) : Calls prog 63 #[.pointer (some ⟨k.g, 0, none⟩), .int .u8 ((cc R).toNat : Int)] w fun e w' => e = .returned (.tuple #[]) ∧ MX k (qJ m R) q w' ∧ True := by
 have Y:=hid h;have HP:=hid hz;have HR:=hid hR;have a7:=hid dp;have a4:=hid hl;have HJ:=hid hj;have a9:(j:Int)≤4611686018427387904:=by omega
 obtain⟨V,Z⟩:∃V,m.u.txt=V:=⟨_,rfl⟩;have HV:=hid Z;have Q:Hid (V.length≤100000000):=by show _≤_;rw[←Z];exact N
 obtain⟨c,hc⟩:∃c,c=cc R:=⟨_,rfl⟩;rw[←hc];obtain⟨o,ho⟩:∃o,bY R=o:=⟨_,rfl⟩;have HE:=hid ho;obtain⟨D,hD⟩:∃D,R.drop 1=D:=⟨_,rfl⟩;obtain⟨X,hX⟩:∃X,X=ah D:=⟨_,rfl⟩;have HX:Hid (ah (k.T.drop (j+1))=X):=by show _=_;rw[hX,←hD,←hR,List.drop_drop]
 obtain⟨E,hE⟩:∃E,aP.enc 0 [c]=E:=⟨_,rfl⟩;have a6:=hid hE;have a5:Hid (E.length≤3):=by show _≤_;have:=aP.fE 0 [c];rw[hE]at this;simpa using this
 have i:=hid hX;have C:Hid (qJ m R=if o=true then tail m R else if c=32∧D.head?.elim false (fun c=>decide (c=63)||decide (c=35))=true then {m with u:={m.u with txt:=V++[37,50,48]}}else {m with u:={m.u with txt:=V++E}}):=by
  show _=_;unfold qJ;rw[ho,←hc,hD,Z,hE]
 clear Z hc ho N dp hD hX hE;clear h hz hR hl hj;go_enter func63,ntmps63;go_wp2_with fail
 refine dP Y (eH Y HP HR HE) fun w2 HM2=>?_;rcases o with _|_
 ·have c1:=HM2.x1;rw[HP.out]at c1;rcases ahg c D with(h|⟨h,rfl⟩|⟨x,L,h,rfl,h63,h35⟩)|⟨x,L,h,rfl,h6⟩
  iterate 3
   ·first|have B:((c.toNat:Int)==32)=true:=ceq (n:=32) (by decide) h|have B:((c.toNat:Int)==32)=false:=cne (n:=32) (by decide) h
    try have v:X.toList.isEmpty=true:=by rw[i.out];exact EK
    try
     obtain⟨sV,J⟩:∃h:0<X.size,X[0]=x:=by have:=i;subst this;exact⟨by rw[ak];exact Nat.succ_pos _,rfl⟩
     have I:(0:Int)<(X.size:Int):=by omega
     have H:¬(X.size:Int)≤0:=by omega
     have v:X.toList.isEmpty=false:=by rw[i.out];exact CV (fun e=>by cases e)
     have A:((x.toNat:Int)==63)=false:=cne (n:=63) (by decide) h63;have P:((x.toNat:Int)==35)=false:=cne (n:=35) (by decide) h35
    have HO:Hid (qJ m R={m with u:={m.u with txt:=V++E}}):=by
     show _=_;rw[C.out,if_neg (by simp)];first|rw[if_neg (fun y=>h y.1)]|rw[if_neg (fun y=>absurd y.2 (by decide))]|rw[if_neg (fun y=>by have:=y.2;simp[h63,h35]at this)]
    clear h;go_wp2_with fail
    refine(qL HM2 (j+1)).mono ?_;rintro e3 w3 ⟨rfl,f⟩;rw[HX.out];have d:=hid (HM2.below f);clear f;clear c1;go_wp2_with fail
    clear B;try clear v
    try clear A P J sV I H
    try generalize ((c.toNat:Int)==32)=g32
    try generalize X.toList.isEmpty=gx
    try generalize ((x.toNat:Int)==63)=g63
    try generalize ((x.toNat:Int)==35)=g35
    refine bf (by kernel_rfl) 14 [pg k.g 0,pg k.g 0,pg k.g 0,pg k.g 4,pg k.g 11,is (.string (ah V)),is (.int .u8 (c.toNat:Int)),row 1 (aU [c]),is (.string (ah [c])),is (.string (ah E)),is (.string (ah (V++E))),pg k.g 0,pg k.g 4,pg k.g 11] [[],[],[1],[1,2],[1,2,3],[1,2,3,4],[],[6],[6,7],[6,7,8],[1,2,3,4,5,6,7,8,9],[0],[0,11],[0,11,12],[0,1,2,3,4,5,6,7,8,9,10,11,12,13]] (by kernel_rfl) ?_ ?_
    ·refine ⟨?_,?_,?_,?_,?_,?_,?_,?_,?_,?_,?_,?_,?_,?_,trivial⟩;all_goals(intro t G z hh K a;simp only[iQ,qQ,Act.put,Nat.reduceAdd,Nat.reduceEqDiff,reduceIte]at hh a⊢)
     iterate 5
      ·try simp only[hh]at a⊢
       clear hh;go_simp;exact a _ _ aZ rfl
     ·try simp only[hh]at a⊢
      clear hh;have s:=(d.below z).x11;rw[HV.out]at s;go_simp;exact a _ _ aZ rfl
     ·try simp only[hh]at a⊢
      clear hh;go_simp;exact a _ _ aZ rfl
     ·try simp only[hh]at a⊢
      clear hh;go_simp;exact a _ _ ((Below.refl _ _).alloc (Nat.le_refl _) _) ⟨_,_,rfl,Nat.le_refl _,by decide,iT G [c] 5 (0,0)⟩
     ·have e7:=hh.2.1;clear hh;obtain⟨A7,c7,e7,b0,a8,a1⟩:=e7;simp only[e7]at a⊢;have hs:=bI 55 9 5 underlying55 underlying5 underlying9 _ c7 a1;go_simp;exact a _ _ aZ rfl
     ·try simp only[hh]at a⊢
      clear hh;go_simp;refine(AX.iw 0 (ah [c]) _ (by rw[ak];exact(by decide:(1:Nat)≤1073741824)) (fun c w=>a7.inn _ c w)).mono ?_;rintro e w5 ⟨rfl,a2⟩;rw[show aP.enc 0 (ah [c]).data.toList=E from a6.out];exact a _ _ a2 rfl
     ·try simp only[hh]at a⊢
      clear hh;have O:(Op.stringOp .add (ah V) (ah E)).run prog G=.ok (.string (ah (V++E))) G:=bH _ _ G (by have:=Q.out;have:=a5.out;simp;omega);go_simp;exact a _ _ aZ rfl
     iterate 3
      ·try simp only[hh]at a⊢
       clear hh;go_simp;exact a _ _ aZ rfl
    ·intro t G z hh;have r:=aO hh 10 (by decide);simp only[pick]at r;replace r:t 10=(.string (ah (V++E))):=r;have l:=aO hh 13 (by decide);simp only[pick]at l;replace l:t 13=(.pointer (some ⟨k.g,11,none⟩)):=l;clear hh;simp only[iQ,qQ,Act.put,Nat.reduceAdd,Nat.reduceEqDiff,reduceIte];simp only[r,l];have F:=hid (d.below z);have W:=hid (F.Yj (V++E));have a0:=F.thaw 11;have s:=F.x11;go_wp2;first|go_end0|((try simp only[Exit.inBlock,Exit.then]);refine eU rfl rfl ?_)
     first|exact⟨rfl,by rw[HO.out];exact W,trivial⟩|exact⟨rfl,by rw[HO.out];exact W⟩
  have B:((c.toNat:Int)==32)=true:=ceq (n:=32) (by decide) h;obtain⟨sV,J⟩:∃h:0<X.size,X[0]=x:=by have:=i;subst this;exact⟨by rw[ak];exact Nat.succ_pos _,rfl⟩
  have I:(0:Int)<(X.size:Int):=by omega
  have H:¬(X.size:Int)≤0:=by omega
  have v:X.toList.isEmpty=false:=by rw[i.out];exact CV (fun e=>by cases e)
  have HO:Hid (qJ m R={m with u:={m.u with txt:=V++[37,50,48]}}):=by
   show _=_;rw[C.out,if_neg (by simp),if_pos ⟨h,by rcases h6 with rfl|⟨_,rfl⟩<;>rfl⟩]
  clear h;rcases h6 with h63|⟨h63,h35⟩
  all_goals
   first|have A:((x.toNat:Int)==63)=true:=ceq (n:=63) (by decide) h63|have A:((x.toNat:Int)==63)=false:=cne (n:=63) (by decide) h63
   try have P:((x.toNat:Int)==35)=true:=ceq (n:=35) (by decide) h35
   clear h63;try clear h35
   go_wp2_with fail
   refine(qL HM2 (j+1)).mono ?_;rintro e3 w3 ⟨rfl,f⟩;rw[HX.out];have d:=hid (HM2.below f);clear f;clear c1;have O:∀w:World,(Op.stringOp .add (ah V) ({data:=#[37,50,48]}:ByteArray)).run prog w=.ok (.string (ah (V++[37,50,48]))) w:=fun w=>bH _ _ w (by have:=Q.out;simp;omega);have s:=d.x11;have a0:=d.thaw 11;rw[HV.out]at s;have a3:=hid (d.Yj (V++[37,50,48]));go_wp2;first|go_end0|((try simp only[Exit.inBlock,Exit.then]);refine eU rfl rfl ?_)
   exact⟨rfl,by rw[HO.out];exact a3,trivial⟩
 go_wp2_with fail
 refine jK (nJ HM2 HP HR a4 HJ) fun w3 d=>?_;go_wp2;first|go_end0|((try simp only[Exit.inBlock,Exit.then]);refine eU rfl rfl ?_)
 exact⟨rfl,by rw[C.out,if_pos (by simp)];exact d,trivial⟩
end YB
namespace UW
open Go.RowKit Base dJ aC jq jY fF vO xQ
variable {k:K} {m:M} {q:Value} {w:World} {j:Nat} {R:List UInt8}
def Kw (m:M) (b:U) (x0 x1 x2 x3 x4:Bool):M:={m with u:={m.u with bT:=if x0=true then b.bT else m.u.bT,bW:=if x1=true then b.bW else m.u.bW,hh:=if x2=true then b.hh else m.u.hh,aS:=if x3=true then b.aS else m.u.aS,port:=if x4=true then b.port else m.u.port}}
def Ky (k:K) (m:M) (q:Value) (L:Nat→Bool) (_:Nat→Value) (w:World):Prop:=MX k (Kw m k.b (L 33) (L 37) (L 41) (L 45) (L 49)) q w
section
variable {L:Nat→Bool} {t:Nat→Value} {v:Value}
theorem P8 (i:Nat) (hi:(i==33||i==37||i==41||i==45||i==49)=false) {w':World} (c:Below w.heap.size w w') (a:Ky k m q L t w):Ky k m q (did L i) (upd t i v) w':=by
 simp only[Bool.or_eq_false_iff,beq_eq_false_iff_ne]at hi;obtain⟨⟨⟨⟨h,g⟩,f⟩,e⟩,d⟩:=hi;have a:MX k (Kw m k.b (L 33) (L 37) (L 41) (L 45) (L 49)) q w:=a;unfold Ky;rw[aK L (Ne.symm h),aK L (Ne.symm g),aK L (Ne.symm f),aK L (Ne.symm e),aK L (Ne.symm d)];exact a.below c
theorem af7 (a:Ky k m q L t w):Ky k m q (did L 33) (upd t 33 v) (w.setCell ⟨k.g,5,none⟩ (.string (ah k.b.bT))):=by
 have a:MX k (Kw m k.b (L 33) (L 37) (L 41) (L 45) (L 49)) q w:=a;unfold Ky;rw[dI,aK L (i:=33) (k:=37) (by decide),aK L (i:=33) (k:=41) (by decide),aK L (i:=33) (k:=45) (by decide),aK L (i:=33) (k:=49) (by decide)];exact a.abI k.b.bT
theorem af8 (a:Ky k m q L t w):Ky k m q (did L 37) (upd t 37 v) (w.setCell ⟨k.g,6,none⟩ (.string (ah k.b.bW))):=by
 have a:MX k (Kw m k.b (L 33) (L 37) (L 41) (L 45) (L 49)) q w:=a;unfold Ky;rw[aK L (i:=37) (k:=33) (by decide),dI,aK L (i:=37) (k:=41) (by decide),aK L (i:=37) (k:=45) (by decide),aK L (i:=37) (k:=49) (by decide)];exact a.abH k.b.bW
theorem af9 (a:Ky k m q L t w):Ky k m q (did L 41) (upd t 41 v) (w.setCell ⟨k.g,8,none⟩ (.bool k.b.hh)):=by
 have a:MX k (Kw m k.b (L 33) (L 37) (L 41) (L 45) (L 49)) q w:=a;unfold Ky;rw[aK L (i:=41) (k:=33) (by decide),aK L (i:=41) (k:=37) (by decide),dI,aK L (i:=41) (k:=45) (by decide),aK L (i:=41) (k:=49) (by decide)];exact a.Uz k.b.hh
theorem aga (a:Ky k m q L t w):Ky k m q (did L 45) (upd t 45 v) (w.setCell ⟨k.g,7,none⟩ (.string (ah k.b.aS))):=by
 have a:MX k (Kw m k.b (L 33) (L 37) (L 41) (L 45) (L 49)) q w:=a;unfold Ky;rw[aK L (i:=45) (k:=33) (by decide),aK L (i:=45) (k:=37) (by decide),aK L (i:=45) (k:=41) (by decide),dI,aK L (i:=45) (k:=49) (by decide)];exact a.uf k.b.aS
theorem agb (a:Ky k m q L t w):Ky k m q (did L 49) (upd t 49 v) (w.setCell ⟨k.g,9,none⟩ (.int .i64 k.b.port)):=by
 have a:MX k (Kw m k.b (L 33) (L 37) (L 41) (L 45) (L 49)) q w:=a;unfold Ky;rw[aK L (i:=49) (k:=33) (by decide),aK L (i:=49) (k:=37) (by decide),aK L (i:=49) (k:=41) (by decide),aK L (i:=49) (k:=45) (by decide),dI];exact a.Kr k.b.port
end
theorem Kz (h:MX k m q w):Calls prog 54 #[.pointer (some ⟨k.g,0,none⟩)] w fun e w'=>e=.returned (.tuple #[])∧MX k (lN k.b m) q w'∧True:=by
 have n:=hid h;clear h;go_enter func54,ntmps54;go_wp2_with fail
 refine iH (by kernel_rfl) (Ky k m q) [pg k.g 0,pg k.g 0,pg k.g 0,pg k.g 0,pg k.g 0,pg k.g 0,pg k.g 0,pg k.g 17,pg k.g 18,is (.string (ah k.b.bT)),pg k.g 0,pg k.g 0,pg k.g 17,pg k.g 19,is (.string (ah k.b.bW)),pg k.g 0,pg k.g 0,pg k.g 17,pg k.g 21,is (.bool k.b.hh),pg k.g 0,pg k.g 0,pg k.g 17,pg k.g 20,is (.string (ah k.b.aS)),pg k.g 0,pg k.g 0,pg k.g 17,pg k.g 22,is (.int .i64 k.b.port),pg k.g 0,pg k.g 4,pg k.g 5,any,pg k.g 0,pg k.g 4,pg k.g 6,any,pg k.g 0,pg k.g 4,pg k.g 8,any,pg k.g 0,pg k.g 4,pg k.g 7,any,pg k.g 0,pg k.g 4,pg k.g 9,any] [[],[],[],[],[],[],[5],[6],[7],[8],[],[10],[11],[12],[13],[],[15],[16],[17],[18],[],[20],[21],[22],[23],[],[25],[26],[27],[28],[0],[30],[31],[9,32],[1],[34],[35],[14,36],[2],[38],[39],[19,40],[3],[42],[43],[24,44],[4],[46],[47],[29,48]] (by kernel_rfl) (by repeat (first|exact oN|refine ru _ ?_|refine oM ?_)) ?_ ?_ ?_
 ·exact fun t=>(show MX k (Kw m k.b false false false false false) q _ from(n).out.below ⟨rfl,rfl,rfl,Nat.le_refl _,fun _ _=>rfl⟩)
 ·refine ⟨?_,?_,?_,?_,?_,?_,?_,?_,?_,?_,?_,?_,?_,?_,?_,?_,?_,?_,?_,?_,?_,?_,?_,?_,?_,?_,?_,?_,?_,?_,?_,?_,?_,?_,?_,?_,?_,?_,?_,?_,?_,?_,?_,?_,?_,?_,?_,?_,?_,?_,trivial⟩;all_goals(intro L t i a F G E hh K d;simp only[iQ,Act.put,Nat.reduceAdd,Nat.reduceEqDiff,reduceIte]at hh d⊢;(try simp only[hh]at d⊢);clear hh)
  iterate 9
   ·go_simp;exact d _ _ rfl (P8 _ (by decide) aZ a)
  ·have c:MX k (Kw m k.b (L 33) (L 37) (L 41) (L 45) (L 49)) q i:=a;have y:=c.x18;go_simp;exact d _ _ rfl (P8 9 (by decide) aZ a)
  iterate 4
   ·go_simp;exact d _ _ rfl (P8 _ (by decide) aZ a)
  ·have c:MX k (Kw m k.b (L 33) (L 37) (L 41) (L 45) (L 49)) q i:=a;have x:=c.x19;go_simp;exact d _ _ rfl (P8 14 (by decide) aZ a)
  iterate 4
   ·go_simp;exact d _ _ rfl (P8 _ (by decide) aZ a)
  ·have c:MX k (Kw m k.b (L 33) (L 37) (L 41) (L 45) (L 49)) q i:=a;have s:=c.x21;go_simp;exact d _ _ rfl (P8 19 (by decide) aZ a)
  iterate 4
   ·go_simp;exact d _ _ rfl (P8 _ (by decide) aZ a)
  ·have c:MX k (Kw m k.b (L 33) (L 37) (L 41) (L 45) (L 49)) q i:=a;have v:=c.x20;go_simp;exact d _ _ rfl (P8 24 (by decide) aZ a)
  iterate 4
   ·go_simp;exact d _ _ rfl (P8 _ (by decide) aZ a)
  ·have c:MX k (Kw m k.b (L 33) (L 37) (L 41) (L 45) (L 49)) q i:=a;have r:=c.x22;go_simp;exact d _ _ rfl (P8 29 (by decide) aZ a)
  iterate 3
   ·go_simp;exact d _ _ rfl (P8 _ (by decide) aZ a)
  ·have c:MX k (Kw m k.b (L 33) (L 37) (L 41) (L 45) (L 49)) q i:=a;have O:=c.x5;have D:=c.thaw 5;go_simp;exact d undef _ trivial (af7 a)
  iterate 3
   ·go_simp;exact d _ _ rfl (P8 _ (by decide) aZ a)
  ·have c:MX k (Kw m k.b (L 33) (L 37) (L 41) (L 45) (L 49)) q i:=a;have N:=c.x6;have C:=c.thaw 6;go_simp;exact d undef _ trivial (af8 a)
  iterate 3
   ·go_simp;exact d _ _ rfl (P8 _ (by decide) aZ a)
  ·have c:MX k (Kw m k.b (L 33) (L 37) (L 41) (L 45) (L 49)) q i:=a;have I:=c.x8;have A:=c.thaw 8;go_simp;exact d undef _ trivial (af9 a)
  iterate 3
   ·go_simp;exact d _ _ rfl (P8 _ (by decide) aZ a)
  ·have c:MX k (Kw m k.b (L 33) (L 37) (L 41) (L 45) (L 49)) q i:=a;have J:=c.x7;have B:=c.thaw 7;go_simp;exact d undef _ trivial (aga a)
  iterate 3
   ·go_simp;exact d _ _ rfl (P8 _ (by decide) aZ a)
  have c:MX k (Kw m k.b (L 33) (L 37) (L 41) (L 45) (L 49)) q i:=a;have H:=c.x9;have z:=c.thaw 9;go_simp;exact d undef _ trivial (agb a)
 intro j t i a f hh;clear hh;simp only[iQ,Act.put,Nat.reduceAdd,Nat.reduceEqDiff,reduceIte];have c:MX k (Kw m k.b (j 33) (j 37) (j 41) (j 45) (j 49)) q i:=a;rw[f 33 (by decide),f 37 (by decide),f 41 (by decide),f 45 (by decide),f 49 (by decide)]at c;have l:=hid c;clear c a f;go_wp2
 go_end0
 first|exact⟨rfl,l,trivial⟩|exact⟨rfl,l⟩
def KC (m:M) (b:U) (x0 x1 x2 x3 x4:Bool):M:={m with u:={m.u with au:=if x0=true then b.au else m.u.au,bP:=if x1=true then true else m.u.bP,txt:=if x2=true then b.txt else m.u.txt,hq:=if x3=true then b.hq else m.u.hq,bQ:=if x4=true then b.bQ else m.u.bQ}}
def JE (k:K) (m:M) (q:Value) (L:Nat→Bool) (_:Nat→Value) (w:World):Prop:=MX k (KC m k.b (L 28) (L 32) (L 36) (L 40) (L 44)) q w
section
variable {L:Nat→Bool} {t:Nat→Value} {v:Value}
theorem TG (i:Nat) (hi:(i==28||i==32||i==36||i==40||i==44)=false) {w':World} (c:Below w.heap.size w w') (a:JE k m q L t w):JE k m q (did L i) (upd t i v) w':=by
 simp only[Bool.or_eq_false_iff,beq_eq_false_iff_ne]at hi;obtain⟨⟨⟨⟨h,g⟩,f⟩,e⟩,d⟩:=hi;have a:MX k (KC m k.b (L 28) (L 32) (L 36) (L 40) (L 44)) q w:=a;unfold JE;rw[aK L (Ne.symm h),aK L (Ne.symm g),aK L (Ne.symm f),aK L (Ne.symm e),aK L (Ne.symm d)];exact a.below c
theorem afx (a:JE k m q L t w):JE k m q (did L 28) (upd t 28 v) (w.setCell ⟨k.g,4,none⟩ (.string (ah k.b.au))):=by
 have a:MX k (KC m k.b (L 28) (L 32) (L 36) (L 40) (L 44)) q w:=a;unfold JE;rw[dI,aK L (i:=28) (k:=32) (by decide),aK L (i:=28) (k:=36) (by decide),aK L (i:=28) (k:=40) (by decide),aK L (i:=28) (k:=44) (by decide)];exact a.AA k.b.au
theorem afy (a:JE k m q L t w):JE k m q (did L 32) (upd t 32 v) (w.setCell ⟨k.g,10,none⟩ (.bool true)):=by
 have a:MX k (KC m k.b (L 28) (L 32) (L 36) (L 40) (L 44)) q w:=a;unfold JE;rw[aK L (i:=32) (k:=28) (by decide),dI,aK L (i:=32) (k:=36) (by decide),aK L (i:=32) (k:=40) (by decide),aK L (i:=32) (k:=44) (by decide)];exact a.Yi true
theorem afz (a:JE k m q L t w):JE k m q (did L 36) (upd t 36 v) (w.setCell ⟨k.g,11,none⟩ (.string (ah k.b.txt))):=by
 have a:MX k (KC m k.b (L 28) (L 32) (L 36) (L 40) (L 44)) q w:=a;unfold JE;rw[aK L (i:=36) (k:=28) (by decide),aK L (i:=36) (k:=32) (by decide),dI,aK L (i:=36) (k:=40) (by decide),aK L (i:=36) (k:=44) (by decide)];exact a.Yj k.b.txt
theorem afA (a:JE k m q L t w):JE k m q (did L 40) (upd t 40 v) (w.setCell ⟨k.g,13,none⟩ (.bool k.b.hq)):=by
 have a:MX k (KC m k.b (L 28) (L 32) (L 36) (L 40) (L 44)) q w:=a;unfold JE;rw[aK L (i:=40) (k:=28) (by decide),aK L (i:=40) (k:=32) (by decide),aK L (i:=40) (k:=36) (by decide),dI,aK L (i:=40) (k:=44) (by decide)];exact a.NK k.b.hq
theorem afB (a:JE k m q L t w):JE k m q (did L 44) (upd t 44 v) (w.setCell ⟨k.g,15,none⟩ (.string (ah k.b.bQ))):=by
 have a:MX k (KC m k.b (L 28) (L 32) (L 36) (L 40) (L 44)) q w:=a;unfold JE;rw[aK L (i:=44) (k:=28) (by decide),aK L (i:=44) (k:=32) (by decide),aK L (i:=44) (k:=36) (by decide),aK L (i:=44) (k:=40) (by decide),dI];exact a.vF k.b.bQ
end
theorem Ud (hh:k.has=false):wO k.base m R=fail m:=by
 unfold K.has at hh;cases h:k.base with
 |none=>rfl
 |some b=>rw[h]at hh;cases hh
theorem tK (hh:k.has=true):wO k.base m R=if k.b.bP=true∧(R=[]∨cc R≠35)then fail m else if k.b.bP=true then tail {m with u:={m.u with au:=k.b.au,bP:=true,txt:=k.b.txt,hq:=k.b.hq,bQ:=k.b.bQ}} R else if k.b.au≠aB then mv m 5 true else mv m 11 true:=by
 unfold K.has at hh;unfold K.b;cases h:k.base with
 |none=>rw[h]at hh;cases hh
 |some b=>rfl
theorem O4 (h:MX k m q w) (I:m.p=(j:Int)) (O:k.T.drop j=R) (J:k.T.length≤4611686018427387904) (N:j≤k.T.length):Calls prog 48 #[.pointer (some ⟨k.g,0,none⟩)] w fun e w'=>e=.returned (.tuple #[])∧MX k (wO k.base m R) q w'∧True:=by
 have a:=hid h;have X:=hid I;have W:=hid O;have HZ:Hid (-4611686018427387904≤m.p∧m.p≤4611686018427387904):=⟨by omega,by omega⟩;have a5:=hid J;have HJ:=hid N;obtain⟨bh,hh⟩:∃x,k.has=x:=⟨_,rfl⟩;have H:=hid hh;obtain⟨bo,l⟩:∃x,k.b.bP=x:=⟨_,rfl⟩;have A:=hid l;obtain⟨v,E⟩:∃v,(cc R).toNat=v:=⟨_,rfl⟩;have HV:=hid E;obtain⟨S,F⟩:∃S,k.b.au=S:=⟨_,rfl⟩;have a0:=hid F;rcases bh with _|_
 ·have C:Hid (wO k.base m R=fail m):=Ud hh;clear hh l E F;clear h I O J N;go_enter func48,ntmps48;have c:=a.x30;rw[H.out]at c;have c2:=a.x2;have z2:=a.thaw 2;have d:=hid (a.st 19);go_wp2
  go_end0
  exact⟨rfl,by rw[C.out];exact d,trivial⟩
 rcases bo with _|_
 ·by_cases hf:S=aB
  ·have D:Hid (((ah S).toList==[102,105,108,101])=true):=by show _=_;rw[mW.dU];exact decide_eq_true hf
   have P:Hid (((ah S).toList !=[102,105,108,101])=false):=by show _=_;rw[bne,D.out];rfl
   have C:Hid (wO k.base m R=mv m 11 true):=by
    show _=_;rw[tK hh,if_neg (fun x=>by rw[l]at x;exact absurd x.1 (by decide)),if_neg (by rw[l];decide),if_neg (fun x=>x (F.trans hf))]
   clear hh l E F hf;clear h I O J N;go_enter func48,ntmps48;have c:=a.x30;rw[H.out]at c;have f:=a.x23;rw[A.out]at f;have G:=a.x17;rw[a0.out]at G;have a2:=D.out;have a1:=P.out;go_wp2_with fail
   refine jK (iP a HZ 11 true) fun w2 d=>?_;go_wp2
   go_end0
   exact⟨rfl,by rw[C.out];exact d,trivial⟩
  have D:Hid (((ah S).toList==[102,105,108,101])=false):=by show _=_;rw[mW.dU];exact decide_eq_false hf
  have P:Hid (((ah S).toList !=[102,105,108,101])=true):=by show _=_;rw[bne,D.out];rfl
  have C:Hid (wO k.base m R=mv m 5 true):=by
   show _=_;rw[tK hh,if_neg (fun x=>by rw[l]at x;exact absurd x.1 (by decide)),if_neg (by rw[l];decide),if_pos (fun x=>hf (F.symm.trans x))]
  clear hh l E F hf;clear h I O J N;go_enter func48,ntmps48;have c:=a.x30;rw[H.out]at c;have f:=a.x23;rw[A.out]at f;have G:=a.x17;rw[a0.out]at G;have a2:=D.out;have a1:=P.out;go_wp2_with fail
  refine jK (iP a HZ 5 true) fun w2 d=>?_;go_wp2
  go_end0
  exact⟨rfl,by rw[C.out];exact d,trivial⟩
 obtain⟨b,V⟩:∃b,decide (R=[])=b:=⟨_,rfl⟩;have HB:=hid V;rcases b with _|_
 ·by_cases h35:v=35
  ·have Q:Hid (((v:Int) !=35)=false):=by subst h35;rfl
   have C:Hid (wO k.base m R=tail {m with u:={m.u with au:=k.b.au,bP:=true,txt:=k.b.txt,hq:=k.b.hq,bQ:=k.b.bQ}} R):=by
    show _=_;rw[tK hh,if_neg (fun x=>by rcases x.2 with y|y;exact absurd y (of_decide_eq_false V);exact y (UInt8.toNat_inj.1 (E.trans h35))),if_pos l]
   clear hh l E F V h35;clear h I O J N;go_enter func48,ntmps48;have c:=a.x30;rw[H.out]at c;have f:=a.x23;rw[A.out]at f;go_wp2_with fail
   refine dP a (lD a X W HB) fun w2 d=>?_;clear c;have c:=d.x30;clear f;have f:=d.x23;rw[H.out]at c;rw[A.out]at f;go_wp2_with fail
   refine dP d (yC d X W HV) fun w3 z=>?_;clear c;have c:=z.x30;clear f;have f:=z.x23;rw[H.out]at c;rw[A.out]at f;have Y:=Q.out;go_wp2_with fail
   clear Y;try generalize ((v:Int) !=35)=g35
   clear f c;refine iH (by kernel_rfl) (JE k m q) [pg k.g 0,pg k.g 0,pg k.g 0,pg k.g 0,pg k.g 0,pg k.g 0,pg k.g 0,pg k.g 17,pg k.g 17,is (.string (ah k.b.au)),pg k.g 0,pg k.g 0,pg k.g 17,pg k.g 24,is (.string (ah k.b.txt)),pg k.g 0,pg k.g 0,pg k.g 17,pg k.g 26,is (.bool k.b.hq),pg k.g 0,pg k.g 0,pg k.g 17,pg k.g 28,is (.string (ah k.b.bQ)),pg k.g 0,pg k.g 4,pg k.g 4,any,pg k.g 0,pg k.g 4,pg k.g 10,any,pg k.g 0,pg k.g 4,pg k.g 11,any,pg k.g 0,pg k.g 4,pg k.g 13,any,pg k.g 0,pg k.g 4,pg k.g 15,any] [[],[],[],[],[],[],[5],[6],[7],[8],[],[10],[11],[12],[13],[],[15],[16],[17],[18],[],[20],[21],[22],[23],[0],[25],[26],[9,27],[1],[29],[30],[31],[2],[33],[34],[14,35],[3],[37],[38],[19,39],[4],[41],[42],[24,43]] (by kernel_rfl) (by repeat (first|exact oN|refine ru _ ?_|refine oM ?_)) ?_ ?_ ?_
   ·exact fun t=>(show MX k (KC m k.b false false false false false) q _ from(z).out.below ⟨rfl,rfl,rfl,Nat.le_refl _,fun _ _=>rfl⟩)
   ·refine ⟨?_,?_,?_,?_,?_,?_,?_,?_,?_,?_,?_,?_,?_,?_,?_,?_,?_,?_,?_,?_,?_,?_,?_,?_,?_,?_,?_,?_,?_,?_,?_,?_,?_,?_,?_,?_,?_,?_,?_,?_,?_,?_,?_,?_,?_,trivial⟩;all_goals(intro L t B i hL hC hN hh K s;simp only[iQ,Act.put,Nat.reduceAdd,Nat.reduceEqDiff,reduceIte]at hh s⊢;(try simp only[hh]at s⊢);clear hh)
    iterate 9
     ·go_simp;exact s _ _ rfl (TG _ (by decide) aZ i)
    ·have n:MX k (KC m k.b (L 28) (L 32) (L 36) (L 40) (L 44)) q B:=i;have G:=n.x17;go_simp;exact s _ _ rfl (TG 9 (by decide) aZ i)
    iterate 4
     ·go_simp;exact s _ _ rfl (TG _ (by decide) aZ i)
    ·have n:MX k (KC m k.b (L 28) (L 32) (L 36) (L 40) (L 44)) q B:=i;have b5:=n.x24;go_simp;exact s _ _ rfl (TG 14 (by decide) aZ i)
    iterate 4
     ·go_simp;exact s _ _ rfl (TG _ (by decide) aZ i)
    ·have n:MX k (KC m k.b (L 28) (L 32) (L 36) (L 40) (L 44)) q B:=i;have b3:=n.x26;go_simp;exact s _ _ rfl (TG 19 (by decide) aZ i)
    iterate 4
     ·go_simp;exact s _ _ rfl (TG _ (by decide) aZ i)
    ·have n:MX k (KC m k.b (L 28) (L 32) (L 36) (L 40) (L 44)) q B:=i;have b0:=n.x28;go_simp;exact s _ _ rfl (TG 24 (by decide) aZ i)
    iterate 3
     ·go_simp;exact s _ _ rfl (TG _ (by decide) aZ i)
    ·have n:MX k (KC m k.b (L 28) (L 32) (L 36) (L 40) (L 44)) q B:=i;have c4:=n.x4;have z4:=n.thaw 4;go_simp;exact s undef _ trivial (afx i)
    iterate 3
     ·go_simp;exact s _ _ rfl (TG _ (by decide) aZ i)
    ·have n:MX k (KC m k.b (L 28) (L 32) (L 36) (L 40) (L 44)) q B:=i;have b9:=n.x10;have a9:=n.thaw 10;go_simp;exact s undef _ trivial (afy i)
    iterate 3
     ·go_simp;exact s _ _ rfl (TG _ (by decide) aZ i)
    ·have n:MX k (KC m k.b (L 28) (L 32) (L 36) (L 40) (L 44)) q B:=i;have b8:=n.x11;have a8:=n.thaw 11;go_simp;exact s undef _ trivial (afz i)
    iterate 3
     ·go_simp;exact s _ _ rfl (TG _ (by decide) aZ i)
    ·have n:MX k (KC m k.b (L 28) (L 32) (L 36) (L 40) (L 44)) q B:=i;have b7:=n.x13;have a7:=n.thaw 13;go_simp;exact s undef _ trivial (afA i)
    iterate 3
     ·go_simp;exact s _ _ rfl (TG _ (by decide) aZ i)
    have n:MX k (KC m k.b (L 28) (L 32) (L 36) (L 40) (L 44)) q B:=i;have b6:=n.x15;have a6:=n.thaw 15;go_simp;exact s undef _ trivial (afB i)
   intro Z t B i r hh;clear hh;simp only[iQ,Act.put,Nat.reduceAdd,Nat.reduceEqDiff,reduceIte];have n:MX k (KC m k.b (Z 28) (Z 32) (Z 36) (Z 40) (Z 44)) q B:=i;rw[r 28 (by decide),r 32 (by decide),r 36 (by decide),r 40 (by decide),r 44 (by decide)]at n;have a3:=hid n;clear n i r;go_wp2_with fail
   refine jK (nJ a3 X W a5 HJ) fun w21 HM21=>?_;go_wp2
   go_end0
   exact⟨rfl,by rw[C.out];exact HM21,trivial⟩
  have Q:Hid (((v:Int) !=35)=true):=by show _=_;exact bne_iff_ne.2 (fun x=>h35 (by omega))
  have C:Hid (wO k.base m R=fail m):=by
   show _=_;rw[tK hh,if_pos ⟨l,.inr (fun x=>h35 (by rw[←E,x];rfl))⟩]
  clear hh l E F V h35;clear h I O J N;go_enter func48,ntmps48;have c:=a.x30;rw[H.out]at c;have f:=a.x23;rw[A.out]at f;go_wp2_with fail
  refine dP a (lD a X W HB) fun w2 d=>?_;go_wp2_with fail
  refine dP d (yC d X W HV) fun w3 z=>?_;have Y:=Q.out;have c2:=z.x2;have z2:=z.thaw 2;have a4:=hid (z.st 19);go_wp2
  go_end0
  exact⟨rfl,by rw[C.out];exact a4,trivial⟩
 skip
 have C:Hid (wO k.base m R=fail m):=by
  show _=_;rw[tK hh,if_pos ⟨l,.inl (of_decide_eq_true V)⟩]
 clear hh l E F V;clear h I O J N;go_enter func48,ntmps48;have c:=a.x30;rw[H.out]at c;have f:=a.x23;rw[A.out]at f;go_wp2_with fail
 refine dP a (lD a X W HB) fun w2 d=>?_;have c2:=d.x2;have z2:=d.thaw 2;have z:=hid (d.st 19);go_wp2
 go_end0
 exact⟨rfl,by rw[C.out];exact z,trivial⟩
end UW
namespace abM
open Go.RowKit Base aV dJ dw fA aC fJ jY fF vO xQ yw Dq
variable {k:K} {m:M} {q:Value} {w:World} {j:Nat} {R:List UInt8}
theorem Le {c:UInt8} (n:Nat) (h:n<256) {d:Bool} (e:decide (c=UInt8.ofNat n)=d):Hid (((c.toNat:Int)==(n:Int))=d):=by
 subst e;show _=_;by_cases g:c=UInt8.ofNat n
 ·rw[ceq h g,decide_eq_true g]
 rw[cne h g,decide_eq_false g]
theorem afd (a b c d e:Bool):(a=true∨(a=false∧b=true)∨(a=false∧b=false∧c=true)∨(a=false∧b=false∧c=false∧d=true)∨(a=false∧b=false∧c=false∧d=false∧e=true))∨(a=false∧b=false∧c=false∧d=false∧e=false):=by
 revert a b c d e;decide
theorem ab8 (S:List UInt8):(k.base.elim false fun b=>decide (b.au=S))=(k.has&&decide (k.b.au=S)):=by
 unfold K.has K.b;cases k.base<;>rfl
theorem XH (dp : Dp) (h : MX k m q w) (hz : m.p = (j : Int)) (hR : k.T.drop j = R) (hl : k.T.length ≤ 4611686018427387904) (hj : j ≤ k.T.length) (c5 : j + 1 ≤ 4611686018427387904) (c8 : m.buf.length ≤ 900000) : Calls prog 47 #[.pointer (some ⟨k.g, 0, none⟩), .int .u8 ((cc R).toNat : Int)] w fun e w' => e = .returned (.tuple #[]) ∧ MX k (eX k.base m R) q w' ∧ True := by
 have d3:=hid h;have HP:=hid hz;have HR:=hid hR;have HZ:Hid (-4611686018427387904≤m.p∧m.p≤4611686018427387904):=⟨by omega,by omega⟩;obtain⟨B,hB⟩:∃B,m.buf=B:=⟨_,rfl⟩;have d5:=hid hB;have g0:Hid (B.length≤900000):=by show _≤_;rw[←hB];exact c8
 obtain⟨c,hc⟩:∃c,c=cc R:=⟨_,rfl⟩;rw[←hc];have a5:(j:Int)≤4611686018427387904:=by omega
 have f4:=hid a5;have d0:Hid (-4611686018427387904≤(j:Int)+1∧(j:Int)+1≤4611686018427387904):=⟨by omega,by omega⟩;clear a5;obtain⟨E,hE⟩:∃E,lower [c]=E:=⟨_,rfl⟩;have f6:=hid hE;have f5:Hid (E.length≤3):=by show _≤_;rw[←hE];exact(by decide:(1:Nat)≤3)
 obtain⟨b,hb⟩:∃b,decide (R=[])=b:=⟨_,rfl⟩;have HB:=hid hb;obtain⟨lt,a4⟩:∃x,letter (c.toNat:Int)=x:=⟨_,rfl⟩;have f3:=hid a4;obtain⟨dg,a6⟩:∃x,digit (c.toNat:Int)=x:=⟨_,rfl⟩;have d4:=hid a6;have c0:nH (cc R)=(lt||(dg||(decide (c=43)||(decide (c=45)||decide (c=46))))):=by rw[←hc];unfold nH;rw[a4,a6]
 obtain⟨N,a9⟩:∃x,decide (c=43)=x:=⟨_,rfl⟩;have d9:Hid (((c.toNat:Int)==43)=N):=Le 43 (by decide) a9;obtain⟨J,a8⟩:∃x,decide (c=45)=x:=⟨_,rfl⟩;have d8:Hid (((c.toNat:Int)==45)=J):=Le 45 (by decide) a8;obtain⟨I,a7⟩:∃x,decide (c=46)=x:=⟨_,rfl⟩;have d7:Hid (((c.toNat:Int)==46)=I):=Le 46 (by decide) a7;obtain⟨a0,Y⟩:∃x,decide (c=58)=x:=⟨_,rfl⟩;have d6:Hid (((c.toNat:Int)==58)=a0):=Le 58 (by decide) Y;have H:nH (cc R)=(lt||(dg||(N||(J||I)))):=by rw[c0,a9,a8,a7]
 obtain⟨s,hs⟩:∃s,aj B=s:=⟨_,rfl⟩;have O:=hid hs;obtain⟨bh,hh⟩:∃x,k.has=x:=⟨_,rfl⟩;have HH:=hid hh;obtain⟨bs,sG⟩:∃x,k.b.au=x:=⟨_,rfl⟩;have f8:=hid sG;obtain⟨D,hD⟩:∃D,R.drop 1=D:=⟨_,rfl⟩;obtain⟨X,hX⟩:∃X,X=ah D:=⟨_,rfl⟩;have b7:=hid hX;have HX:Hid (ah (k.T.drop (j+1))=X):=by show _=_;rw[hX,←hD,←hR,List.drop_drop]
 have f1:Hid (b=false→(lt||(dg||(N||(J||I))))=true→eX k.base m R={m with buf:=B++E}):=by
  intro x y;subst x;unfold eX;rw[if_pos ⟨of_decide_eq_false hb,H.trans y⟩,hB,←hc,hE]
 have d1:Hid (b=true∨((lt||(dg||(N||(J||I))))=false∧a0=false)→eX k.base m R={m with buf:=[],p:= -1,st:=2}):=by
  intro x;unfold eX;rcases x with x|⟨x,y⟩
  ·rw[if_neg (fun z=>z.1 (of_decide_eq_true (hb.trans x))),if_pos (.inl (of_decide_eq_true (hb.trans x)))]
  rw[if_neg (fun z=>by rw[H,x]at z;exact absurd z.2 (by decide)),if_pos (.inr (fun z=>of_decide_eq_false (Y.trans y) (hc.trans z)))]
 have G:Hid (b=false→(lt||(dg||(N||(J||I))))=false→a0=true→eX k.base m R=if B=aB then mv {m with u:={m.u with au:=B},buf:=[]} 11 false else if s=true∧(bh&&decide (bs=B))=true then mv {m with u:={m.u with au:=B},buf:=[]} 3 false else if s=true then mv {m with u:={m.u with au:=B},buf:=[]} 7 false else if D.head?=some 47 then mv {({m with u:={m.u with au:=B},buf:=[]}:M)with p:=m.p+1} 4 false else mv {({m with u:={m.u with au:=B},buf:=[]}:M)with u:={({m with u:={m.u with au:=B},buf:=[]}:M).u with bP:=true}} 16 false):=by
  intro x y z;subst x;unfold eX;rw[if_neg (fun a=>by rw[H,y]at a;exact absurd a.2 (by decide)),if_neg (fun a=>by rcases a with a|a;exact of_decide_eq_false hb a;exact a (hc.symm.trans (of_decide_eq_true (Y.trans z))))];dsimp only;rw[hB,ab8,hh,sG,hs,hD]
 clear hB hc hb c8 dp a4 a6 c0 H hE c5 a9 a8 a7 Y hs hh sG hD hX;clear h hz hR hl hj;go_enter func47,ntmps47;go_wp2_with fail
 refine dP d3 (lD d3 HP HR HB) fun w2 HM2=>?_;rcases b with _|_
 ·go_wp2_with fail
  refine(nK.iq (c.toNat:Int) _).mono ?_;rintro e7 w7 ⟨rfl,rfl⟩;rw[f3.out];rcases afd lt dg N J I with(rfl|⟨rfl,rfl⟩|⟨rfl,rfl,rfl⟩|⟨rfl,rfl,rfl,rfl⟩|⟨rfl,rfl,rfl,rfl,rfl⟩)|⟨rfl,rfl,rfl,rfl,rfl⟩
  iterate 5
   ·go_wp2_with fail
    try
     refine(nK.iJ (c.toNat:Int) _).mono ?_;rintro e8 w8 ⟨rfl,rfl⟩;rw[d4.out];have b5:=d9.out;have b3:=d8.out;have b0:=d7.out;go_wp2_with fail
     clear b5 b3 b0
    try generalize ((c.toNat:Int)==43)=g43
    try generalize ((c.toNat:Int)==45)=g45
    try generalize ((c.toNat:Int)==46)=g46
    refine bf (by kernel_rfl) 12 [pg k.g 0,pg k.g 0,pg k.g 0,pg k.g 3,is (.string (ah B)),is (.int .u8 (c.toNat:Int)),row 1 (aU [c]),is (.string (ah [c])),is (.string (ah E)),is (.string (ah (B++E))),pg k.g 0,pg k.g 3] [[],[],[1],[1,2],[1,2,3],[],[5],[5,6],[5,6,7],[1,2,3,4,5,6,7,8],[0],[0,10],[0,1,2,3,4,5,6,7,8,9,10,11]] (by kernel_rfl) ?_ ?_
    ·refine ⟨?_,?_,?_,?_,?_,?_,?_,?_,?_,?_,?_,?_,trivial⟩;all_goals(intro t P i hh K f;simp only[iQ,qQ,Act.put,Nat.reduceAdd,Nat.reduceEqDiff,reduceIte]at hh f⊢)
     iterate 4
      ·try simp only[hh]at f⊢
       clear hh;go_simp;exact f _ _ aZ rfl
     ·try simp only[hh]at f⊢
      clear hh;have c3:=(HM2.below i).x3;rw[d5.out]at c3;go_simp;exact f _ _ aZ rfl
     ·try simp only[hh]at f⊢
      clear hh;go_simp;exact f _ _ aZ rfl
     ·try simp only[hh]at f⊢
      clear hh;go_simp;exact f _ _ ((Below.refl _ _).alloc (Nat.le_refl _) _) ⟨_,_,rfl,Nat.le_refl _,by decide,iT P [c] 5 (0,0)⟩
     ·have e6:=hh.2.1;clear hh;obtain⟨A6,c6,e6,g7,g6,e3⟩:=e6;simp only[e6]at f⊢;have hs:=bI 55 9 5 underlying55 underlying5 underlying9 _ c6 e3;go_simp;exact f _ _ aZ rfl
     ·try simp only[hh]at f⊢
      clear hh;go_simp;refine(nK.jQ (ah [c]) _ (by rw[ak];exact(by decide:(1:Nat)≤1073741824))).mono ?_;rintro e w5 ⟨rfl,F⟩;rw[show lower (ah [c]).data.toList=E from f6.out];exact f _ _ F rfl
     ·try simp only[hh]at f⊢
      clear hh;have g1:(Op.stringOp .add (ah B) (ah E)).run prog P=.ok (.string (ah (B++E))) P:=bH _ _ P (by have:=g0.out;have:=f5.out;simp;omega);go_simp;exact f _ _ aZ rfl
     iterate 2
      ·try simp only[hh]at f⊢
       clear hh;go_simp;exact f _ _ aZ rfl
    ·intro t P i hh;have f9:=aO hh 9 (by decide);simp only[pick]at f9;replace f9:t 9=(.string (ah (B++E))):=f9;have Z:=aO hh 11 (by decide);simp only[pick]at Z;replace Z:t 11=(.pointer (some ⟨k.g,3,none⟩)):=Z;clear hh;simp only[iQ,qQ,Act.put,Nat.reduceAdd,Nat.reduceEqDiff,reduceIte];simp only[f9,Z];have b8:=hid (HM2.below i);have f2:=hid (b8.buf (B++E));have z3:=b8.thaw 3;have c3:=b8.x3;go_wp2;first|go_end0|((try simp only[Exit.inBlock,Exit.then]);refine eU rfl rfl ?_)
     exact⟨rfl,by rw[f1.out (by simp) (by simp)];exact f2,trivial⟩
  go_wp2_with fail
  refine(nK.iJ (c.toNat:Int) _).mono ?_;rintro e8 w8 ⟨rfl,rfl⟩;rw[d4.out];have b5:=d9.out;have b3:=d8.out;have b0:=d7.out;go_wp2_with fail
  refine dP HM2 (lD HM2 HP HR HB) fun w3 HM3=>?_;rcases a0 with _|_
  ·have c9:((c.toNat:Int) !=58)=true:=by rw[bne,d6.out];rfl
   have c3:=HM3.x3;have c1:=HM3.x1;have c2:=HM3.x2;have z3:=HM3.thaw 3;have z1:=HM3.thaw 1;have z2:=HM3.thaw 2;have W:=hid (HM3.buf []);have r:=hid (W.p (-1));have Q:=hid (r.st 2);go_wp2;first|go_end0|((try simp only[Exit.inBlock,Exit.then]);refine eU rfl rfl ?_)
   exact⟨rfl,by rw[d1.out (by simp)];exact Q,trivial⟩
  have c9:((c.toNat:Int) !=58)=false:=by rw[bne,d6.out];rfl
  have c3:=HM3.x3;have c4:=HM3.x4;have z3:=HM3.thaw 3;have z4:=HM3.thaw 4;rw[d5.out]at c3;have W:=hid (HM3.AA B);have r:=hid (W.buf []);by_cases hf:B=aB
  ·have c7:((ah B).toList==[102,105,108,101])=true:=by rw[mW.dU];exact decide_eq_true hf
   have HF:=hid hf;clear hf;go_wp2_with fail
   refine jK (iP r HZ 11 false) fun w6 Q=>?_;go_wp2;first|go_end0|((try simp only[Exit.inBlock,Exit.then]);refine eU rfl rfl ?_)
   exact⟨rfl,by rw[G.out (by simp) (by simp) (by simp),if_pos HF.out];exact Q,trivial⟩
  have c7:((ah B).toList==[102,105,108,101])=false:=by rw[mW.dU];exact decide_eq_false hf
  have HF:=hid hf;clear hf;go_wp2_with fail
  clear b5 b3 b0 c9 c7;try generalize ((c.toNat:Int) !=58)=g58
  try generalize ((c.toNat:Int)==43)=g43
  try generalize ((c.toNat:Int)==45)=g45
  try generalize ((c.toNat:Int)==46)=g46
  try generalize ((ah B).toList==[102,105,108,101])=gf
  clear c3 c4 z3 z4;rcases s with _|_
  ·skip
   refine dG (by kernel_rfl) [pg k.g 0,is (.bool false),is (.bool false),any,any,any,any,is (.bool false),is (.bool false),any,any,any,any,any,any,any,any,any,any,any,is (.bool false),is (.bool false)] [[],[0],[1],[2],[2,3],[2,4],[2,5],[2,6],[7],[8],[8,9],[8,10],[8,11],[8,12],[8],[8,14],[8,15],[8,16],[8,17],[8,13,18],[8,19],[20]] (by kernel_rfl) ?_ ?_
   ·refine⟨?_,?_,?_,?_,?_,?_,?_,?_,?_,?_,?_,?_,?_,?_,?_,?_,?_,?_,?_,?_,?_,?_,trivial⟩;all_goals(intro t P i hh K f;simp only[iQ,Act.put,Nat.reduceAdd,Nat.reduceEqDiff,reduceIte]at hh f⊢;(try simp only[hh]at f⊢);clear hh;go_simp)
    ·exact f _ _ aZ rfl
    ·refine(dQ (r.below i) (show sp _=false from O)).mono ?_;rintro e w5 ⟨rfl,F⟩;exact f _ _ F rfl
    ·exact f _ _ aZ rfl
    iterate 4 · exact f undef _ aZ trivial
    iterate 2 · exact f _ _ aZ rfl
    iterate 11 · exact f undef _ aZ trivial
    iterate 2 · exact f _ _ aZ rfl
   intro t P i hh;have v:=aO hh 21 (by decide);simp only[pick]at v;replace v:t 21=(.bool false):=v;clear hh;simp only[iQ,Act.put,Nat.reduceAdd,Nat.reduceEqDiff,reduceIte];simp only[v];have C:=hid (r.below i);go_wp2_with fail
   refine dP C (dQ C (show sp _=false from O)) fun w31 HM31=>?_;have c1:w31.cell? ⟨k.g,1,none⟩=some (.int .i64 (j:Int)):=by have:=HM31.x1;rw[show({m with u:={m.u with au:=B},buf:=[]}:M).p=(j:Int)from HP.out]at this;exact this
   have a5:=f4.out;go_wp2_with fail
   refine(qL HM31 (j+1)).mono ?_;rintro g9 a3 ⟨rfl,a2⟩;rw[HX.out];have l:=hid (HM31.below a2);clear a2 c1;have c1:a3.cell? ⟨k.g,1,none⟩=some (.int .i64 (j:Int)):=by have:=l.x1;rw[show({m with u:={m.u with au:=B},buf:=[]}:M).p=(j:Int)from HP.out]at this;exact this
   rcases D with _|⟨x,L⟩
   ·have e4:X.toList.isEmpty=true:=by rw[b7.out];exact EK
    have f0:=l.x10;have e0:=l.thaw 10;have V:=hid (l.Yi true);go_wp2_with fail
    refine jK (iP V HZ 16 false) fun w41 HM41=>?_;go_wp2;first|go_end0|((try simp only[Exit.inBlock,Exit.then]);refine eU rfl rfl ?_)
    exact⟨rfl,by rw[G.out (by simp) (by simp) (by simp),if_neg HF.out,if_neg (by simp),if_neg (by simp),if_neg (by decide)];exact HM41,trivial⟩
   have e4:X.toList.isEmpty=false:=by rw[b7.out];exact CV (fun e=>by cases e)
   obtain⟨sV,g5⟩:∃h:0<X.size,X[0]=x:=by have:=b7;subst this;exact⟨by rw[ak];exact Nat.succ_pos _,rfl⟩
   have g4:(0:Int)<(X.size:Int):=by omega
   have g3:¬(X.size:Int)≤0:=by omega
   go_wp2_with fail
   refine(qL l (j+1)).mono ?_;rintro g8 e2 ⟨rfl,a1⟩;rw[HX.out];have A:=hid (l.below a1);clear a1 c1;have c1:e2.cell? ⟨k.g,1,none⟩=some (.int .i64 (j:Int)):=by have:=A.x1;rw[show({m with u:={m.u with au:=B},buf:=[]}:M).p=(j:Int)from HP.out]at this;exact this
   by_cases h47:x=47
   ·have e5:((x.toNat:Int)==47)=true:=ceq (n:=47) (by decide) h47;have b9:=hid h47;clear h47;have z1:=A.thaw 1;have d2:Hid (MX k {({m with u:={m.u with au:=B},buf:=[]}:M)with p:=(j:Int)+1} q _):=hid (A.p ((j:Int)+1));have g2:=d0.out;go_wp2_with fail
    refine jK (iP d2 d0 4 false) fun w35 HM35=>?_;have HO:=G (by simp) (by simp) (by simp);rw[if_neg HF.out,if_neg (by simp),if_neg (by simp),if_pos (by rw[b9.out];rfl),show m.p=(j:Int)from HP.out]at HO;go_wp2;first|go_end0|((try simp only[Exit.inBlock,Exit.then]);refine eU rfl rfl ?_)
    exact⟨rfl,by rw[HO];exact HM35,trivial⟩
   have e5:((x.toNat:Int)==47)=false:=cne (n:=47) (by decide) h47;have b9:=hid h47;clear h47;have f0:=A.x10;have e0:=A.thaw 10;have V:=hid (A.Yi true);go_wp2_with fail
   refine jK (iP V HZ 16 false) fun w41 HM41=>?_;go_wp2;first|go_end0|((try simp only[Exit.inBlock,Exit.then]);refine eU rfl rfl ?_)
   exact⟨rfl,by rw[G.out (by simp) (by simp) (by simp),if_neg HF.out,if_neg (by simp),if_neg (by simp),if_neg (show ¬(x::L).head?=some 47 from fun e=>b9.out (Option.some.inj e))];exact HM41,trivial⟩
  rcases bh with _|_
  ·skip
   refine dG (by kernel_rfl) [pg k.g 0,is (.bool true),is (.bool true),pg k.g 0,pg k.g 0,pg k.g 30,is (.bool false),is (.bool false),is (.bool false),any,any,any,any,any,any,any,any,any,any,any,is (.bool false),is (.bool false)] [[],[0],[1],[2],[2,3],[2,4],[2,5],[2,6],[7],[8],[8,9],[8,10],[8,11],[8,12],[8],[8,14],[8,15],[8,16],[8,17],[8,13,18],[8,19],[20]] (by kernel_rfl) ?_ ?_
   ·refine ⟨?_,?_,?_,?_,?_,?_,?_,?_,?_,?_,?_,?_,?_,?_,?_,?_,?_,?_,?_,?_,?_,?_,trivial⟩;all_goals(intro t P i hh K f;simp only[iQ,Act.put,Nat.reduceAdd,Nat.reduceEqDiff,reduceIte]at hh f⊢;(try simp only[hh]at f⊢);clear hh)
    ·go_simp;exact f _ _ aZ rfl
    ·go_simp;refine(dQ (r.below i) (show sp _=true from O)).mono ?_;rintro e w5 ⟨rfl,F⟩;exact f _ _ F rfl
    iterate 4
     ·go_simp;exact f _ _ aZ rfl
    ·have b6:=(r.below i).x30;rw[HH.out]at b6;go_simp;exact f _ _ aZ rfl
    iterate 2
     ·go_simp;exact f _ _ aZ rfl
    iterate 11
     ·go_simp;exact f undef _ aZ trivial
    iterate 2
     ·go_simp;exact f _ _ aZ rfl
   intro t P i hh;have v:=aO hh 21 (by decide);simp only[pick]at v;replace v:t 21=(.bool false):=v;clear hh;simp only[iQ,Act.put,Nat.reduceAdd,Nat.reduceEqDiff,reduceIte];simp only[v];have C:=hid (r.below i);go_wp2_with fail
   refine dP C (dQ C (show sp _=true from O)) fun w31 HM31=>?_;go_wp2_with fail
   refine jK (iP HM31 HZ 7 false) fun a3 l=>?_;go_wp2;first|go_end0|((try simp only[Exit.inBlock,Exit.then]);refine eU rfl rfl ?_)
   exact⟨rfl,by rw[G.out (by simp) (by simp) (by simp),if_neg HF.out,if_neg (by simp),if_pos (by simp)];exact l,trivial⟩
  obtain⟨d,hd⟩:∃x,decide (bs=B)=x:=⟨_,rfl⟩;have HE:Hid (decide (bs=B)=d):=hid hd;have f7:Hid (((ah bs).toList==(ah B).toList)=d):=by show _=_;rw[←hd];by_cases e:bs=B;(rw[e,decide_eq_true rfl];exact beq_self_eq_true _);(rw[decide_eq_false e,mW.tl,mW.tl];exact beq_false_of_ne e)
  clear hd;refine dG (by kernel_rfl) [pg k.g 0,is (.bool true),is (.bool true),pg k.g 0,pg k.g 0,pg k.g 30,is (.bool true),is (.bool true),is (.bool true),pg k.g 0,pg k.g 0,pg k.g 17,pg k.g 17,is (.string (ah bs)),pg k.g 0,pg k.g 0,pg k.g 4,pg k.g 4,is (.string (ah B)),is (.bool d),is (.bool d),is (.bool d)] [[],[0],[1],[2],[2,3],[2,4],[2,5],[2,6],[7],[8],[8,9],[8,10],[8,11],[8,12],[8],[8,14],[8,15],[8,16],[8,17],[8,13,18],[8,19],[20]] (by kernel_rfl) ?_ ?_
  ·refine ⟨?_,?_,?_,?_,?_,?_,?_,?_,?_,?_,?_,?_,?_,?_,?_,?_,?_,?_,?_,?_,?_,?_,trivial⟩;all_goals(intro t P i hh K f;simp only[iQ,Act.put,Nat.reduceAdd,Nat.reduceEqDiff,reduceIte]at hh f⊢;(try simp only[hh]at f⊢);clear hh)
   ·go_simp;exact f _ _ aZ rfl
   ·go_simp;refine(dQ (r.below i) (show sp _=true from O)).mono ?_;rintro e w5 ⟨rfl,F⟩;exact f _ _ F rfl
   iterate 4
    ·go_simp;exact f _ _ aZ rfl
   ·have b6:=(r.below i).x30;rw[HH.out]at b6;go_simp;exact f _ _ aZ rfl
   iterate 6
    ·go_simp;exact f _ _ aZ rfl
   ·have e9:=(r.below i).x17;rw[f8.out]at e9;go_simp;exact f _ _ aZ rfl
   iterate 4
    ·go_simp;exact f _ _ aZ rfl
   ·have c4:=(r.below i).x4;go_simp;exact f _ _ aZ rfl
   ·have e1:=f7.out;go_simp;exact f _ _ aZ rfl
   iterate 2
    ·go_simp;exact f _ _ aZ rfl
  intro t P i hh;have v:=aO hh 21 (by decide);simp only[pick]at v;replace v:t 21=(.bool d):=v;clear hh;simp only[iQ,Act.put,Nat.reduceAdd,Nat.reduceEqDiff,reduceIte];simp only[v];have C:=hid (r.below i);rcases d with _|_
  ·skip
   go_wp2_with fail
   refine dP C (dQ C (show sp _=true from O)) fun w31 HM31=>?_;go_wp2_with fail
   refine jK (iP HM31 HZ 7 false) fun a3 l=>?_;go_wp2;first|go_end0|((try simp only[Exit.inBlock,Exit.then]);refine eU rfl rfl ?_)
   exact⟨rfl,by rw[G.out (by simp) (by simp) (by simp),if_neg HF.out,if_neg (by simp[HE.out]),if_pos (by simp)];exact l,trivial⟩
  go_wp2_with fail
  refine jK (iP C HZ 3 false) fun w31 HM31=>?_;go_wp2;first|go_end0|((try simp only[Exit.inBlock,Exit.then]);refine eU rfl rfl ?_)
  exact⟨rfl,by rw[G.out (by simp) (by simp) (by simp),if_neg HF.out,if_pos (by simp[HE.out])];exact HM31,trivial⟩
 go_wp2_with fail
 refine dP HM2 (lD HM2 HP HR HB) fun w3 HM3=>?_;have c3:=HM3.x3;have c1:=HM3.x1;have c2:=HM3.x2;have z3:=HM3.thaw 3;have z1:=HM3.thaw 1;have z2:=HM3.thaw 2;have W:=hid (HM3.buf []);have r:=hid (W.p (-1));have Q:=hid (r.st 2);go_wp2;first|go_end0|((try simp only[Exit.inBlock,Exit.then]);refine eU rfl rfl ?_)
 exact⟨rfl,by rw[d1.out (by simp)];exact Q,trivial⟩
end abM
