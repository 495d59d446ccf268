/- Lemmas. -/
import Derived.Test.YtmbpmbapelfobaaGreatDoorOTAAQ
set_option linter.unusedSimpArgs false
set_option linter.unusedVariables false
set_option maxRecDepth 100000
set_option maxHeartbeats 64000000
namespace Go.Proofs.YtmbpmbapelfobaaGreatDoor
open Tryz
namespace abN
open Go.RowKit Base aV dJ ig dw aC pF fJ jY fF vO xQ yw Dq
variable {k:K} {m:M} {q:Value} {w:World} {j:Nat} {R:List UInt8}
theorem MJ:∀(C A:List UInt8),65535<jX A→65535<jX (A++C)
 |[],A,h=>by rw[List.append_nil];exact h
 |c::C,A,h=>by
  rw[show A++c::C=(A++[c])++C by simp]
  exact MJ C _ (by rw[xI];omega)
theorem TV {B:List UInt8} (i:Nat) (h:65535<jX (B.take i)):65535<jX B:=by
 have:=MJ (B.drop i) _ h
 rwa[List.take_append_drop]at this
theorem afX {s:Bool} (h:kR s R=true):jW (cc R)=false:=by
 match R,h with
 |c::L,h=>
  have h:bU s c=true:=h;show jW c=false;by_cases h47:c=47
  ·subst h47;rfl
  by_cases h92:c=92
  ·subst h92;rfl
  unfold bU at h;simp[h47,h92]at h
theorem p3 (o g l:Bool):(o=false∧g=false∧l=false)∨((o=false∧g=false∧l=true)∨o=true)∨(o=false∧g=true):=by
 revert o g l;decide
theorem acU (dp:Dp) (h:MX k m q w) (O:m.p=(j:Int)) (hR:k.T.drop j=R) (hl:k.T.length≤4611686018427387904) (hj:j≤k.T.length) (J:m.buf.length≤900000) (G:m.buf.all jW=true):Calls prog 57 #[.pointer (some ⟨k.g,0,none⟩),.int .u8 ((cc R).toNat:Int)] w fun e w'=>e=.returned (.tuple #[])∧MX k (gW m R) q w'∧True:=by
 have s:=hid h;have HP:=hid O;have Z:=hid hR;have HZ:Hid (-4611686018427387904≤m.p∧m.p≤4611686018427387904):=⟨by omega,by omega⟩;obtain⟨B,v⟩:∃B,m.buf=B:=⟨_,rfl⟩;have a9:=hid v;have a8:Hid (B.length≤900000):=by show _≤_;rw[←v];exact J
 obtain⟨c,I⟩:∃c,c=cc R:=⟨_,rfl⟩;rw[←I];obtain⟨l,f⟩:∃l,kR (sp m) R=l:=⟨_,rfl⟩;have HL:=hid f;obtain⟨o,P⟩:∃o,bY R=o:=⟨_,rfl⟩;have HE:=hid P;obtain⟨g,Q⟩:∃g,jW c=g:=⟨_,rfl⟩;have HG:Hid (digit (c.toNat:Int)=g):=Q;have d4:Hid (B.all jW=true):=by show _=_;rw[←v];exact G
 obtain⟨X,hX⟩:∃X,ah B=X:=⟨_,rfl⟩;have HX:=hid hX;have Y:Hid (X.size=B.length):=by show _=_;rw[←hX];exact ak _
 obtain⟨S,hS⟩:∃S,S=ah m.u.au:=⟨_,rfl⟩;have c1:=hid hS;obtain⟨D,hD⟩:∃D,D=iE m.u.au:=⟨_,rfl⟩;have d2:Hid (iE S.data.toList=D):=by show _=_;rw[hS,hD];rfl
 obtain⟨E,hE⟩:∃E,E=aj m.u.au:=⟨_,rfl⟩;have d3:Hid (aj S.data.toList=E):=by show _=_;rw[hS,hE];rfl
 rcases p3 o g l with⟨rfl,rfl,rfl⟩|(⟨rfl,rfl,rfl⟩|rfl)|⟨rfl,rfl⟩
 ·skip
  have y:Hid (gW m R=fail m):=by
   show _=_;unfold gW;rw[if_neg (fun x=>by rw[←I,Q]at x;exact absurd x.2 (by decide)),if_pos ⟨P,f⟩]
  clear v I f P J dp Q G hX hS hD hE;clear h O hR hl hj;go_enter func57,ntmps57;go_wp2_with fail
  refine dP s (eH s HP Z HE) fun w2 HM2=>?_;go_wp2_with fail
  refine(nK.iJ (c.toNat:Int) _).mono ?_;rintro e7 w7 ⟨rfl,rfl⟩;rw[HG.out];go_wp2_with fail
  refine dP HM2 (eH HM2 HP Z HE) fun w3 HM3=>?_;go_wp2_with fail
  refine dP HM3 (bK HM3 HP Z HL) fun w4 a=>?_;have c2:=a.x2;have z2:=a.thaw 2;have a3:=hid (a.st 19);go_wp2;first|go_end0|((try simp only[Exit.inBlock,Exit.then]);refine eU rfl rfl ?_)
  exact⟨rfl,by rw[y.out];exact a3,trivial⟩
 iterate 2
  ·have A1:¬(bY R=false∧jW (cc R)=true):=by rw[P,←I,Q];first|decide|simp
   have A2:¬(bY R=false∧kR (sp m) R=false):=by rw[P,f];first|decide|simp
   have c8:Hid (B=[]→gW m R=mv m 14 true):=by
    intro x;unfold gW;rw[if_neg A1,if_neg A2,if_pos (v.trans x)]
   have c7:Hid (B≠[]→65535<jX B→gW m R=fail m):=by
    intro C hb;unfold gW;rw[if_neg A1,if_neg A2,if_neg (fun x=>C (v.symm.trans x)),v,if_pos hb]
   have c5:Hid (B≠[]→¬65535<jX B→gW m R=mv {m with u:={m.u with port:=if (jX B:Int)=D then -1 else jX B},buf:=[]} 14 true):=by
    intro C hb;unfold gW;rw[if_neg A1,if_neg A2,if_neg (fun x=>C (v.symm.trans x)),v,if_neg hb,hD]
   clear v I f P J dp Q G hX hS hD hE;clear h O hR hl hj;go_enter func57,ntmps57;go_wp2_with fail
   refine dP s (eH s HP Z HE) fun w2 HM2=>?_;go_wp2_with fail
   try
    refine(nK.iJ (c.toNat:Int) _).mono ?_;rintro e7 w7 ⟨rfl,rfl⟩;rw[HG.out];go_wp2_with fail
   refine dP HM2 (eH HM2 HP Z HE) fun w3 HM3=>?_;first
   |go_wp2_with fail
    refine dP HM3 (bK HM3 HP Z HL) fun w4 a=>?_
   |obtain⟨w4,b5⟩:∃w4,w4=w3:=⟨_,rfl⟩
    subst b5;have a:=HM3
   have c3:=a.x3;rw[a9.out,HX.out]at c3;by_cases C:B=[]
   ·have b8:X.toList.isEmpty=true:=by rw[←HX.out,C];exact EK
    go_wp2_with fail
    refine jK (iP a HZ 14 true) fun w5 a3=>?_;go_wp2;first|go_end0|((try simp only[Exit.inBlock,Exit.then]);refine eU rfl rfl ?_)
    exact⟨rfl,by rw[c8.out C];exact a3,trivial⟩
   ·have b8 : X.toList.isEmpty = false := by rw [← HX.out]; exact CV C
    have d0:Hid (65535<jX B→gW m R=fail m):=c7 C;have a6:Hid (¬65535<jX B→gW m R=mv {m with u:={m.u with port:=if (jX B:Int)=D then -1 else jX B},buf:=[]} 14 true):=c5 C;clear C;go_wp2;go_loopw [4,5,47] (fun vn _ vk wr=>∃(i n:Nat),i≤X.size∧vk=.int .i64 (i:Int)∧vn=.int .i64 (n:Int)∧n≤65535∧wr=w4∧Hid (n=jX (B.take i))) (fun _ _ vk _=>X.size - (intOf vk).toNat)
    case atStart=>exact⟨0,0,Nat.zero_le _,rfl,rfl,by omega,rfl,rfl⟩
    case round =>
     obtain⟨i,n,hi,rfl,rfl,hn,b3,HN⟩:=hrel;subst b3;have sV:X.size≤900000:=by rw[Y.out];exact a8
     by_cases hlt:i<X.size
     ·obtain⟨d,hd⟩:∃d,X[i]=d:=⟨_,rfl⟩;have F:i<B.length:=by rw[←Y.out];exact hlt
      have H:B[i]=d:=by have:=HX.out;subst this;exact hd
      have V:jW d=true:=by rw[←H];exact List.all_eq_true.1 d4 _ (List.getElem_mem F)
      obtain⟨v1,v2⟩:=Qq d V;have d9:48≤(d.toNat:Int):=by omega
      have d8:(d.toNat:Int)≤57:=by omega
      obtain⟨z,O⟩:∃z,z=n*10+(d.toNat - 48):=⟨_,rfl⟩;have a4:Hid ((n:Int)*10+((d.toNat:Int) - 48)=(z:Int)):=by show _=_;omega
      have a5:Hid (jX (B.take (i+1))=min z 65536):=by show _=_;rw[wL _ _ F,H,←HN.out,O]
      by_cases hbig:65535<z
      ·have c0:65535<(n:Int)*10+((d.toNat:Int) - 48):=by omega
       have y:Hid (gW m R=fail m):=d0 (TV (i+1) (by rw[a5.out];omega));clear F H V v1 v2 O hbig;have c2:=a.x2;have z2:=a.thaw 2;have a7:=hid (a.st 19);go_wp2;first|go_end0|((try simp only[Exit.inBlock,Exit.then]);refine eU rfl rfl ?_)
       first|exact⟨rfl,by rw[y.out];exact a7,trivial⟩|exact⟨rfl,by rw[y.out];exact a7⟩
      ·have c0:¬65535<(n:Int)*10+((d.toNat:Int) - 48):=by omega
       have b0:z≤65535:=by omega
       have d1:Hid (z=jX (B.take (i+1))):=by show _=_;rw[a5.out];omega
       clear F H V v1 v2 O hbig;go_wp2;go_roundw
       case rel=>exact⟨i+1,z,by omega,by go_num,by first|exact congrArg (Value.int .i64) a4|(simp;have:=a4.out;omega),b0,by first|rfl|trivial,d1⟩
       case measure=>simp[intOf];omega
     ·have b9:i=X.size:=by omega
      subst b9;have A:Hid (n=jX B):=by show _=_;rw[HN.out,Y.out,List.take_length]
      have c4:=a.x4;rw[←c1.out]at c4;go_wp2_with fail
      refine(oZ S _).mono ?_;rintro e8 w8 ⟨rfl,rfl⟩;rw[d2.out,d3.out];have c9:=a.x9;have e0:=a.x3;have z9:=a.thaw 9;have z3:=a.thaw 3;by_cases hq:(n:Int)=D
      ·have q3:((n:Int)==D)=true:=by rw[beq_iff_eq];exact hq
       have y:Hid (gW m R=mv {m with u:={m.u with port:= -1},buf:=[]} 14 true):=by
        show _=_;rw[a6.out (by rw[←A.out];omega),if_pos (by rw[←A.out];exact hq)]
       clear hq;have a2:=hid (a.Kr (n:Int));have N:=hid (a2.Kr (-1));have a1:=hid (N.buf []);go_wp2_with fail
       refine jK (iP a1 HZ 14 true) fun w9 HM9=>?_;go_wp2;first|go_end0|((try simp only[Exit.inBlock,Exit.then]);refine eU rfl rfl ?_)
       exact⟨rfl,by rw[y.out];exact HM9,trivial⟩
      ·have q3:((n:Int)==D)=false:=by rw[beq_eq_false_iff_ne];exact hq
       have y:Hid (gW m R=mv {m with u:={m.u with port:=(n:Int)},buf:=[]} 14 true):=by
        show _=_;rw[a6.out (by rw[←A.out];omega),if_neg (by rw[←A.out];exact hq),←A.out]
       clear hq;have a2:=hid (a.Kr (n:Int));have a1:=hid (a2.buf []);go_wp2_with fail
       refine jK (iP a1 HZ 14 true) fun w9 HM9=>?_;go_wp2;first|go_end0|((try simp only[Exit.inBlock,Exit.then]);refine eU rfl rfl ?_)
       exact⟨rfl,by rw[y.out];exact HM9,trivial⟩
 have b7:l=false:=by cases l with|false=>rfl|true=>exact absurd (afX f) (by rw[←I,Q];decide)
 have y:Hid (gW m R={m with buf:=B++[c]}):=by
  show _=_;unfold gW;rw[if_pos ⟨P,by rw[←I];exact Q⟩,v,I]
 clear v I f P J dp Q G hX hS hD hE b7;clear h O hR hl hj;go_enter func57,ntmps57;go_wp2_with fail
 refine dP s (eH s HP Z HE) fun w2 HM2=>?_;go_wp2_with fail
 refine(nK.iJ (c.toNat:Int) _).mono ?_;rintro e7 w7 ⟨rfl,rfl⟩;rw[HG.out];go_wp2_with fail
 refine bf (by kernel_rfl) 11 [pg k.g 0,pg k.g 0,pg k.g 0,pg k.g 3,is (.string (ah B)),is (.int .u8 (c.toNat:Int)),row 1 (aU [c]),is (.string (ah [c])),is (.string (ah (B++[c]))),pg k.g 0,pg k.g 3] [[],[],[1],[1,2],[1,2,3],[],[5],[5,6],[1,2,3,4,5,6,7],[0],[0,9],[0,1,2,3,4,5,6,7,8,9,10]] (by kernel_rfl) ?_ ?_
 ·refine ⟨?_,?_,?_,?_,?_,?_,?_,?_,?_,?_,?_,trivial⟩;all_goals(intro t wq W hh K r;simp only[iQ,qQ,Act.put,Nat.reduceAdd,Nat.reduceEqDiff,reduceIte]at hh r⊢)
  iterate 4
   ·try simp only[hh]at r⊢
    clear hh;go_simp;exact r _ _ aZ rfl
  ·try simp only[hh]at r⊢
   clear hh;have c3:=(HM2.below W).x3;rw[a9.out]at c3;go_simp;exact r _ _ aZ rfl
  ·try simp only[hh]at r⊢
   clear hh;go_simp;exact r _ _ aZ rfl
  ·try simp only[hh]at r⊢
   clear hh;go_simp;exact r _ _ ((Below.refl _ _).alloc (Nat.le_refl _) _) ⟨_,_,rfl,Nat.le_refl _,by decide,iT wq [c] 5 (0,0)⟩
  ·have e6:=hh.2.1;clear hh;obtain⟨A6,c6,e6,d7,d6,b6⟩:=e6;simp only[e6]at r⊢;have hs:=bI 55 9 5 underlying55 underlying5 underlying9 _ c6 b6;go_simp;exact r _ _ aZ rfl
  ·try simp only[hh]at r⊢
   clear hh;have d5:(Op.stringOp .add (ah B) (ah [c])).run prog wq=.ok (.string (ah (B++[c]))) wq:=bH _ _ wq (by have:=a8.out;simp;omega);go_simp;exact r _ _ aZ rfl
  iterate 2
   ·try simp only[hh]at r⊢
    clear hh;go_simp;exact r _ _ aZ rfl
 intro t wq W hh;have f8:=aO hh 8 (by decide);simp only[pick]at f8;replace f8:t 8=(.string (ah (B++[c]))):=f8;have L:=aO hh 10 (by decide);simp only[pick]at L;replace L:t 10=(.pointer (some ⟨k.g,3,none⟩)):=L;clear hh;simp only[iQ,qQ,Act.put,Nat.reduceAdd,Nat.reduceEqDiff,reduceIte];simp only[f8,L];have a0:=hid (HM2.below W);have N:=hid (a0.buf (B++[c]));have z3:=a0.thaw 3;have c3:=a0.x3;go_wp2;first|go_end0|((try simp only[Exit.inBlock,Exit.then]);refine eU rfl rfl ?_)
 first|exact⟨rfl,by rw[y.out];exact N,trivial⟩|exact⟨rfl,by rw[y.out];exact N⟩
end abN
namespace aen
open Go.RowKit Base aV dJ aC jq jY fF vO xQ yw Ed Dq YB UW abM abN
variable {k:K} {m:M} {q:Value} {w:World} {j:Nat} {R:List UInt8}
theorem aaD (dp:Dp) (h:MX k m q w) (x:m.p=(j:Int)) (B:k.T.drop j=R) (z:k.T.length≤4611686018427387904) (A:j≤k.T.length) (c:m.buf.length≤900000) (l:m.u.txt.length≤100000000) (i:m.st=10→m.buf.all jW=true) (a:j+1≤4611686018427387904) (f:m.st=1):Calls prog 17 #[.pointer (some ⟨k.g,0,none⟩)] w fun e w'=>e=.returned (.tuple #[])∧MX k (aX k.base m R) q w'∧True:=by
 have d:=hid h;have D:=hid x;have C:=hid B;have s:=hid dp;have n:=hid z;have H:=hid A;have t:=hid c;have r:=hid a;have F:=hid f;obtain⟨v,y⟩:∃v,(cc R).toNat=v:=⟨_,rfl⟩;have HV:=hid y;have G:Hid (aX k.base m R=eX k.base m R):=ms1 f;clear h x B z A dp c l i a f y;go_enter func17,ntmps17;go_wp2_with fail
 refine dP d (yC d D C HV) fun w2 HM2=>?_;have E:=HM2.x2;rw[F.out]at E;go_wp2_with fail
 rw[←HV.out];refine jK (XH s HM2 D C n H r t) fun w3 HM3=>?_;go_wp2
 go_end0
 exact⟨rfl,by rw[G.out];exact HM3,trivial⟩
theorem aaE (dp:Dp) (h:MX k m q w) (r:m.p=(j:Int)) (y:k.T.drop j=R) (t:k.T.length≤4611686018427387904) (x:j≤k.T.length) (l:m.buf.length≤900000) (i:m.u.txt.length≤100000000) (f:m.st=10→m.buf.all jW=true) (d:j+1≤4611686018427387904) (c:m.st=2):Calls prog 17 #[.pointer (some ⟨k.g,0,none⟩)] w fun e w'=>e=.returned (.tuple #[])∧MX k (aX k.base m R) q w'∧True:=by
 have a:=hid h;have A:=hid r;have z:=hid y;have n:=hid t;have E:=hid x;have C:=hid c;obtain⟨v,s⟩:∃v,(cc R).toNat=v:=⟨_,rfl⟩;have HV:=hid s;have D:Hid (aX k.base m R=wO k.base m R):=ms2 c;clear h r y t x dp l i f d c s;go_enter func17,ntmps17;go_wp2_with fail
 refine dP a (yC a A z HV) fun w2 HM2=>?_;have B:=HM2.x2;rw[C.out]at B;go_wp2_with fail
 refine jK (O4 HM2 A z n E) fun w3 HM3=>?_;go_wp2
 go_end0
 exact⟨rfl,by rw[D.out];exact HM3,trivial⟩
theorem aaL (dp:Dp) (h:MX k m q w) (t:m.p=(j:Int)) (A:k.T.drop j=R) (y:k.T.length≤4611686018427387904) (z:j≤k.T.length) (a:m.buf.length≤900000) (l:m.u.txt.length≤100000000) (i:m.st=10→m.buf.all jW=true) (f:j+1≤4611686018427387904) (d:m.st=9):Calls prog 17 #[.pointer (some ⟨k.g,0,none⟩)] w fun e w'=>e=.returned (.tuple #[])∧MX k (aX k.base m R) q w'∧True:=by
 have c:=hid h;have C:=hid t;have B:=hid A;have r:=hid dp;have n:=hid y;have G:=hid z;have s:=hid a;have E:=hid d;obtain⟨v,x⟩:∃v,(cc R).toNat=v:=⟨_,rfl⟩;have HV:=hid x;have F:Hid (aX k.base m R=kL m R):=ms9 d;clear h t A y z dp a l i f d x;go_enter func17,ntmps17;go_wp2_with fail
 refine dP c (yC c C B HV) fun w2 HM2=>?_;have D:=HM2.x2;rw[E.out]at D;go_wp2_with fail
 rw[←HV.out];refine jK (acw r HM2 C B n G s) fun w3 HM3=>?_;go_wp2
 go_end0
 exact⟨rfl,by rw[F.out];exact HM3,trivial⟩
theorem XR (dp:Dp) (h:MX k m q w) (x:m.p=(j:Int)) (B:k.T.drop j=R) (z:k.T.length≤4611686018427387904) (A:j≤k.T.length) (c:m.buf.length≤900000) (l:m.u.txt.length≤100000000) (a:m.st=10→m.buf.all jW=true) (i:j+1≤4611686018427387904) (f:m.st=10):Calls prog 17 #[.pointer (some ⟨k.g,0,none⟩)] w fun e w'=>e=.returned (.tuple #[])∧MX k (aX k.base m R) q w'∧True:=by
 have d:=hid h;have E:=hid x;have D:=hid B;have r:=hid dp;have n:=hid z;have H:=hid A;have t:=hid c;have s:=hid a;have C:=hid f;obtain⟨v,y⟩:∃v,(cc R).toNat=v:=⟨_,rfl⟩;have HV:=hid y;have G:Hid (aX k.base m R=gW m R):=ZE f;clear h x B z A dp c l a i f y;go_enter func17,ntmps17;go_wp2_with fail
 refine dP d (yC d E D HV) fun w2 HM2=>?_;have F:=HM2.x2;rw[C.out]at F;go_wp2_with fail
 rw[←HV.out];refine jK (acU r HM2 E D n H t (s C)) fun w3 HM3=>?_;go_wp2
 go_end0
 exact⟨rfl,by rw[G.out];exact HM3,trivial⟩
theorem XY (dp:Dp) (h:MX k m q w) (t:m.p=(j:Int)) (A:k.T.drop j=R) (y:k.T.length≤4611686018427387904) (z:j≤k.T.length) (a:m.buf.length≤900000) (l:m.u.txt.length≤100000000) (i:m.st=10→m.buf.all jW=true) (f:j+1≤4611686018427387904) (d:m.st=13):Calls prog 17 #[.pointer (some ⟨k.g,0,none⟩)] w fun e w'=>e=.returned (.tuple #[])∧MX k (aX k.base m R) q w'∧True:=by
 have c:=hid h;have C:=hid t;have B:=hid A;have r:=hid dp;have n:=hid y;have G:=hid z;have s:=hid a;have E:=hid d;obtain⟨v,x⟩:∃v,(cc R).toNat=v:=⟨_,rfl⟩;have HV:=hid x;have F:Hid (aX k.base m R=dB m R):=acD d;clear h t A y z dp a l i f d x;go_enter func17,ntmps17;go_wp2_with fail
 refine dP c (yC c C B HV) fun w2 HM2=>?_;have D:=HM2.x2;rw[E.out]at D;go_wp2_with fail
 rw[←HV.out];refine jK (Ox r HM2 C B n G s) fun w3 HM3=>?_;go_wp2
 go_end0
 exact⟨rfl,by rw[F.out];exact HM3,trivial⟩
theorem XZ (dp:Dp) (h:MX k m q w) (r:m.p=(j:Int)) (y:k.T.drop j=R) (t:k.T.length≤4611686018427387904) (x:j≤k.T.length) (l:m.buf.length≤900000) (i:m.u.txt.length≤100000000) (f:m.st=10→m.buf.all jW=true) (d:j+1≤4611686018427387904) (c:m.st=14):Calls prog 17 #[.pointer (some ⟨k.g,0,none⟩)] w fun e w'=>e=.returned (.tuple #[])∧MX k (aX k.base m R) q w'∧True:=by
 have a:=hid h;have A:=hid r;have z:=hid y;have n:=hid t;have E:=hid x;have C:=hid c;obtain⟨v,s⟩:∃v,(cc R).toNat=v:=⟨_,rfl⟩;have HV:=hid s;have D:Hid (aX k.base m R=dX m R):=afr c;clear h r y t x dp l i f d c s;go_enter func17,ntmps17;go_wp2_with fail
 refine dP a (yC a A z HV) fun w2 HM2=>?_;have B:=HM2.x2;rw[C.out]at B;go_wp2_with fail
 refine jK (MG HM2 A z n E) fun w3 HM3=>?_;go_wp2
 go_end0
 exact⟨rfl,by rw[D.out];exact HM3,trivial⟩
theorem X4 (dp:Dp) (h:MX k m q w) (t:m.p=(j:Int)) (A:k.T.drop j=R) (y:k.T.length≤4611686018427387904) (z:j≤k.T.length) (l:m.buf.length≤900000) (a:m.u.txt.length≤100000000) (i:m.st=10→m.buf.all jW=true) (f:j+1≤4611686018427387904) (d:m.st=16):Calls prog 17 #[.pointer (some ⟨k.g,0,none⟩)] w fun e w'=>e=.returned (.tuple #[])∧MX k (aX k.base m R) q w'∧True:=by
 have c:=hid h;have C:=hid t;have B:=hid A;have s:=hid dp;have r:=hid y;have G:=hid z;have n:=hid a;have E:=hid d;obtain⟨v,x⟩:∃v,(cc R).toNat=v:=⟨_,rfl⟩;have HV:=hid x;have F:Hid (aX k.base m R=qJ m R):=acE d;clear h t A y z dp l a i f d x;go_enter func17,ntmps17;go_wp2_with fail
 refine dP c (yC c C B HV) fun w2 HM2=>?_;have D:=HM2.x2;rw[E.out]at D;go_wp2_with fail
 rw[←HV.out];refine jK (WR s HM2 C B r G n) fun w3 HM3=>?_;go_wp2
 go_end0
 exact⟨rfl,by rw[F.out];exact HM3,trivial⟩
theorem X5 (dp:Dp) (h:MX k m q w) (t:m.p=(j:Int)) (A:k.T.drop j=R) (y:k.T.length≤4611686018427387904) (z:j≤k.T.length) (a:m.buf.length≤900000) (l:m.u.txt.length≤100000000) (i:m.st=10→m.buf.all jW=true) (f:j+1≤4611686018427387904) (d:m.st=17):Calls prog 17 #[.pointer (some ⟨k.g,0,none⟩)] w fun e w'=>e=.returned (.tuple #[])∧MX k (aX k.base m R) q w'∧True:=by
 have c:=hid h;have C:=hid t;have B:=hid A;have r:=hid dp;have n:=hid y;have G:=hid z;have s:=hid a;have E:=hid d;obtain⟨v,x⟩:∃v,(cc R).toNat=v:=⟨_,rfl⟩;have HV:=hid x;have F:Hid (aX k.base m R=pI m R):=ZH d;clear h t A y z dp a l i f d x;go_enter func17,ntmps17;go_wp2_with fail
 refine dP c (yC c C B HV) fun w2 HM2=>?_;have D:=HM2.x2;rw[E.out]at D;go_wp2_with fail
 rw[←HV.out];refine jK (aad r HM2 C B n G s) fun w3 HM3=>?_;go_wp2
 go_end0
 exact⟨rfl,by rw[F.out];exact HM3,trivial⟩
theorem aaJ (dp:Dp) (h:MX k m q w) (H:m.p=(j:Int)) (J:k.T.drop j=R) (L:k.T.length≤4611686018427387904) (N:j≤k.T.length) (B:m.buf.length≤900000) (A:m.u.txt.length≤100000000) (z:m.st=10→m.buf.all jW=true) (y:j+1≤4611686018427387904) (t:m.st=7):Calls prog 17 #[.pointer (some ⟨k.g,0,none⟩)] w fun e w'=>e=.returned (.tuple #[])∧MX k (aX k.base m R) q w'∧True:=by
 have d:=hid h;have f:=hid H;have F:=hid J;have E:Hid (-4611686018427387904≤m.p∧m.p≤4611686018427387904):=⟨by omega,by omega⟩;have P:=hid t;obtain⟨v,I⟩:∃v,(cc R).toNat=v:=⟨_,rfl⟩;have HV:=hid I;obtain⟨s,a⟩:∃s,sp m=s:=⟨_,rfl⟩;have G:=hid a;obtain⟨l,c⟩:∃l,kR (sp m) R=l:=⟨_,rfl⟩;have V:=hid c;rcases l with _|_
 ·skip
  have D:Hid (aX k.base m R={begin' m with p:=m.p - 1}):=by
   show _=_;rw[ms7 t];unfold Dy;rw[if_pos (.inl c)]
  clear h H J L N dp B A z y t I a c;go_enter func17,ntmps17;go_wp2_with fail
  refine dP d (yC d f F HV) fun w2 HM2=>?_;have C:=HM2.x2;rw[P.out]at C;go_wp2_with fail
  refine dP HM2 (bK HM2 f F V) fun w3 HM3=>?_;go_wp2_with fail
  refine jK (DF HM3 E) fun w4 HM4=>?_;clear C;have O:=HM4.x1;rw[show(begin' m).p=(j:Int)from f.out]at O;have r:=E.1;have n:=E.2;rw[f.out]at r n;have W:=HM4.thaw 1;have i:=hid (HM4.p ((j:Int) - 1));rw[show m.p=(j:Int)from f.out]at D;go_wp2
  go_end0
  exact⟨rfl,by rw[D.out];exact i,trivial⟩
 rcases s with _|_
 ·skip
  have D:Hid (aX k.base m R={begin' m with p:=m.p - 1}):=by
   show _=_;rw[ms7 t];unfold Dy;rw[if_pos (.inr a)]
  clear h H J L N dp B A z y t I a c;go_enter func17,ntmps17;go_wp2_with fail
  refine dP d (yC d f F HV) fun w2 HM2=>?_;have C:=HM2.x2;rw[P.out]at C;go_wp2_with fail
  refine dP HM2 (bK HM2 f F V) fun w3 HM3=>?_;go_wp2_with fail
  refine dP HM3 (dQ HM3 G) fun w4 HM4=>?_;go_wp2_with fail
  refine jK (DF HM4 E) fun w5 i=>?_;clear C;have O:=i.x1;rw[show(begin' m).p=(j:Int)from f.out]at O;have r:=E.1;have n:=E.2;rw[f.out]at r n;have W:=i.thaw 1;have Q:=hid (i.p ((j:Int) - 1));rw[show m.p=(j:Int)from f.out]at D;go_wp2
  go_end0
  exact⟨rfl,by rw[D.out];exact Q,trivial⟩
 skip
 have D:Hid (aX k.base m R=m):=by
  show _=_;rw[ms7 t];unfold Dy;rw[if_neg (fun x=>by rcases x with x|x;(rw[c]at x;cases x);(rw[a]at x;cases x))]
 clear h H J L N dp B A z y t I a c;go_enter func17,ntmps17;go_wp2_with fail
 refine dP d (yC d f F HV) fun w2 HM2=>?_;have C:=HM2.x2;rw[P.out]at C;go_wp2_with fail
 refine dP HM2 (bK HM2 f F V) fun w3 HM3=>?_;go_wp2_with fail
 refine dP HM3 (dQ HM3 G) fun w4 HM4=>?_;go_wp2
 go_end0
 exact⟨rfl,by rw[D.out];exact HM4,trivial⟩
theorem aaG (dp:Dp) (h:MX k m q w) (s:m.p=(j:Int)) (t:k.T.drop j=R) (C:k.T.length≤4611686018427387904) (D:j≤k.T.length) (r:m.buf.length≤900000) (n:m.u.txt.length≤100000000) (l:m.st=10→m.buf.all jW=true) (i:j+1≤4611686018427387904) (f:m.st=4):Calls prog 17 #[.pointer (some ⟨k.g,0,none⟩)] w fun e w'=>e=.returned (.tuple #[])∧MX k (aX k.base m R) q w'∧True:=by
 have a:=hid h;have A:=hid s;have z:=hid t;have E:Hid (-4611686018427387904≤m.p∧m.p≤4611686018427387904):=⟨by omega,by omega⟩;have F:=hid f;obtain⟨v,d⟩:∃v,(cc R).toNat=v:=⟨_,rfl⟩;have HV:=hid d;by_cases h47:v=47
 ·subst h47;have c:R≠[]:=by rintro rfl;cases d
  have H:Hid (decide (R=[])=false):=decide_eq_false c;have B:Hid (aX k.base m R=begin' m):=by
   show _=_;rw[ms4 f];unfold kW;rw[if_pos ⟨UInt8.toNat_inj.1 d,c⟩]
  clear h s t C D dp r n l i f d c;go_enter func17,ntmps17;go_wp2_with fail
  refine dP a (yC a A z HV) fun w2 HM2=>?_;have y:=HM2.x2;rw[F.out]at y;go_wp2_with fail
  refine dP HM2 (lD HM2 A z H) fun w3 HM3=>?_;go_wp2_with fail
  refine jK (DF HM3 E) fun w4 HM4=>?_;go_wp2
  go_end0
  exact⟨rfl,by rw[B.out];exact HM4,trivial⟩
 have G:¬(v:Int)=47:=by omega
 have B:Hid (aX k.base m R=mv m 15 true):=by
  show _=_;rw[ms4 f];unfold kW;rw[if_neg (fun x=>h47 (by rw[←d,x.1];rfl))]
 clear h s t C D dp r n l i f d h47;go_enter func17,ntmps17;go_wp2_with fail
 refine dP a (yC a A z HV) fun w2 HM2=>?_;have y:=HM2.x2;rw[F.out]at y;go_wp2_with fail
 refine jK (iP HM2 E 15 true) fun w3 HM3=>?_;go_wp2
 go_end0
 exact⟨rfl,by rw[B.out];exact HM3,trivial⟩
theorem X6 (dp:Dp) (h:MX k m q w) (Z:m.p=(j:Int)) (hR:k.T.drop j=R) (hl:k.T.length≤4611686018427387904) (hj:j≤k.T.length) (f:m.buf.length≤900000) (F:m.u.txt.length≤100000000) (E:m.st=10→m.buf.all jW=true) (D:j+1≤4611686018427387904) (y:m.st=18):Calls prog 17 #[.pointer (some ⟨k.g,0,none⟩)] w fun e w'=>e=.returned (.tuple #[])∧MX k (aX k.base m R) q w'∧True:=by
 have l:=hid h;have X:=hid Z;have W:=hid hR;have a1:=hid dp;have s:=hid f;have HS:=hid y;obtain⟨v,hv⟩:∃v,(cc R).toNat=v:=⟨_,rfl⟩;obtain⟨B,z⟩:∃B,m.buf=B:=⟨_,rfl⟩;have P:=hid z;have s:Hid (B.length≤900000):=by show _≤_;rw[←z];exact f
 obtain⟨c,Q⟩:∃c,cc R=c:=⟨_,rfl⟩;have O:=hid Q;obtain⟨b,H⟩:∃b,decide (R=[])=b:=⟨_,rfl⟩;have HB:=hid H;rcases b with _|_
 ·have Y:Hid (aX k.base m R={m with buf:=B++[c]}):=by
   show _=_;rw[ZI y];unfold wM;rw[if_pos (of_decide_eq_false H),z,Q]
  clear h Z hR hl hj dp f F E D y hv z Q H;go_enter func17,ntmps17;go_wp2_with fail
  refine dP l (c_x l X W) fun w2 HM2=>?_;rw[O.out];have I:=HM2.x2;rw[HS.out]at I;go_wp2_with fail
  refine dP HM2 (lD HM2 X W HB) fun w3 HM3=>?_;go_wp2_with fail
  clear I;refine bf (by kernel_rfl) 11 [pg k.g 0,pg k.g 0,pg k.g 0,pg k.g 3,is (.string (ah B)),is (.int .u8 (c.toNat:Int)),row 1 (aU [c]),is (.string (ah [c])),is (.string (ah (B++[c]))),pg k.g 0,pg k.g 3] [[],[],[1],[1,2],[1,2,3],[],[5],[5,6],[1,2,3,4,5,6,7],[0],[0,9],[0,1,2,3,4,5,6,7,8,9,10]] (by kernel_rfl) ?_ ?_
  ·refine ⟨?_,?_,?_,?_,?_,?_,?_,?_,?_,?_,?_,trivial⟩;all_goals(intro t C n hh K a;simp only[iQ,qQ,Act.put,Nat.reduceAdd,Nat.reduceEqDiff,reduceIte]at hh a⊢)
   iterate 4
    ·try simp only[hh]at a⊢
     clear hh;go_simp;exact a _ _ aZ rfl
   ·try simp only[hh]at a⊢
    clear hh;have A:=(HM3.below n).x3;rw[P.out]at A;go_simp;exact a _ _ aZ rfl
   ·try simp only[hh]at a⊢
    clear hh;go_simp;exact a _ _ aZ rfl
   ·try simp only[hh]at a⊢
    clear hh;go_simp;exact a _ _ ((Below.refl _ _).alloc (Nat.le_refl _) _) ⟨_,_,rfl,Nat.le_refl _,by decide,iT C [c] 5 (0,0)⟩
   ·have e6:=hh.2.1;clear hh;obtain⟨A6,c6,e6,a5,a4,a0⟩:=e6;simp only[e6]at a⊢;have y:=bI 55 9 5 underlying55 underlying5 underlying9 _ c6 a0;go_simp;exact a _ _ aZ rfl
   ·try simp only[hh]at a⊢
    clear hh;have a2:(Op.stringOp .add (ah B) (ah [c])).run prog C=.ok (.string (ah (B++[c]))) C:=bH _ _ C (by have:=s.out;simp;omega);go_simp;exact a _ _ aZ rfl
   iterate 2
    ·try simp only[hh]at a⊢
     clear hh;go_simp;exact a _ _ aZ rfl
  intro t C n hh;have V:=aO hh 8 (by decide);simp only[pick]at V;replace V:t 8=(.string (ah (B++[c]))):=V;have i:=aO hh 10 (by decide);simp only[pick]at i;replace i:t 10=(.pointer (some ⟨k.g,3,none⟩)):=i;clear hh;simp only[iQ,qQ,Act.put,Nat.reduceAdd,Nat.reduceEqDiff,reduceIte];simp only[V,i];have r:=hid (HM3.below n);have J:=hid (r.buf (B++[c]));have z3:=r.thaw 3;have A:=r.x3;go_wp2
  go_end0
  first|exact⟨rfl,by rw[Y.out];exact J,trivial⟩|exact⟨rfl,by rw[Y.out];exact J⟩
 have Y:Hid (aX k.base m R={m with u:={m.u with dY:=aP.enc 1 B},buf:=[]}):=by
  show _=_;rw[ZI y];unfold wM;rw[if_neg (fun x=>x (of_decide_eq_true H)),z]
 clear h Z hR hl hj dp f F E D y hv z Q H;go_enter func17,ntmps17;go_wp2_with fail
 refine dP l (c_x l X W) fun w2 HM2=>?_;rw[O.out];have I:=HM2.x2;rw[HS.out]at I;go_wp2_with fail
 refine dP HM2 (lD HM2 X W HB) fun w3 HM3=>?_;have A:=HM3.x3;rw[P.out]at A;go_wp2_with fail
 refine(AX.iw 1 (ah B) _ (by have:=s.out;rw[ak];omega) (fun c w=>a1.inn _ c w)).mono ?_;rintro e9 w9 ⟨rfl,G⟩;have d:=hid (HM3.below G);clear G I A;have A:=d.x3;have a6:=d.x16;have z3:=d.thaw 3;have a3:=d.thaw 16;have N:=hid (d.abG (aP.enc 1 B));have L:=hid (N.buf []);go_wp2
 go_end0
 exact⟨rfl,by rw[Y.out];exact L,trivial⟩
end aen
namespace YA
open Go.RowKit mJ ig jq aC jY
structure Bs where
 u:Nat
 t:Nat
 p:Nat
def RN (s:Bs) (b:U):Prop:=b.bT.length+b.bW.length≤s.u∧b.txt.length≤s.t∧b.aF.length≤s.p
structure Bq (s:Bs) (m:M) (z:Int):Prop where
 p0:0≤z
 buf:(m.buf.length:Int)≤z
 cr:(m.u.bT.length:Int)+m.u.bW.length+9*m.buf.length≤s.u+9*z
 tx:(m.u.txt.length:Int)≤s.t+3*z
 pt:(m.u.aF.length:Int)≤s.p+1+z
 lo:m.st≤1→m.u.bT=[]∧m.u.bW=[]∧m.u.txt=[]
 lp:m.st≤14→m.u.aF=[]∧m.u.txt=[]
def Bd (s:Bs) (N:Nat) (m:M):Prop:=Bq s m (m.p+1)∧m.p≤N
def Bn (s:Bs) (R:List UInt8) (p:Int) (m:M):Prop:=m.st=19∨(R=[]∧m.p=p)∨Bq s m (m.p+2)
theorem Bq.more {s:Bs} {m:M} {z y:Int} (h:Bq s m z) (a:z≤y):Bq s m y:=
 ⟨by have:=h.p0;omega,by have:=h.buf;omega,by have:=h.cr;omega,by have:=h.tx;omega,by have:=h.pt;omega,h.lo,h.lp⟩
variable {s:Bs} {m:M} {R:List UInt8} {N:Nat}
theorem nR:∀(L:List UInt8) (m:M),(gZ L m).p=m.p∧(gZ L m).st=m.st∧(gZ L m).buf=m.buf∧(gZ L m).u.txt=m.u.txt∧(gZ L m).u.aF=m.u.aF∧(gZ L m).u.bT.length+(gZ L m).u.bW.length≤m.u.bT.length+m.u.bW.length+3*L.length
 |[],m=>⟨rfl,rfl,rfl,rfl,rfl,Nat.le_add_right _ _⟩
 | c :: L, m => by
  unfold gZ
  have i:=aP.fE 5 [c]
  simp only[List.length_cons,List.length_nil]at i
  split
  ·obtain⟨h,g,f,e,d,a⟩:=nR L {m with pass:=true}
   exact⟨h,g,f,e,d,by simp only[List.length_cons];simp only at a;omega⟩
  ·split
   ·obtain⟨h,g,f,e,d,a⟩:=nR L {m with u:={m.u with bW:=m.u.bW++aP.enc 5 [c]}}
    exact⟨h,g,f,e,d,by simp only[List.length_cons];simp only[List.length_append]at a;omega⟩
   ·obtain⟨h,g,f,e,d,a⟩:=nR L {m with u:={m.u with bT:=m.u.bT++aP.enc 5 [c]}}
    exact⟨h,g,f,e,d,by simp only[List.length_cons];simp only[List.length_append]at a;omega⟩
theorem yR {m:M} {p:Int} (h:0≤m.p+2) (g:(m.buf.length:Int)≤m.p+2) (f:(m.u.bT.length:Int)+m.u.bW.length+9*m.buf.length≤s.u+9*(m.p+2)) (q3:(m.u.txt.length:Int)≤s.t+3*(m.p+2)) (e:(m.u.aF.length:Int)≤s.p+1+(m.p+2)) (j:2≤m.st) (i:m.p=p) (d:bY R=true∨(m.st≤14→m.u.aF=[]∧m.u.txt=[])):Bn s R p (tail m R):=by
 unfold tail
 match R,d with
 |[],_=>exact .inr (.inl ⟨rfl,i⟩)
 |c::R,d=>
  simp only;split
  ·exact .inr (.inr ⟨h,g,f,q3,e,fun x=>absurd x (by simp[mv]),fun x=>absurd x (by simp[mv])⟩)
  split
  ·exact .inr (.inr ⟨h,g,f,q3,e,fun x=>absurd x (by simp[mv]),fun x=>absurd x (by simp[mv])⟩)
  rename_i a b;refine .inr (.inr ⟨h,g,f,q3,e,fun x=>absurd x (by omega),?_⟩);rcases d with d|d
  ·simp[bY,a,b]at d
  exact d
theorem mg (c:UInt8):(fA.lower [c]).length=1:=rfl
theorem adn (base:Option U) (l:∀b,base=some b→RN s b) (h:Bd s N m) (J:0≤m.p) (aS:m.st≤19):Bn s R m.p (aX base m R):=by
 obtain⟨h,L⟩:=h;obtain⟨H,G,F,q3,E,v,j⟩:=h;have B:RN s (base.getD U0):=by
  match base,l with
  |none,_=>exact⟨Nat.zero_le _,Nat.zero_le _,Nat.zero_le _⟩
  |some b,l=>exact l b rfl
 obtain⟨b1,b2,z⟩:=B;unfold aX;split
 ·
  rename_i e;obtain⟨i,g,f⟩:=v (by omega);obtain⟨a,d⟩:=j (by omega);unfold kX;split
  ·exact .inr (.inr ⟨by simp[mv,mg,i,g,f,a];omega,by simp[mv,mg,i,g,f,a];omega,by simp[mv,mg,i,g,f,a];omega,by simp[mv,mg,i,g,f,a];omega,by simp[mv,mg,i,g,f,a];omega,fun _=>⟨i,g,f⟩,fun _=>⟨a,d⟩⟩)
  exact .inr (.inr ⟨by simp[mv,i,g,f,a];omega,by simp[mv,i,g,f,a];omega,by simp[mv,i,g,f,a];omega,by simp[mv,i,g,f,a];omega,by simp[mv,i,g,f,a];omega,fun x=>absurd x (by simp[mv,i,g,f,a];try omega),fun _=>⟨a,d⟩⟩)
 ·
  rename_i e;obtain⟨i,g,f⟩:=v (by omega);obtain⟨a,d⟩:=j (by omega);unfold eX;split
  ·exact .inr (.inr ⟨by simp only;omega,by simp only[List.length_append,mg];omega,by simp only[List.length_append,mg,i,g,List.length_nil];omega,by simp only[f,List.length_nil];omega,by simp only[a,List.length_nil];omega,fun _=>⟨i,g,f⟩,fun _=>⟨a,d⟩⟩)
  split
  ·exact .inr (.inr ⟨by simp only;omega,by simp only[List.length_nil];omega,by simp only[i,g,List.length_nil];omega,by simp only[f,List.length_nil];omega,by simp only[a,List.length_nil];omega,fun x=>absurd x (by simp),fun _=>⟨a,d⟩⟩)
  simp only;split
  ·exact .inr (.inr ⟨by simp[mv,i,g,f,a];omega,by simp[mv,i,g,f,a];omega,by simp[mv,i,g,f,a];omega,by simp[mv,i,g,f,a];omega,by simp[mv,i,g,f,a];omega,fun x=>absurd x (by simp[mv,i,g,f,a];try omega),fun _=>⟨a,d⟩⟩)
  split
  ·exact .inr (.inr ⟨by simp[mv,i,g,f,a];omega,by simp[mv,i,g,f,a];omega,by simp[mv,i,g,f,a];omega,by simp[mv,i,g,f,a];omega,by simp[mv,i,g,f,a];omega,fun x=>absurd x (by simp[mv,i,g,f,a];try omega),fun _=>⟨a,d⟩⟩)
  split
  ·exact .inr (.inr ⟨by simp[mv,i,g,f,a];omega,by simp[mv,i,g,f,a];omega,by simp[mv,i,g,f,a];omega,by simp[mv,i,g,f,a];omega,by simp[mv,i,g,f,a];omega,fun x=>absurd x (by simp[mv,i,g,f,a];try omega),fun _=>⟨a,d⟩⟩)
  split
  ·exact .inr (.inr ⟨by simp[mv,i,g,f,a];omega,by simp[mv,i,g,f,a];omega,by simp[mv,i,g,f,a];omega,by simp[mv,i,g,f,a];omega,by simp[mv,i,g,f,a];omega,fun x=>absurd x (by simp[mv,i,g,f,a];try omega),fun _=>⟨a,d⟩⟩)
  exact .inr (.inr ⟨by simp[mv,i,g,f,a];omega,by simp[mv,i,g,f,a];omega,by simp[mv,i,g,f,a];omega,by simp[mv,i,g,f,a];omega,by simp[mv,i,g,f,a];omega,fun x=>absurd x (by simp[mv,i,g,f,a];try omega),fun x=>absurd x (by simp[mv,i,g,f,a];try omega)⟩)
 ·
  rename_i e;obtain⟨a,d⟩:=j (by omega);unfold wO
  match base,l with
  |none,_=>exact .inl rfl
  | some b,l=>
   obtain⟨b1,b2,z⟩:=l b rfl;simp only;split
   ·exact .inl rfl
   split
   ·exact yR (by simp only;omega) (by simp only;omega) (by simp only;omega) (by simp only;omega) (by simp only[a,List.length_nil];omega) (by simp only;omega) rfl (.inl (by
     rename_i k n
     match R,k with
     |[],k=>exact absurd ⟨n,.inl rfl⟩ k
     |c::R,k=>
      by_cases hc:c=35
      ·simp[bY,hc]
      exact absurd ⟨n,.inr hc⟩ k))
   split
   ·exact .inr (.inr ⟨by simp[mv,a,d];omega,by simp[mv,a,d];omega,by simp[mv,a,d];omega,by simp[mv,a,d];omega,by simp[mv,a,d];omega,fun x=>absurd x (by simp[mv,a,d];try omega),fun _=>⟨a,d⟩⟩)
   exact .inr (.inr ⟨by simp[mv,a,d];omega,by simp[mv,a,d];omega,by simp[mv,a,d];omega,by simp[mv,a,d];omega,by simp[mv,a,d];omega,fun x=>absurd x (by simp[mv,a,d];try omega),fun _=>⟨a,d⟩⟩)
 ·
  rename_i e;obtain⟨a,d⟩:=j (by omega);unfold jA;split
  ·exact .inr (.inr ⟨by simp[mv,a,d];omega,by simp[mv,a,d];omega,by simp[mv,a,d];omega,by simp[mv,a,d];omega,by simp[mv,a,d];omega,fun x=>absurd x (by simp[mv,a,d];try omega),fun _=>⟨a,d⟩⟩)
  exact .inr (.inr ⟨by simp[mv,a,d];omega,by simp[mv,a,d];omega,by simp[mv,a,d];omega,by simp[mv,a,d];omega,by simp[mv,a,d];omega,fun x=>absurd x (by simp[mv,a,d];try omega),fun _=>⟨a,d⟩⟩)
 ·
  rename_i e;obtain⟨a,d⟩:=j (by omega);unfold kW;split
  ·exact .inr (.inr ⟨by simp[begin',mv,a,d];omega,by simp[begin',mv,a,d];omega,by simp[begin',mv,a,d];omega,by simp[begin',mv,a,d];omega,by simp[begin',mv,a,d];omega,fun x=>absurd x (by simp[begin',mv,a,d];try omega),fun _=>⟨a,d⟩⟩)
  exact .inr (.inr ⟨by simp[mv,a,d];omega,by simp[mv,a,d];omega,by simp[mv,a,d];omega,by simp[mv,a,d];omega,by simp[mv,a,d];omega,fun x=>absurd x (by simp[mv,a,d];try omega),fun x=>absurd x (by simp[mv,a,d];try omega)⟩)
 ·
  rename_i e;obtain⟨a,d⟩:=j (by omega);unfold lJ;have w:(jd false (base.getD U0).aF).length≤(base.getD U0).aF.length:=by rw[nU];split<;>omega
  simp only;split
  ·exact .inr (.inr ⟨by simp[mv,a,d];omega,by simp[mv,a,d];omega,by simp[mv,a,d];omega,by simp[mv,a,d];omega,by simp[mv,a,d];omega,fun x=>absurd x (by simp[mv,a,d];try omega),fun _=>⟨a,d⟩⟩)
  split
  ·rename_i aS;exact yR (by simp[lN];omega) (by simp[lN];omega) (by simp[lN];omega) (by simp[lN];omega) (by simp[lN];omega) (by simp[lN];omega) rfl (.inl aS)
  exact .inr (.inr ⟨by simp[lN,mv];omega,by simp[lN,mv];omega,by simp[lN,mv];omega,by simp[lN,mv];omega,by simp[lN,mv];omega,fun x=>absurd x (by simp[lN,mv];try omega),fun x=>absurd x (by simp[lN,mv];try omega)⟩)
 ·
  rename_i e;obtain⟨a,d⟩:=j (by omega);unfold jc;split
  ·exact .inr (.inr ⟨by simp[mv,a,d];omega,by simp[mv,a,d];omega,by simp[mv,a,d];omega,by simp[mv,a,d];omega,by simp[mv,a,d];omega,fun x=>absurd x (by simp[mv,a,d];try omega),fun _=>⟨a,d⟩⟩)
  split
  ·exact .inr (.inr ⟨by simp[begin',mv,a,d];omega,by simp[begin',mv,a,d];omega,by simp[begin',mv,a,d];omega,by simp[begin',mv,a,d];omega,by simp[begin',mv,a,d];omega,fun x=>absurd x (by simp[begin',mv,a,d];try omega),fun _=>⟨a,d⟩⟩)
  exact .inr (.inr ⟨by simp[lN,mv,a,d];omega,by simp[lN,mv,a,d];omega,by simp[lN,mv,a,d];omega,by simp[lN,mv,a,d];omega,by simp[lN,mv,a,d];omega,fun x=>absurd x (by simp[lN,mv,a,d];try omega),fun x=>absurd x (by simp[lN,mv,a,d];try omega)⟩)
 ·
  rename_i e;obtain⟨a,d⟩:=j (by omega);unfold Dy;split
  ·exact .inr (.inr ⟨by simp[begin',mv,a,d];omega,by simp[begin',mv,a,d];omega,by simp[begin',mv,a,d];omega,by simp[begin',mv,a,d];omega,by simp[begin',mv,a,d];omega,fun x=>absurd x (by simp[begin',mv,a,d];try omega),fun _=>⟨a,d⟩⟩)
  exact .inr (.inr ⟨by omega,by omega,by omega,by omega,by omega,fun x=>absurd x (by omega),fun _=>⟨a,d⟩⟩)
 ·
  rename_i e;obtain⟨a,d⟩:=j (by omega);unfold kK;split
  ·obtain⟨k,n,D,t,r,C⟩:=nR (if m.sign=true then[37,52,48]++m.buf else m.buf) {m with sign:=true};have O:(if m.sign=true then[37,52,48]++m.buf else m.buf).length≤m.buf.length+3:=by split<;>simp
   simp only at k n D t r C;exact .inr (.inr ⟨by simp only[k];omega,by simp only[k,List.length_nil];omega,by simp only[k,List.length_nil];omega,by simp only[k,t,d,List.length_nil];omega,by simp only[k,r,a,List.length_nil];omega,fun x=>absurd x (by simp only[n];omega),fun _=>by simp only[r,t];exact⟨a,d⟩⟩)
  split
  ·split
   ·exact .inl rfl
   exact .inr (.inr ⟨by simp only;omega,by simp only[List.length_nil];omega,by simp only[List.length_nil];omega,by simp only[d,List.length_nil];omega,by simp only[a,List.length_nil];omega,fun x=>absurd x (by simp),fun _=>⟨a,d⟩⟩)
  exact .inr (.inr ⟨by simp only;omega,by simp only[List.length_append,List.length_cons,List.length_nil];omega,by simp only[List.length_append,List.length_cons,List.length_nil];omega,by simp only;omega,by simp only;omega,fun x=>absurd x (by simp only;omega),fun _=>⟨a,d⟩⟩)
 ·
  rename_i e;obtain⟨a,d⟩:=j (by omega);unfold kL;split
  ·split
   ·exact .inl rfl
   split
   ·exact .inl rfl
   exact .inr (.inr ⟨by simp[meet,mv,a,d];omega,by simp[meet,mv,a,d];omega,by simp[meet,mv,a,d];omega,by simp[meet,mv,a,d];omega,by simp[meet,mv,a,d];omega,fun x=>absurd x (by simp[meet,mv,a,d];try omega),fun _=>⟨a,d⟩⟩)
  split
  ·split
   ·exact .inl rfl
   split
   ·exact .inl rfl
   exact .inr (.inr ⟨by simp[meet,mv,a,d];omega,by simp[meet,mv,a,d];omega,by simp[meet,mv,a,d];omega,by simp[meet,mv,a,d];omega,by simp[meet,mv,a,d];omega,fun x=>absurd x (by simp[meet,mv,a,d];try omega),fun _=>⟨a,d⟩⟩)
  exact .inr (.inr ⟨by simp only;omega,by simp only[List.length_append,List.length_cons,List.length_nil];omega,by simp only[List.length_append,List.length_cons,List.length_nil];omega,by simp only;omega,by simp only;omega,fun x=>absurd x (by simp only;omega),fun _=>⟨a,d⟩⟩)
 ·
  rename_i e;obtain⟨a,d⟩:=j (by omega);unfold gW;split
  ·exact .inr (.inr ⟨by simp only;omega,by simp only[List.length_append,List.length_cons,List.length_nil];omega,by simp only[List.length_append,List.length_cons,List.length_nil];omega,by simp only;omega,by simp only;omega,fun x=>absurd x (by simp only;omega),fun _=>⟨a,d⟩⟩)
  split
  ·exact .inl rfl
  split
  ·exact .inr (.inr ⟨by simp[mv,a,d];omega,by simp[mv,a,d];omega,by simp[mv,a,d];omega,by simp[mv,a,d];omega,by simp[mv,a,d];omega,fun x=>absurd x (by simp[mv,a,d];try omega),fun _=>⟨a,d⟩⟩)
  split
  ·exact .inl rfl
  exact .inr (.inr ⟨by simp[mv,a,d];omega,by simp[mv,a,d];omega,by simp[mv,a,d];omega,by simp[mv,a,d];omega,by simp[mv,a,d];omega,fun x=>absurd x (by simp[mv,a,d];try omega),fun _=>⟨a,d⟩⟩)
 ·
  rename_i e;obtain⟨a,d⟩:=j (by omega);unfold jh;simp only;split
  ·exact .inr (.inr ⟨by simp[mv,a,d];omega,by simp[mv,a,d];omega,by simp[mv,a,d];omega,by simp[mv,a,d];omega,by simp[mv,a,d];omega,fun x=>absurd x (by simp[mv,a,d];try omega),fun _=>⟨a,d⟩⟩)
  split
  ·exact .inr (.inr ⟨by simp[mv,a,d];omega,by simp[mv,a,d];omega,by simp[mv,a,d];omega,by simp[mv,a,d];omega,by simp[mv,a,d];omega,fun x=>absurd x (by simp[mv,a,d];try omega),fun x=>absurd x (by simp[mv,a,d];try omega)⟩)
  rename_i b hf;have q:base=some b:=by
   match base,hf with
   |some c,hf=>simp only[Option.filter]at hf;split at hf<;>simp_all
  obtain⟨b1,b2,z⟩:=l b q;have w:(jd true b.aF).length≤b.aF.length:=by rw[nU];split<;>omega
  split
  ·rename_i aS;exact yR (by simp only;omega) (by simp only;omega) (by simp only;omega) (by simp only;omega) (by simp only;omega) (by simp only;omega) rfl (.inl aS)
  refine .inr (.inr ⟨by simp[mv];omega,by simp[mv];omega,by simp[mv];omega,by simp[mv];omega,?_,fun x=>absurd x (by simp[mv]),fun x=>absurd x (by simp[mv])⟩);simp only[mv,if_true];split
  ·simp only[List.length_nil];omega
  omega
 ·
  rename_i e;obtain⟨a,d⟩:=j (by omega);unfold dN;split
  ·exact .inr (.inr ⟨by simp[mv,a,d];omega,by simp[mv,a,d];omega,by simp[mv,a,d];omega,by simp[mv,a,d];omega,by simp[mv,a,d];omega,fun x=>absurd x (by simp[mv,a,d];try omega),fun _=>⟨a,d⟩⟩)
  split
  ·exact .inr (.inr ⟨by simp[mv,a,d];omega,by simp[mv,a,d];omega,by simp[mv,a,d];omega,by simp[mv,a,d];omega,by simp[mv,a,d];omega,fun x=>absurd x (by simp[mv,a,d];try omega),fun x=>absurd x (by simp[mv,a,d];try omega)⟩)
  rename_i b hf;have I:(b.aF.take 1).length≤1:=by rw[List.length_take];omega
  refine .inr (.inr ⟨by simp[mv];omega,by simp[mv];omega,by simp[mv];omega,by simp[mv];omega,?_,fun x=>absurd x (by simp[mv]),fun x=>absurd x (by simp[mv])⟩);simp only[mv,if_true,a,List.nil_append];split
  ·omega
  simp only[List.length_nil];omega
 ·
  rename_i e;obtain⟨a,d⟩:=j (by omega);unfold dB;split
  ·exact .inr (.inr ⟨by simp only;omega,by simp only[List.length_append,List.length_cons,List.length_nil];omega,by simp only[List.length_append,List.length_cons,List.length_nil];omega,by simp only;omega,by simp only;omega,fun x=>absurd x (by simp only;omega),fun _=>⟨a,d⟩⟩)
  split
  ·exact .inr (.inr ⟨by simp[mv,a,d];omega,by simp[mv,a,d];omega,by simp[mv,a,d];omega,by simp[mv,a,d];omega,by simp[mv,a,d];omega,fun x=>absurd x (by simp[mv,a,d];try omega),fun x=>absurd x (by simp[mv,a,d];try omega)⟩)
  split
  ·exact .inr (.inr ⟨by simp[mv,a,d];omega,by simp[mv,a,d];omega,by simp[mv,a,d];omega,by simp[mv,a,d];omega,by simp[mv,a,d];omega,fun x=>absurd x (by simp[mv,a,d];try omega),fun _=>⟨a,d⟩⟩)
  split
  ·exact .inl rfl
  exact .inr (.inr ⟨by simp[meet,mv,a,d];omega,by simp[meet,mv,a,d];omega,by simp[meet,mv,a,d];omega,by simp[meet,mv,a,d];omega,by simp[meet,mv,a,d];omega,fun x=>absurd x (by simp[meet,mv,a,d];try omega),fun _=>⟨a,d⟩⟩)
 ·
  rename_i e;obtain⟨a,d⟩:=j (by omega);unfold dX;have y:∀x:Bool,Bn s R m.p (mv m 15 x):=fun x=>by
   cases x
   ·exact .inr (.inr ⟨by simp[mv,a,d];omega,by simp[mv,a,d];omega,by simp[mv,a,d];omega,by simp[mv,a,d];omega,by simp[mv,a,d];omega,fun x=>absurd x (by simp[mv,a,d];try omega),fun x=>absurd x (by simp[mv,a,d];try omega)⟩)
   exact .inr (.inr ⟨by simp[mv,a,d];omega,by simp[mv,a,d];omega,by simp[mv,a,d];omega,by simp[mv,a,d];omega,by simp[mv,a,d];omega,fun x=>absurd x (by simp[mv,a,d];try omega),fun x=>absurd x (by simp[mv,a,d];try omega)⟩)
  split
  ·exact y _
  split
  ·rename_i aS;exact yR (by omega) (by omega) (by omega) (by omega) (by omega) (by omega) rfl (.inl aS)
  exact y _
 ·
  rename_i e;unfold iF;split
  ·exact .inr (.inr ⟨by simp only;omega,by simp only[List.length_append,List.length_cons,List.length_nil];omega,by simp only[List.length_append,List.length_cons,List.length_nil];omega,by simp only;omega,by simp only;omega,fun x=>absurd x (by simp only;omega),fun x=>absurd x (by simp only;omega)⟩)
  have w:=nV (decide (m.u.au=aB)) (!kR (sp m) R) m.u.aF m.buf;exact yR (by simp only;omega) (by simp only[List.length_nil];omega) (by simp only[List.length_nil];omega) (by simp only;omega) (by simp only;omega) (by simp only;omega) rfl (.inr fun x=>absurd x (by simp only;omega))
 ·
  rename_i e;unfold qJ;split
  ·exact yR (by omega) (by omega) (by omega) (by omega) (by omega) (by omega) rfl (.inr fun x=>absurd x (by omega))
  split
  ·exact .inr (.inr ⟨by simp only;omega,by simp only;omega,by simp only;omega,by simp only[List.length_append,List.length_cons,List.length_nil];omega,by simp only;omega,fun x=>absurd x (by simp only;omega),fun x=>absurd x (by simp only;omega)⟩)
  have A:=aP.fE 0 [cc R];simp only[List.length_cons,List.length_nil]at A;exact .inr (.inr ⟨by simp only;omega,by simp only;omega,by simp only;omega,by simp only[List.length_append];omega,by simp only;omega,fun x=>absurd x (by simp only;omega),fun x=>absurd x (by simp only;omega)⟩)
 ·
  rename_i e;unfold pI;split
  ·exact .inr (.inr ⟨by simp only;omega,by simp only[List.length_append,List.length_cons,List.length_nil];omega,by simp only[List.length_append,List.length_cons,List.length_nil];omega,by simp only;omega,by simp only;omega,fun x=>absurd x (by simp only;omega),fun x=>absurd x (by simp only;omega)⟩)
  exact yR (by simp only;omega) (by simp only[List.length_nil];omega) (by simp only[List.length_nil];omega) (by simp only;omega) (by simp only;omega) (by simp only;omega) rfl (.inr fun x=>absurd x (by simp only;omega))
 ·
  rename_i e;unfold wM;split
  ·exact .inr (.inr ⟨by simp only;omega,by simp only[List.length_append,List.length_cons,List.length_nil];omega,by simp only[List.length_append,List.length_cons,List.length_nil];omega,by simp only;omega,by simp only;omega,fun x=>absurd x (by simp only;omega),fun x=>absurd x (by simp only;omega)⟩)
  rename_i hr;exact .inr (.inl ⟨by simpa using hr,rfl⟩)
 simp only[imp_false]at*;exact .inl (by omega)
end YA
namespace YC
open Go.RowKit aC jY YA
inductive GI (S:List UInt8) (base:Option U):Nat→M→Option U→Prop
 |stop {m:M} {o:Option U} (h:IE S base m=.stop o):GI S base 0 m o
 |go {i:Nat} {m n:M} {o:Option U} (h:IE S base m=.go n) (r:GI S base i n o):GI S base (i+1) m o
variable {S:List UInt8} {base:Option U} {m n:M} {o:Option U} {R:List UInt8}
theorem IW (h:Run S base m o):∃i,GI S base i m o:=by
 induction h with
 |stop h=>exact⟨0,.stop h⟩
 |go h r ih=>obtain⟨i,hi⟩:=ih;exact⟨i+1,.go h hi⟩
theorem XA {i:Nat} (h:GI S base i m o) (e:IE S base m=.go n):∃j,j<i∧GI S base j n o:=by
 cases h with
 |stop h=>rw[h]at e;cases e
 |go h r=>rw[h]at e;cases e;exact⟨_,Nat.lt_succ_self _,r⟩
theorem run_end {i:Nat} {x:Option U} (h:GI S base i m o) (e:IE S base m=.stop x):x=o:=by
 cases h with
 |stop h=>rw[h]at e;cases e;rfl
 |go h r=>rw[h]at e;cases e
theorem wZ (m:M) (R:List UInt8):(tail m R).p=m.p:=by
 unfold tail;split
 ·rfl
 split
 ·rfl
 split<;>rfl
theorem vM (m:M) (s:Nat) (b:Bool):(mv m s b).p≤m.p:=by
 unfold mv;cases b
 ·exact Int.le_refl _
 show m.p - 1≤m.p;omega
theorem Ql (L:List UInt8) (m:M):(gZ L m).p=m.p:=(nR L m).1
theorem Eb (h:two R=true):2≤R.length:=by
 unfold two Lib.hasPrefix at h
 match R,h with
 |[],h=>exact absurd h (by decide)
 |[c],h=>simp at h
 |_::_::_,_=>exact Nat.le_add_left 2 _
theorem Vx (h:(R.drop 1).head?=some 47):2≤R.length:=by
 match R,h with
 |[],h=>cases h
 |[c],h=>cases h
 |_::_::_,_=>exact Nat.le_add_left 2 _
theorem PD (a:0≤m.p):(eX base m R).p≤m.p∨(2≤R.length∧(eX base m R).p=m.p+1):=by
 unfold eX;split
 ·exact .inl (Int.le_refl _)
 split
 ·exact .inl (by show(-1:Int)≤m.p;omega)
 dsimp only;split
 ·exact .inl (Int.le_refl _)
 split
 ·exact .inl (Int.le_refl _)
 split
 ·exact .inl (Int.le_refl _)
 split
 ·rename_i h;exact .inr ⟨Vx h,rfl⟩
 exact .inl (Int.le_refl _)
theorem X7 (a:0≤m.p):(aX base m R).p≤m.p∨(2≤R.length∧(aX base m R).p=m.p+1):=by
 unfold aX;split
 ·unfold kX;split<;>exact .inl (vM _ _ _)
 ·exact PD a
 ·refine .inl ?_;unfold wO;split
  ·exact Int.le_refl _
  split
  ·exact Int.le_refl _
  split
  ·rw[wZ];exact Int.le_refl _
  split<;>exact vM _ _ _
 ·unfold jA;split
  ·rename_i h;exact .inr ⟨Eb h,rfl⟩
  exact .inl (vM _ _ _)
 ·refine .inl ?_;unfold kW;split
  ·exact vM m 8 false
  exact vM _ _ _
 ·refine .inl ?_;unfold lJ;dsimp only;split
  ·exact vM _ _ _
  split
  ·rw[wZ];exact Int.le_refl _
  exact vM _ _ _
 ·refine .inl ?_;unfold jc;split
  ·exact vM _ _ _
  split
  ·exact vM m 8 false
  exact vM _ _ _
 ·refine .inl ?_;unfold Dy;split
  ·show m.p - 1≤m.p;omega
  exact Int.le_refl _
 ·refine .inl ?_;unfold kK;split
  ·show(gZ _ _).p≤_;rw[Ql];exact Int.le_refl _
  split
  ·split
   ·exact Int.le_refl _
   show m.p - (m.buf.length:Int) - 1≤m.p;omega
  exact Int.le_refl _
 ·refine .inl ?_;unfold kL
  repeat' split
  all_goals first|exact Int.le_refl _|exact vM (meet m) _ _
 ·refine .inl ?_;unfold gW
  repeat' split
  all_goals first|exact Int.le_refl _|exact vM m _ _|exact vM {m with u:={m.u with port:=_},buf:=[]} _ _
 ·refine .inl ?_;unfold jh;dsimp only
  repeat' split
  all_goals first|(rw[wZ];exact Int.le_refl _)|exact vM _ _ _
 ·refine .inl ?_;unfold dN
  repeat' split
  all_goals exact vM _ _ _
 ·refine .inl ?_;unfold dB
  repeat' split
  all_goals first|exact Int.le_refl _|exact vM m _ _|exact vM {meet m with u:=_} _ _
 ·refine .inl ?_;unfold dX
  repeat' split
  all_goals first|(rw[wZ];exact Int.le_refl _)|exact vM _ _ _
 ·refine .inl ?_;unfold iF;split
  ·exact Int.le_refl _
  rw[wZ];exact Int.le_refl _
 ·refine .inl ?_;unfold qJ
  repeat' split
  all_goals first|(rw[wZ];exact Int.le_refl _)|exact Int.le_refl _
 ·refine .inl ?_;unfold pI;split
  ·exact Int.le_refl _
  rw[wZ];exact Int.le_refl _
 ·refine .inl ?_;unfold wM;split<;>exact Int.le_refl _
 exact .inl (Int.le_refl _)
theorem RD (h:m.st≤19):(tail m R).st≤19:=by
 unfold tail;split
 ·exact h
 split
 ·exact(by decide:(17:Nat)≤19)
 split
 ·exact(by decide:(18:Nat)≤19)
 exact h
theorem zi (L:List UInt8) (m:M):(gZ L m).st=m.st:=(nR L m).2.1
theorem aaO (h:m.st≤19):(aX base m R).st≤19:=by
 unfold aX;split
 all_goals(first|unfold kX|unfold eX|unfold wO|unfold jA|unfold kW|unfold lJ|unfold jc|unfold Dy|unfold kK|unfold kL|unfold gW|unfold jh|unfold dN|unfold dB|unfold dX|unfold iF|unfold qJ|unfold pI|unfold wM|skip)
 all_goals(try dsimp only)
 all_goals repeat' split
 all_goals first|exact h|exact RD h|(refine RD ?_;exact h)|(show(_:Nat)≤19;simp[mv,fail,begin',meet,zi];done)|(simp[mv,fail,begin',meet,zi];omega)
theorem Rz (h:m.st≠10):(tail m R).st≠10:=by
 unfold tail;split
 ·exact h
 split
 ·exact(by decide:(17:Nat)≠10)
 split
 ·exact(by decide:(18:Nat)≠10)
 exact h
theorem aaN (a:m.st≠9) (h:m.st≠10):(aX base m R).st≠10:=by
 unfold aX;split
 all_goals(try(rename_i e;first|exact absurd e a|exact absurd e h))
 all_goals(first|unfold kX|unfold eX|unfold wO|unfold jA|unfold kW|unfold lJ|unfold jc|unfold Dy|unfold kK|unfold jh|unfold dN|unfold dB|unfold dX|unfold iF|unfold qJ|unfold pI|unfold wM|skip)
 all_goals(try dsimp only)
 all_goals repeat' split
 all_goals first|exact h|exact Rz h|(refine Rz ?_;exact h)|(simp[mv,fail,begin',meet,zi];done)|(simp[mv,fail,begin',meet,zi];omega)
theorem adl (h:m.st=10→m.buf.all jW=true) (e:(aX base m R).st=10):(aX base m R).buf.all jW=true:=by
 by_cases h9:m.st=9
 ·rw [ms9 h9] at e ⊢;unfold kL at e⊢;split
  ·rename_i a;rw[if_pos a]at e;split
   ·rename_i b;rw[if_pos b]at e;cases e
   rename_i b;rw[if_neg b]at e;split
   ·rename_i c;rw[if_pos c]at e;cases e
   rfl
  rename_i a;rw[if_neg a]at e;split
  ·rename_i b;rw[if_pos b]at e;split
   ·rename_i c;rw[if_pos c]at e;cases e
   rename_i c;rw[if_neg c]at e;split
   ·rename_i d;rw[if_pos d]at e;cases e
   rename_i d;rw[if_neg d]at e;cases e
  rename_i b;rw[if_neg b]at e;have e:m.st=10:=e;omega
 by_cases h10:m.st=10
 ·have f:=h h10;rw[ZE h10]at e⊢;unfold gW at e⊢;split
  ·rename_i a;show(m.buf++[cc R]).all jW=true;rw[List.all_append,f];simp[a.2]
  rename_i a;rw[if_neg a]at e;split
  ·exact f
  rename_i b;rw[if_neg b]at e;split
  ·exact f
  rename_i c;rw[if_neg c]at e;split
  ·exact f
  rfl
 exact absurd e (aaN h9 h10)
def Inv (s:Bs) (S:List UInt8) (m:M):Prop:=m.st≤19∧(m.st=19∨(-1≤m.p∧m.p≤S.length∧Bq s m (m.p+1)∧(m.st=10→m.buf.all jW=true)))
theorem V5 {s:Bs} (v:∀b,base=some b→RN s b) (h:Inv s S m) (e:IE S base m=.go n):Inv s S n:=by
 unfold IE at e;split at e
 ·cases e
 rename_i h19;obtain⟨q,l⟩:=h;rcases l with l|⟨a,b,c,d⟩
 ·exact absurd l h19
 split at e
 ·rename_i hp;cases e;have i:=c.more (y:=m.p+1+1) (by omega);exact⟨q,.inr ⟨by show -1≤m.p+1;omega,by show m.p+1≤_;omega,⟨i.p0,i.buf,i.cr,i.tx,i.pt,i.lo,i.lp⟩,d⟩⟩
 rename_i hp;obtain⟨R,t⟩:∃R,S.drop m.p.toNat=R:=⟨_,rfl⟩;rw[t]at e;obtain⟨g,k⟩:∃g,aX base m R=g:=⟨_,rfl⟩;have f:=adn (R:=R) base v (show Bd s S.length m from⟨c,b⟩) (by omega) q;have j:=X7 (m:=m) (base:=base) (R:=R) (by omega);have q3:=aaO (base:=base) (R:=R) q;have r:=adl (base:=base) (R:=R) d;rw[k]at e f j q3 r;have A:R.length=S.length - m.p.toNat:=by rw[←t,List.length_drop]
 unfold out at e;split at e
 ·cases e
 rename_i hn;cases e;refine⟨q3,?_⟩;rcases f with f|⟨f,q5⟩|f
 ·exact .inl f
 ·have:R.length=0:=by rw[f];rfl
  exact absurd ⟨decide_eq_true (by omega),by omega⟩ hn
 have z:=f.p0;have w:g.p+1+1=g.p+2:=by omega
 refine .inr ⟨by show -1≤g.p+1;omega,?_,?_,r⟩
 ·show g.p+1≤_;by_cases hlen:(S.length:Int)≤m.p
  ·have:¬(S.length:Int)≤g.p:=fun x=>hn ⟨decide_eq_true hlen,x⟩;omega
  rcases j with j|⟨j,q6⟩<;>omega
 show Bq s _ (g.p+1+1);rw[w];exact⟨f.p0,f.buf,f.cr,f.tx,f.pt,f.lo,f.lp⟩
theorem exists_least {P:Nat→Prop} (h:∃i,P i):∃i,P i∧∀j,P j→i≤j:=by
 obtain⟨i,hi⟩:=h;induction i using Nat.strongRecOn with
 |ind i ih=>
  by_cases hx:∃j,j<i∧P j
  ·obtain⟨j,a,c⟩:=hx;exact ih j a c
  exact⟨i,hi,fun j a=>Nat.le_of_not_lt fun hlt=>hx ⟨j,hlt,a⟩⟩
open Classical in
noncomputable def least (P:Nat→Prop):Nat:=if h:∃i,P i then Classical.choose (exists_least h)else 0
theorem Wj {P:Nat→Prop} (h:∃i,P i):P (least P):=by
 unfold least;rw[dif_pos h];exact(Classical.choose_spec (exists_least h)).1
theorem least_le {P:Nat→Prop} {i:Nat} (h:P i):least P≤i:=by
 unfold least;rw[dif_pos ⟨i,h⟩];exact(Classical.choose_spec (exists_least ⟨i,h⟩)).2 i h
end YC
namespace aeo
open Go.RowKit Base aC jY fF vO xQ yw YC
variable {k:K} {m:M} {q:Value} {w:World} {j:Nat} {R:List UInt8}
theorem ady (a b:UInt8) (L:List UInt8):two (a::b::L)=decide ([a,b]=[47,47]):=by
 unfold two Lib.hasPrefix;rw[Bool.eq_iff_iff];simp[List.isPrefixOf];constructor<;>(rintro⟨rfl,rfl⟩;exact⟨rfl,rfl⟩)
theorem KZ (h:MX k m q w) (s:m.p=(j:Int)) (y:k.T.drop j=R):Calls prog 49 #[.pointer (some ⟨k.g,0,none⟩),.string (ah [47,47])] w fun e w'=>e=.returned (.bool (two R))∧Below w.heap.size w w':=by
 have d:=hid h;have E:=hid s;obtain⟨X,r⟩:∃X,X=ah R:=⟨_,rfl⟩;have D:Hid (ah (k.T.drop j)=X):=by show _=_;rw[r,y]
 have sV:X.size=R.length:=by rw[r];exact ak _
 obtain⟨Z,l⟩:∃Z,Z=ah [47,47]:=⟨_,rfl⟩;have H:Z.size=2:=by rw[l];rfl
 have A:Hid (Z.toList=[47,47]):=by show _=_;rw[l,mW.tl];rfl
 rw[←l];by_cases hl:R.length<2
 ·have B:Hid (two R=false):=by
   show _=_;cases h2:two R with
   |false=>rfl
   |true=>exact absurd (Eb h2) (by omega)
  have G:¬(2:Int)≤(X.size:Int):=by omega
  clear h s y r sV l hl;go_enter func49,ntmps49;have z:=d.x1;rw[E.out]at z;go_wp2_with fail
  refine(qL d j).mono ?_;rintro J F ⟨rfl,c⟩;rw[D.out];have i:=hid c;clear c;go_wp2;go_ret;exact⟨by rw[B.out];rfl,i⟩
 obtain⟨a,b,L,f⟩:∃a b L,R=a::b::L:=by
  match R,hl with
  |[],hl=>exact absurd (by decide) hl
  |[a],hl=>exact absurd (by decide:(1:Nat)<2) hl
  |a::b::L,_=>exact⟨a,b,L,rfl⟩
 have G:(2:Int)≤(X.size:Int):=by omega
 have N:2≤X.size:=by omega
 obtain⟨Y,x⟩:∃Y,Y=X.extract 0 2:=⟨_,rfl⟩;have n:Y.toList=[a,b]:=by rw[x,r,f,mW.tl];simp[ah,Array.toList_extract,List.extract_eq_take_drop]
 obtain⟨v,t⟩:∃v,v=decide ([a,b]=[47,47]):=⟨_,rfl⟩;have B:Hid (two R=v):=by show _=_;rw[f,ady,t]
 have C:Hid ((Y.toList==Z.toList)=v):=by show _=_;rw[n,A.out,t,Bool.eq_iff_iff];simp
 have I:X.extract 0 2=Y:=x.symm;clear h s y r sV l hl x n t f;go_enter func49,ntmps49;have z:=d.x1;rw[E.out]at z;go_wp2_with fail
 refine(qL d j).mono ?_;rintro J F ⟨rfl,c⟩;rw[D.out];have i:=hid c;clear c;have O:=C.out;go_wp2;go_ret;exact⟨by rw[B.out];rfl,i⟩
theorem aaF (dp:Dp) (h:MX k m q w) (z:m.p=(j:Int)) (B:k.T.drop j=R) (E:k.T.length≤4611686018427387904) (F:j≤k.T.length) (r:m.buf.length≤900000) (n:m.u.txt.length≤100000000) (l:m.st=10→m.buf.all jW=true) (i:j+1≤4611686018427387904) (f:m.st=3):Calls prog 17 #[.pointer (some ⟨k.g,0,none⟩)] w fun e w'=>e=.returned (.tuple #[])∧MX k (aX k.base m R) q w'∧True:=by
 have a:=hid h;have d:=hid z;have x:=hid B;have L:Hid (-4611686018427387904≤m.p∧m.p≤4611686018427387904):=⟨by omega,by omega⟩;have G:=hid f;obtain⟨v,A⟩:∃v,(cc R).toNat=v:=⟨_,rfl⟩;have HV:=hid A;obtain⟨b,s⟩:∃b,two R=b:=⟨_,rfl⟩;have H:=hid s;have C:Hid (-4611686018427387904≤(j:Int)+1∧(j:Int)+1≤4611686018427387904):=⟨by omega,by omega⟩;have D:Hid ((j:Int)≤4611686018427387904):=by show _≤_;omega
 rcases b with _|_
 ·have y:Hid (aX k.base m R=mv m 5 true):=by
   show _=_;rw[ms3 f];unfold jA;rw[if_neg (by rw[s];decide)]
  clear h z B E F dp r n l i f A s;go_enter func17,ntmps17;go_wp2_with fail
  refine dP a (yC a d x HV) fun w2 HM2=>?_;have t:=HM2.x2;rw[G.out]at t;go_wp2_with fail
  refine dP HM2 (KZ HM2 d x) fun w3 HM3=>?_;rw[H.out];clear t;go_wp2_with fail
  refine jK (iP HM3 L 5 true) fun w4 c=>?_;go_wp2
  go_end0
  exact⟨rfl,by rw[y.out];exact c,trivial⟩
 have y:Hid (aX k.base m R=mv {m with p:=m.p+1} 7 false):=by
  show _=_;rw[ms3 f];unfold jA;rw[if_pos s]
 clear h z B E F dp r n l i f A s;go_enter func17,ntmps17;go_wp2_with fail
 refine dP a (yC a d x HV) fun w2 HM2=>?_;have t:=HM2.x2;rw[G.out]at t;go_wp2_with fail
 refine dP HM2 (KZ HM2 d x) fun w3 HM3=>?_;rw[H.out];clear t;have J:=HM3.x1;have N:=HM3.thaw 1;rw[d.out]at J;have I:=D.out;have c:=hid (HM3.p ((j:Int)+1));rw[show m.p=(j:Int)from d.out]at y;go_wp2_with fail
 refine jK (iP c C 7 false) fun w5 HM5=>?_;go_wp2
 go_end0
 exact⟨rfl,by rw[y.out];exact HM5,trivial⟩
end aeo
namespace aep
open Go.RowKit Base dw fA aC jq jY fF vO xQ yw UW
variable {k:K} {m:M} {q:Value} {w:World} {j:Nat} {R:List UInt8}
theorem aaC (dp:Dp) (h:MX k m q w) (I:m.p=(j:Int)) (J:k.T.drop j=R) (N:k.T.length≤4611686018427387904) (O:j≤k.T.length) (t:m.buf.length≤900000) (s:m.u.txt.length≤100000000) (n:m.st=10→m.buf.all jW=true) (l:j+1≤4611686018427387904) (i:m.st=0):Calls prog 17 #[.pointer (some ⟨k.g,0,none⟩)] w fun e w'=>e=.returned (.tuple #[])∧MX k (aX k.base m R) q w'∧True:=by
 have d:=hid h;have G:=hid I;have F:=hid J;have Q:Hid (-4611686018427387904≤m.p∧m.p≤4611686018427387904):=⟨by omega,by omega⟩;have W:=hid i;obtain⟨v,L⟩:∃v,(cc R).toNat=v:=⟨_,rfl⟩;obtain⟨c,r⟩:∃c,cc R=c:=⟨_,rfl⟩;have z:=hid r;obtain⟨b,A⟩:∃b,decide (R=[])=b:=⟨_,rfl⟩;have HB:=hid A;obtain⟨lt,a⟩:∃x,letter (c.toNat:Int)=x:=⟨_,rfl⟩;have y:=hid a;obtain⟨E,D⟩:∃E,lower [c]=E:=⟨_,rfl⟩;have Y:=hid D;have aS:=fun w:World=>bI (P:=prog) (w:=w.alloc (.cells #[.int .u8 (c.toNat:Int)] 5)) 55 9 5 underlying55 underlying5 underlying9 [c] 1 (YU.one_row c w);have V:=hid aS;clear aS;rcases lt with _|_
 ·skip
  have H:Hid (aX k.base m R=mv m 2 true):=by
   show _=_;refine(ms0 i).trans ?_;unfold kX;rw[if_neg (fun x=>by rw[r,a]at x;exact absurd x.1 (by decide))]
  clear h I J N O dp t s n l i L r A a D;go_enter func17,ntmps17;go_wp2_with fail
  refine dP d (c_x d G F) fun w2 HM2=>?_;rw[z.out];have B:=HM2.x2;rw[W.out]at B;go_wp2_with fail
  refine(nK.iq (c.toNat:Int) _).mono ?_;rintro e7 Z ⟨rfl,rfl⟩;rw[y.out];go_wp2_with fail
  refine jK (iP HM2 Q 2 true) fun w3 HM3=>?_;go_wp2
  go_end0
  exact⟨rfl,by rw[H.out];exact HM3,trivial⟩
 rcases b with _|_
 ·skip
  have H:Hid (aX k.base m R=mv {m with buf:=E} 1 false):=by
   show _=_;refine(ms0 i).trans ?_;unfold kX;rw[if_pos ⟨by rw[r,a],of_decide_eq_false A⟩,r,D]
  clear h I J N O dp t s n l i L r A a D;go_enter func17,ntmps17;go_wp2_with fail
  refine dP d (c_x d G F) fun w2 HM2=>?_;rw[z.out];have B:=HM2.x2;rw[W.out]at B;go_wp2_with fail
  refine(nK.iq (c.toNat:Int) _).mono ?_;rintro e7 Z ⟨rfl,rfl⟩;rw[y.out];go_wp2_with fail
  refine dP HM2 (lD HM2 G F HB) fun w3 HM3=>?_;have aS:=V.out;clear B;go_wp2_with fail
  clear aS;refine(nK.jQ (ah [c]) _ (by rw[ak];exact(by decide:(1:Nat)≤1073741824))).mono ?_;rintro e4 w4 ⟨rfl,C⟩;rw[show lower (ah [c]).data.toList=E from Y.out];have f:=hid ((HM3.below ((Below.refl _ _).alloc (Nat.le_refl _) _)).below C);clear C;have c3:=f.x3;have z3:=f.thaw 3;have X:=hid (f.buf E);go_wp2_with fail
  refine jK (iP X Q 1 false) fun w6 HM6=>?_;go_wp2
  go_end0
  exact⟨rfl,by rw[H.out];exact HM6,trivial⟩
 skip
 have H:Hid (aX k.base m R=mv m 2 true):=by
  show _=_;refine(ms0 i).trans ?_;unfold kX;rw[if_neg (fun x=>x.2 (of_decide_eq_true A))]
 clear h I J N O dp t s n l i L r A a D;go_enter func17,ntmps17;go_wp2_with fail
 refine dP d (c_x d G F) fun w2 HM2=>?_;rw[z.out];have B:=HM2.x2;rw[W.out]at B;go_wp2_with fail
 refine(nK.iq (c.toNat:Int) _).mono ?_;rintro e7 Z ⟨rfl,rfl⟩;rw[y.out];go_wp2_with fail
 refine dP HM2 (lD HM2 G F HB) fun w3 HM3=>?_;go_wp2_with fail
 refine jK (iP HM3 Q 2 true) fun w4 f=>?_;go_wp2
 go_end0
 exact⟨rfl,by rw[H.out];exact f,trivial⟩
theorem aaI (dp:Dp) (h:MX k m q w) (D:m.p=(j:Int)) (F:k.T.drop j=R) (H:k.T.length≤4611686018427387904) (I:j≤k.T.length) (t:m.buf.length≤900000) (r:m.u.txt.length≤100000000) (n:m.st=10→m.buf.all jW=true) (i:j+1≤4611686018427387904) (f:m.st=6):Calls prog 17 #[.pointer (some ⟨k.g,0,none⟩)] w fun e w'=>e=.returned (.tuple #[])∧MX k (aX k.base m R) q w'∧True:=by
 have d:=hid h;have B:=hid D;have A:=hid F;have J:Hid (-4611686018427387904≤m.p∧m.p≤4611686018427387904):=⟨by omega,by omega⟩;have L:=hid f;obtain⟨v,E⟩:∃v,(cc R).toNat=v:=⟨_,rfl⟩;have HV:=hid E;obtain⟨s,c⟩:∃s,sp m=s:=⟨_,rfl⟩;have z:=hid c;obtain⟨l,a⟩:∃l,kR (sp m) R=l:=⟨_,rfl⟩;have G:=hid a;rcases s with _|_
 ·rcases l with _|_
  ·have C:Hid (aX k.base m R=mv (lN k.b m) 15 true):=by
    show _=_;refine(ms6 f).trans ?_;unfold jc;rw[if_neg (fun x=>by rw[c]at x;exact absurd x.1 (by decide)),if_neg (by rw[a];decide)];try rfl
   clear h D F H I dp t r n i f E c a;go_enter func17,ntmps17;go_wp2_with fail
   refine dP d (yC d B A HV) fun w2 HM2=>?_;have y:=HM2.x2;rw[L.out]at y;go_wp2_with fail
   refine dP HM2 (dQ HM2 z) fun w3 HM3=>?_;go_wp2_with fail
   refine dP HM3 (bK HM3 B A G) fun w4 HM4=>?_;go_wp2_with fail
   refine jK (Kz HM4) fun w5 HM5=>?_;clear y;go_wp2_with fail
   refine jK (iP HM5 J 15 true) fun w6 HM6=>?_;go_wp2
   go_end0
   exact⟨rfl,by rw[C.out];exact HM6,trivial⟩
  have C:Hid (aX k.base m R=begin' m):=by
   show _=_;refine(ms6 f).trans ?_;unfold jc;rw[if_neg (fun x=>by rw[c]at x;exact absurd x.1 (by decide)),if_pos a];try rfl
  clear h D F H I dp t r n i f E c a;go_enter func17,ntmps17;go_wp2_with fail
  refine dP d (yC d B A HV) fun w2 HM2=>?_;have y:=HM2.x2;rw[L.out]at y;go_wp2_with fail
  refine dP HM2 (dQ HM2 z) fun w3 HM3=>?_;go_wp2_with fail
  refine dP HM3 (bK HM3 B A G) fun w4 HM4=>?_;go_wp2_with fail
  refine jK (DF HM4 J) fun w5 HM5=>?_;go_wp2
  go_end0
  exact⟨rfl,by rw[C.out];exact HM5,trivial⟩
 rcases l with _|_
 ·have C:Hid (aX k.base m R=mv (lN k.b m) 15 true):=by
   show _=_;refine(ms6 f).trans ?_;unfold jc;rw[if_neg (fun x=>by rw[a]at x;exact absurd x.2 (by decide)),if_neg (by rw[a];decide)];try rfl
  clear h D F H I dp t r n i f E c a;go_enter func17,ntmps17;go_wp2_with fail
  refine dP d (yC d B A HV) fun w2 HM2=>?_;have y:=HM2.x2;rw[L.out]at y;go_wp2_with fail
  refine dP HM2 (dQ HM2 z) fun w3 HM3=>?_;go_wp2_with fail
  refine dP HM3 (bK HM3 B A G) fun w4 HM4=>?_;go_wp2_with fail
  refine dP HM4 (bK HM4 B A G) fun w5 HM5=>?_;go_wp2_with fail
  refine jK (Kz HM5) fun w6 HM6=>?_;clear y;go_wp2_with fail
  refine jK (iP HM6 J 15 true) fun w7 HM7=>?_;go_wp2
  go_end0
  exact⟨rfl,by rw[C.out];exact HM7,trivial⟩
 have C:Hid (aX k.base m R=mv m 7 false):=by
  show _=_;refine(ms6 f).trans ?_;unfold jc;rw[if_pos ⟨c,a⟩];try rfl
 clear h D F H I dp t r n i f E c a;go_enter func17,ntmps17;go_wp2_with fail
 refine dP d (yC d B A HV) fun w2 HM2=>?_;have y:=HM2.x2;rw[L.out]at y;go_wp2_with fail
 refine dP HM2 (dQ HM2 z) fun w3 HM3=>?_;go_wp2_with fail
 refine dP HM3 (bK HM3 B A G) fun w4 HM4=>?_;go_wp2_with fail
 refine jK (iP HM4 J 7 false) fun w5 HM5=>?_;go_wp2
 go_end0
 exact⟨rfl,by rw[C.out];exact HM5,trivial⟩
end aep
