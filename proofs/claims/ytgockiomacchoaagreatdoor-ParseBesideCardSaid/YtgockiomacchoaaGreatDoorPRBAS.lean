/- Lemmas. -/
import Derived.Test.YtgockiomacchoaaGreatDoorPRBAR
set_option linter.unusedSimpArgs false
set_option linter.unusedVariables false
set_option maxRecDepth 100000
set_option maxHeartbeats 64000000
namespace Go.Proofs.YtgockiomacchoaaGreatDoor
open Tryz
namespace DV
open Go.RowKit Base bf eH iI aJ jw jW fG vT yc yF mg
variable {k:K} {m:M} {q:Value} {w:World} {j:Nat} {R:List UInt8}
theorem XV (o:Option (List UInt8)):HV o=.tuple #[.string (ah (o.getD [])),.bool o.isSome]:=by cases o<;>rfl
theorem uJ (dp:Dp) (h:MX k m q w) (n:m.buf.length≤900000):Calls prog 114 #[.pointer (some ⟨k.g,0,none⟩)] w fun e w'=>e=.returned (.bool (met m))∧MX k (meet m) q w':=by
 have E:=hid dp;have l:=hid h;obtain⟨B,r⟩:∃B,m.buf=B:=⟨_,rfl⟩;have G:=hid r;have F:Hid (B.length≤900000):=by show _≤_;rw[←r];exact n
 obtain⟨s,v⟩:∃s,sp m=s:=⟨_,rfl⟩;have O:=hid v;obtain⟨H,y⟩:∃H,(aU B s).getD []=H:=⟨_,rfl⟩;obtain⟨b,x⟩:∃b,(aU B s).isSome=b:=⟨_,rfl⟩;have N:Hid (HV (aU B s)=.tuple #[.string (ah H),.bool b]):=by show _=_;rw[XV,y,x]
 have P:Hid (meet m={m with u:={m.u with hh:=true,aU:=H},buf:=[]}):=by
  show _=_;unfold meet;rw[r,v,y]
 have z:Hid (met m=b):=by
  show _=_;unfold met;rw[r,v,x]
 clear h r v y x n dp;go_enter func114,ntmps114;go_wp2_with fail
 refine dF (by kernel_rfl) [pg k.g 0,pg k.g 0,pg k.g 3,is (.string (ah B)),pg k.g 0,is (.bool s),is (.tuple #[.string (ah H),.bool b]),is (.tuple #[.string (ah H),.bool b]),is (.string (ah H)),is (.bool b),is (.string (ah H)),is (.bool b)] [[],[0],[1],[2],[],[4],[3,5],[6],[7],[7],[8],[9]] (by kernel_rfl) ?_ ?_
 ·refine ⟨?_,?_,?_,?_,?_,?_,?_,?_,?_,?_,?_,?_,trivial⟩;all_goals(intro t J c hh K i;simp only[iD,Act.put,Nat.reduceAdd,Nat.reduceEqDiff,reduceIte]at hh i⊢;(try simp only[hh]at i⊢);clear hh)
  iterate 3
   ·go_simp;exact i _ _ aT rfl
  ·have I:=(l.below c).x3;rw[G.out]at I;go_simp;exact i _ _ aT rfl
  ·go_simp;exact i _ _ aT rfl
  ·go_simp;refine(dU (l.below c) O).mono ?_;rintro e L ⟨rfl,j⟩;exact i _ _ j rfl
  ·go_simp;refine(E.host (ah B) s _ (by have:=F.out;rw[ak];omega)).mono ?_;rintro e L ⟨rfl,j⟩;rw[show(ah B).data.toList=B from rfl,N.out];exact i _ _ j rfl
  iterate 5
   ·go_simp;exact i _ _ aT rfl
 intro t J c hh;have f:=aO hh 10 (by decide);simp only[pick]at f;replace f:t 10=(.string (ah H)):=f;have d:=aO hh 11 (by decide);simp only[pick]at d;replace d:t 11=(.bool b):=d;clear hh;simp only[iD,Act.put,Nat.reduceAdd,Nat.reduceEqDiff,reduceIte];simp only[f,d];have a:=hid (l.below c);have W:=a.x8;have X:=a.x7;have I:=a.x3;have Q:=a.thaw 8;have T:=a.thaw 7;have V:=a.thaw 3;have D:=hid (a.SS true);have C:=hid (D.rG H);have A:=hid (C.buf []);go_wp2;go_ret;exact⟨by rw[z.out];rfl,by rw[P.out];exact A⟩
theorem Nw (dp:Dp) (h:MX k m q w) (hz:m.p=(j:Int)) (hR:k.T.drop j=R) (hl:k.T.length≤4611686018427387904) (hj:j≤k.T.length) (z:m.buf.length≤900000):Calls prog 57 #[.pointer (some ⟨k.g,0,none⟩),.int .u8 ((cc R).toNat:Int)] w fun e w'=>e=.returned (.tuple #[])∧MX k (dA m R) q w'∧True:=by
 have f:=hid h;have O:=hid hz;have N:=hid hR;have HZ:Hid (-4611686018427387904≤m.p∧m.p≤4611686018427387904):=⟨by omega,by omega⟩;obtain⟨B,E⟩:∃B,m.buf=B:=⟨_,rfl⟩;have C:=hid E;have a6:Hid (B.length≤900000):=by show _≤_;rw[←E];exact z
 obtain⟨c,Y⟩:∃c,c=cc R:=⟨_,rfl⟩;rw[←Y];have a0:=hid dp;obtain⟨s,hs⟩:∃s,sp m=s:=⟨_,rfl⟩;obtain⟨l,n⟩:∃l,kL (sp m) R=l:=⟨_,rfl⟩;have HL:=hid n;obtain⟨o,X⟩:∃o,bU R=o:=⟨_,rfl⟩;have HE:=hid X;have F:Hid (m.buf.length≤900000):=by show _≤_;rw[E];exact a6
 by_cases hg:o=false∧l=false
 ·obtain ⟨rfl,rfl⟩:=hg;have P:Hid (dA m R={m with buf:=B++[c]}):=by
   show _=_;unfold dA;rw[if_pos ⟨X,n⟩,E,Y]
  clear E Y hs n X z dp;clear h hz hR hl hj;go_enter func57,ntmps57;go_wp2_with fail
  refine dO f (dY f O N HE) fun w2 HM2=>?_;go_wp2_with fail
  refine dO HM2 (bK HM2 O N HL) fun w3 a=>?_;go_wp2_with fail
  refine aV (by kernel_rfl) 11 [pg k.g 0,pg k.g 0,pg k.g 0,pg k.g 3,is (.string (ah B)),is (.int .u8 (c.toNat:Int)),row 1 (aQ [c]),is (.string (ah [c])),is (.string (ah (B++[c]))),pg k.g 0,pg k.g 3] [[],[],[1],[1,2],[1,2,3],[],[5],[5,6],[1,2,3,4,5,6,7],[0],[0,9],[0,1,2,3,4,5,6,7,8,9,10]] (by kernel_rfl) ?_ ?_
  ·refine ⟨?_,?_,?_,?_,?_,?_,?_,?_,?_,?_,?_,trivial⟩;all_goals(intro t wq a4 hh K Q;simp only[iD,oP,Act.put,Nat.reduceAdd,Nat.reduceEqDiff,reduceIte]at hh Q⊢)
   iterate 4
    ·try simp only[hh]at Q⊢
     clear hh;go_simp;exact Q _ _ aT rfl
   ·try simp only[hh]at Q⊢
    clear hh;have r:=(a.below a4).x3;rw[C.out]at r;go_simp;exact Q _ _ aT rfl
   ·try simp only[hh]at Q⊢
    clear hh;go_simp;exact Q _ _ aT rfl
   ·try simp only[hh]at Q⊢
    clear hh;go_simp;exact Q _ _ ((Below.refl _ _).alloc (Nat.le_refl _) _) ⟨_,_,rfl,Nat.le_refl _,by decide,iP wq [c] 5 (0,0)⟩
   ·have e6:=hh.2.1;clear hh;obtain⟨A6,c6,e6,b5,b3,a7⟩:=e6;simp only[e6]at Q⊢;have hs:=bI 50 9 5 underlying50 underlying5 underlying9 _ c6 a7;go_simp;exact Q _ _ aT rfl
   ·try simp only[hh]at Q⊢
    clear hh;have b0:(Op.stringOp .add (ah B) (ah [c])).run prog wq=.ok (.string (ah (B++[c]))) wq:=bH _ _ wq (by have:=a6.out;simp;omega);go_simp;exact Q _ _ aT rfl
   iterate 2
    ·try simp only[hh]at Q⊢
     clear hh;go_simp;exact Q _ _ aT rfl
  intro t wq a4 hh;have f8:=aO hh 8 (by decide);simp only[pick]at f8;replace f8:t 8=(.string (ah (B++[c]))):=f8;have a2:=aO hh 10 (by decide);simp only[pick]at a2;replace a2:t 10=(.pointer (some ⟨k.g,3,none⟩)):=a2;clear hh;simp only[iD,oP,Act.put,Nat.reduceAdd,Nat.reduceEqDiff,reduceIte];simp only[f8,a2];have a5:=hid (a.below a4);have a9:=hid (a5.buf (B++[c]));have z3:=a5.thaw 3;have r:=a5.x3;go_wp2;first|go_end0|((try simp only[Exit.inBlock,Exit.then]);refine eX rfl rfl ?_)
  exact⟨rfl,by rw[P.out];exact a9,trivial⟩
 have HN:Hid (¬(bU R=false∧kL (sp m) R=false)):=by show ¬_;rw[X,n];exact hg
 obtain⟨d,L⟩:∃d,lq B=d:=⟨_,rfl⟩;have HD:=hid L;by_cases he:B=[]
 ·subst he;have a8:d=false:=L.symm.trans rfl;subst a8;have A:Hid ((ah []).toList.isEmpty=true):=by show _=_;rw[mg.tl];rfl
  have P:Hid (dA m R=mv m 14 true):=by
   show _=_;unfold dA;rw[if_neg HN.out,E,if_neg (by rw[L];decide),if_pos rfl]
  rcases o with _|_
  ·have G:l=true:=match l,hg with|true,_=>rfl|false,hg=>absurd ⟨rfl,rfl⟩ hg
   subst G;clear E Y hs n X z dp hg L;clear h hz hR hl hj;go_enter func57,ntmps57;go_wp2_with fail
   refine dO f (dY f O N HE) fun w2 HM2=>?_;go_wp2_with fail
   refine dO HM2 (bK HM2 O N HL) fun w3 a=>?_;have r:=a.x3;rw[C.out]at r;go_wp2_with fail
   refine(oQ.bQ (ah []) _).mono ?_;rintro e9 w9 ⟨rfl,rfl⟩;rw[show lq (ah []).data.toList=false from HD.out];have H:=A.out;go_wp2_with fail
   refine jv (iq a HZ 14 true) fun w4 i=>?_;go_wp2;first|go_end0|((try simp only[Exit.inBlock,Exit.then]);refine eX rfl rfl ?_)
   exact⟨rfl,by rw[P.out];exact i,trivial⟩
  clear E Y hs n X z dp hg L;clear h hz hR hl hj;go_enter func57,ntmps57;go_wp2_with fail
  refine dO f (dY f O N HE) fun w2 HM2=>?_;have r:=HM2.x3;rw[C.out]at r;go_wp2_with fail
  refine(oQ.bQ (ah []) _).mono ?_;rintro e9 w9 ⟨rfl,rfl⟩;rw[show lq (ah []).data.toList=false from HD.out];have H:=A.out;go_wp2_with fail
  refine jv (iq HM2 HZ 14 true) fun w3 a=>?_;go_wp2;first|go_end0|((try simp only[Exit.inBlock,Exit.then]);refine eX rfl rfl ?_)
  exact⟨rfl,by rw[P.out];exact a,trivial⟩
 have A:Hid ((ah B).toList.isEmpty=false):=by
  show _=_;rw[mg.tl];cases B with
  |nil=>exact absurd rfl he
  |cons x y=>rfl
 rcases d with _|_
 ·obtain ⟨e,D⟩:∃e,met m=e:=⟨_,rfl⟩;have Z:=hid D;rcases e with _|_
  ·have P:Hid (dA m R=fail (meet m)):=by
    show _=_;unfold dA;rw[if_neg HN.out,E,if_neg (by rw[L];decide),if_neg he,if_pos D]
   rcases o with _|_
   ·have G:l=true:=match l,hg with|true,_=>rfl|false,hg=>absurd ⟨rfl,rfl⟩ hg
    subst G;clear E Y hs n X z dp hg L he D;clear h hz hR hl hj;go_enter func57,ntmps57;go_wp2_with fail
    refine dO f (dY f O N HE) fun w2 HM2=>?_;go_wp2_with fail
    refine dO HM2 (bK HM2 O N HL) fun w3 a=>?_;have r:=a.x3;rw[C.out]at r;go_wp2_with fail
    refine(oQ.bQ (ah B) _).mono ?_;rintro e9 w9 ⟨rfl,rfl⟩;rw[show lq (ah B).data.toList=false from HD.out];have H:=A.out;go_wp2_with fail
    refine(uJ a0 a F).mono ?_;rintro e4 w4 ⟨rfl,I⟩;rw[Z.out];have i:=hid I;clear I;clear r;have c2:=i.x2;have z2:=i.thaw 2;have W:=hid (i.st 19);go_wp2;first|go_end0|((try simp only[Exit.inBlock,Exit.then]);refine eX rfl rfl ?_)
    exact⟨rfl,by rw[P.out];exact W,trivial⟩
   clear E Y hs n X z dp hg L he D;clear h hz hR hl hj;go_enter func57,ntmps57;go_wp2_with fail
   refine dO f (dY f O N HE) fun w2 HM2=>?_;have r:=HM2.x3;rw[C.out]at r;go_wp2_with fail
   refine(oQ.bQ (ah B) _).mono ?_;rintro e9 w9 ⟨rfl,rfl⟩;rw[show lq (ah B).data.toList=false from HD.out];have H:=A.out;go_wp2_with fail
   refine(uJ a0 HM2 F).mono ?_;rintro e3 w3 ⟨rfl,J⟩;rw[Z.out];have a:=hid J;clear J;clear r;have c2:=a.x2;have z2:=a.thaw 2;have i:=hid (a.st 19);go_wp2;first|go_end0|((try simp only[Exit.inBlock,Exit.then]);refine eX rfl rfl ?_)
   exact⟨rfl,by rw[P.out];exact i,trivial⟩
  obtain⟨V,hV⟩:∃V,(meet m).u.aU=V:=⟨_,rfl⟩;have HV:=hid hV;have a3:Hid (-4611686018427387904≤(meet m).p∧(meet m).p≤4611686018427387904):=HZ.out;by_cases v:(meet m).u.aU=LOCAL
  ·have a1:Hid (((ah V).toList==[108,111,99,97,108,104,111,115,116])=true):=by show _=_;rw[dZ];exact decide_eq_true (hV▸v)
   have P:Hid (dA m R=mv {meet m with u:={(meet m).u with aU:=[]}} 14 true):=by
    show _=_;unfold dA;rw[if_neg HN.out,E,if_neg (by rw[L];decide),if_neg he,if_neg (by rw[D];decide),if_pos v]
   rcases o with _|_
   ·have G:l=true:=match l,hg with|true,_=>rfl|false,hg=>absurd ⟨rfl,rfl⟩ hg
    subst G;clear E Y hs n X z dp hg L he D v hV;clear h hz hR hl hj;go_enter func57,ntmps57;go_wp2_with fail
    refine dO f (dY f O N HE) fun w2 HM2=>?_;go_wp2_with fail
    refine dO HM2 (bK HM2 O N HL) fun w3 a=>?_;have r:=a.x3;rw[C.out]at r;go_wp2_with fail
    refine(oQ.bQ (ah B) _).mono ?_;rintro e9 w9 ⟨rfl,rfl⟩;rw[show lq (ah B).data.toList=false from HD.out];have H:=A.out;go_wp2_with fail
    refine(uJ a0 a F).mono ?_;rintro e4 w4 ⟨rfl,I⟩;rw[Z.out];have i:=hid I;clear I;clear r;have c7:=i.x7;have z7:=i.thaw 7;rw[HV.out]at c7;have v:=a1.out;have W:=hid (i.rG []);go_wp2_with fail
    refine jv (iq W a3 14 true) fun w6 HM6=>?_;go_wp2;first|go_end0|((try simp only[Exit.inBlock,Exit.then]);refine eX rfl rfl ?_)
    exact⟨rfl,by rw[P.out];exact HM6,trivial⟩
   clear E Y hs n X z dp hg L he D v hV;clear h hz hR hl hj;go_enter func57,ntmps57;go_wp2_with fail
   refine dO f (dY f O N HE) fun w2 HM2=>?_;have r:=HM2.x3;rw[C.out]at r;go_wp2_with fail
   refine(oQ.bQ (ah B) _).mono ?_;rintro e9 w9 ⟨rfl,rfl⟩;rw[show lq (ah B).data.toList=false from HD.out];have H:=A.out;go_wp2_with fail
   refine(uJ a0 HM2 F).mono ?_;rintro e3 w3 ⟨rfl,J⟩;rw[Z.out];have a:=hid J;clear J;clear r;have c7:=a.x7;have z7:=a.thaw 7;rw[HV.out]at c7;have v:=a1.out;have i:=hid (a.rG []);go_wp2_with fail
   refine jv (iq i a3 14 true) fun w5 W=>?_;go_wp2;first|go_end0|((try simp only[Exit.inBlock,Exit.then]);refine eX rfl rfl ?_)
   exact⟨rfl,by rw[P.out];exact W,trivial⟩
  have a1:Hid (((ah V).toList==[108,111,99,97,108,104,111,115,116])=false):=by show _=_;rw[dZ];exact decide_eq_false (hV▸v)
  have P:Hid (dA m R=mv (meet m) 14 true):=by
   show _=_;unfold dA;rw[if_neg HN.out,E,if_neg (by rw[L];decide),if_neg he,if_neg (by rw[D];decide),if_neg v]
  rcases o with _|_
  ·have G:l=true:=match l,hg with|true,_=>rfl|false,hg=>absurd ⟨rfl,rfl⟩ hg
   subst G;clear E Y hs n X z dp hg L he D v hV;clear h hz hR hl hj;go_enter func57,ntmps57;go_wp2_with fail
   refine dO f (dY f O N HE) fun w2 HM2=>?_;go_wp2_with fail
   refine dO HM2 (bK HM2 O N HL) fun w3 a=>?_;have r:=a.x3;rw[C.out]at r;go_wp2_with fail
   refine(oQ.bQ (ah B) _).mono ?_;rintro e9 w9 ⟨rfl,rfl⟩;rw[show lq (ah B).data.toList=false from HD.out];have H:=A.out;go_wp2_with fail
   refine(uJ a0 a F).mono ?_;rintro e4 w4 ⟨rfl,I⟩;rw[Z.out];have i:=hid I;clear I;clear r;have c7:=i.x7;have z7:=i.thaw 7;rw[HV.out]at c7;have v:=a1.out;go_wp2_with fail
   refine jv (iq i a3 14 true) fun w5 W=>?_;go_wp2;first|go_end0|((try simp only[Exit.inBlock,Exit.then]);refine eX rfl rfl ?_)
   exact⟨rfl,by rw[P.out];exact W,trivial⟩
  clear E Y hs n X z dp hg L he D v hV;clear h hz hR hl hj;go_enter func57,ntmps57;go_wp2_with fail
  refine dO f (dY f O N HE) fun w2 HM2=>?_;have r:=HM2.x3;rw[C.out]at r;go_wp2_with fail
  refine(oQ.bQ (ah B) _).mono ?_;rintro e9 w9 ⟨rfl,rfl⟩;rw[show lq (ah B).data.toList=false from HD.out];have H:=A.out;go_wp2_with fail
  refine(uJ a0 HM2 F).mono ?_;rintro e3 w3 ⟨rfl,J⟩;rw[Z.out];have a:=hid J;clear J;clear r;have c7:=a.x7;have z7:=a.thaw 7;rw[HV.out]at c7;have v:=a1.out;go_wp2_with fail
  refine jv (iq a a3 14 true) fun w4 i=>?_;go_wp2;first|go_end0|((try simp only[Exit.inBlock,Exit.then]);refine eX rfl rfl ?_)
  exact⟨rfl,by rw[P.out];exact i,trivial⟩
 have P:Hid (dA m R=mv m 15 true):=by
  show _=_;unfold dA;rw[if_neg HN.out,E,if_pos L]
 rcases o with _|_
 ·have G:l=true:=match l,hg with|true,_=>rfl|false,hg=>absurd ⟨rfl,rfl⟩ hg
  subst G;clear E Y hs n X z dp hg L he;clear h hz hR hl hj;go_enter func57,ntmps57;go_wp2_with fail
  refine dO f (dY f O N HE) fun w2 HM2=>?_;go_wp2_with fail
  refine dO HM2 (bK HM2 O N HL) fun w3 a=>?_;have r:=a.x3;rw[C.out]at r;go_wp2_with fail
  refine(oQ.bQ (ah B) _).mono ?_;rintro e9 w9 ⟨rfl,rfl⟩;rw[show lq (ah B).data.toList=true from HD.out];have H:=A.out;go_wp2_with fail
  refine jv (iq a HZ 15 true) fun w4 i=>?_;go_wp2;first|go_end0|((try simp only[Exit.inBlock,Exit.then]);refine eX rfl rfl ?_)
  exact⟨rfl,by rw[P.out];exact i,trivial⟩
 clear E Y hs n X z dp hg L he;clear h hz hR hl hj;go_enter func57,ntmps57;go_wp2_with fail
 refine dO f (dY f O N HE) fun w2 HM2=>?_;have r:=HM2.x3;rw[C.out]at r;go_wp2_with fail
 refine(oQ.bQ (ah B) _).mono ?_;rintro e9 w9 ⟨rfl,rfl⟩;rw[show lq (ah B).data.toList=true from HD.out];have H:=A.out;go_wp2_with fail
 refine jv (iq HM2 HZ 15 true) fun w3 a=>?_;go_wp2;first|go_end0|((try simp only[Exit.inBlock,Exit.then]);refine eX rfl rfl ?_)
 exact⟨rfl,by rw[P.out];exact a,trivial⟩
end DV
namespace Df
open Go.RowKit Base bf eH iH jW fG vT yc yF DV
variable {k:K} {m:M} {q:Value} {w:World} {j:Nat} {R:List UInt8}
theorem Em:(ah []).toList.isEmpty=true:=by rw[mg.tl];rfl
theorem Cj {B:List UInt8} (h:B≠[]):(ah B).toList.isEmpty=false:=by
 rw[mg.tl];cases B with
 |nil=>exact absurd rfl h
 |cons x y=>rfl
theorem Zr {c:UInt8} {n:Nat} (h:n<256) (e:c=UInt8.ofNat n):((c.toNat:Int)==(n:Int))=true:=by
 rw[e,show(UInt8.ofNat n).toNat=n from UInt8.toNat_ofNat_of_lt h];exact beq_self_eq_true _
theorem Zt {c:UInt8} {n:Nat} (h:n<256) (e:c≠UInt8.ofNat n):((c.toNat:Int)==(n:Int))=false:=by
 refine beq_false_of_ne fun x=>e (UInt8.toNat_inj.1 ?_);rw[show(UInt8.ofNat n).toNat=n from UInt8.toNat_ofNat_of_lt h];exact Int.ofNat.inj x
theorem adP {s:Bool} (h:kL s R=true):cc R≠58:=by
 match R,h with
 |c::L,h=>
  intro e;have e:c=58:=e;have h:bW s c=true:=h;subst e;cases s<;>exact absurd h (by decide)
theorem J9 {c:UInt8} (n:Nat) (h:n<256) {d:Bool} (e:decide (c=UInt8.ofNat n)=d):Hid (((c.toNat:Int)==(n:Int))=d):=by
 subst e;show _=_;by_cases g:c=UInt8.ofNat n
 ·rw[Zr h g,decide_eq_true g]
 rw[Zt h g,decide_eq_false g]
theorem b4 (d i l:Bool) (h:d=true→l=false):((d=false∧l=false)∨(d=true∧i=true∧l=false))∨(d=true∧i=false)∨(d=false∧l=true):=by
 revert d i l;decide
theorem b2 (a b:Bool) (h:a=true→b=false):(a=true∧b=false)∨(a=false∧b=true)∨(a=false∧b=false):=by
 revert a b;decide
theorem b1 (s:Bool) (B:List UInt8):(s=false∨(s=true∧B≠[]))∨(s=true∧B=[]):=by
 cases s<;>by_cases h:B=[]<;>simp[h]
theorem aaE (dp:Dp) (h:MX k m q w) (hz:m.p=(j:Int)) (hR:k.T.drop j=R) (hl:k.T.length≤4611686018427387904) (hj:j≤k.T.length) (a7:m.buf.length≤900000):Calls prog 53 #[.pointer (some ⟨k.g,0,none⟩),.int .u8 ((cc R).toNat:Int)] w fun e w'=>e=.returned (.tuple #[])∧MX k (kG m R) q w'∧True:=by
 have b3:=hid h;have HP:=hid hz;have HR:=hid hR;have HZ:Hid (-4611686018427387904≤m.p∧m.p≤4611686018427387904):=⟨by omega,by omega⟩;obtain⟨B,Y⟩:∃B,m.buf=B:=⟨_,rfl⟩;have D:=hid Y;have b5:Hid (B.length≤900000):=by show _≤_;rw[←Y];exact a7
 obtain⟨c,W⟩:∃c,c=cc R:=⟨_,rfl⟩;rw[←W];have a4:=hid dp;obtain⟨s,hs⟩:∃s,sp m=s:=⟨_,rfl⟩;have HS:=hid hs;obtain⟨l,H⟩:∃l,kL (sp m) R=l:=⟨_,rfl⟩;have HL:=hid H;obtain⟨o,ho⟩:∃o,bU R=o:=⟨_,rfl⟩;have HE:=hid ho;obtain⟨i,hi⟩:∃i,m.inn=i:=⟨_,rfl⟩;have HI:=hid hi;obtain⟨me,L⟩:∃e,met m=e:=⟨_,rfl⟩;have a3:=hid L;have J:Hid (m.buf.length≤900000):=by show _≤_;rw[Y];exact b5
 have a0:Hid (-4611686018427387904≤(meet m).p∧(meet m).p≤4611686018427387904):=HZ.out;obtain⟨F,E⟩:∃x,decide (c=58)=x:=⟨_,rfl⟩;have a5:Hid (((c.toNat:Int)==58)=F):=J9 58 (by decide) E;obtain⟨V,O⟩:∃x,decide (c=91)=x:=⟨_,rfl⟩;have c1:Hid (((c.toNat:Int)==91)=V):=J9 91 (by decide) O;obtain⟨Q,N⟩:∃x,decide (c=93)=x:=⟨_,rfl⟩;have c0:Hid (((c.toNat:Int)==93)=Q):=J9 93 (by decide) N;have a6:F=true→l=false:=by
  intro x;cases l with
  |false=>rfl
  |true=>exact absurd (W.symm.trans (of_decide_eq_true (E.trans x))) (adP H)
 have b9:=hid a6;have b7:Hid (Q=true→V=false):=by
  intro x;rw[←O,of_decide_eq_true (N.trans x)];decide
 have a1:Hid (o=false→F=true→i=false→kG m R=if B=[]then fail m else if me=false then fail (meet m)else mv (meet m) 10 false):=by
  intro x y z;unfold kG;rw[if_pos ⟨ho.trans x,W.symm.trans (of_decide_eq_true (E.trans y)),hi.trans z⟩,Y,L]
 have G:Hid (o=true∨(l=true∧F=false)→kG m R=if s=true∧B=[]then fail m else if me=false then fail (meet m)else mv (meet m) 14 true):=by
  intro x;unfold kG;rw[if_neg (fun y=>by rcases x with x|⟨_,x⟩;(rw[ho,x]at y;exact absurd y.1 (by decide));exact of_decide_eq_false (E.trans x) (W.trans y.2.1)),if_pos (by rw[ho,H];rcases x with x|⟨x,_⟩;exact .inl x;exact .inr x),Y,L,hs]
 have b8:Hid (o=false→l=false→(F=false∨i=true)→kG m R={m with inn:=if Q=true then false else if V=true then true else m.inn,buf:=B++[c]}):=by
  intro x y z;unfold kG;rw[if_neg (fun v=>by rcases z with z|z;(exact of_decide_eq_false (E.trans z) (W.trans v.2.1));(rw[hi,z]at v;exact absurd v.2.2 (by decide))),if_neg (by rw[ho,H,x,y];decide),Y,←W,←N,←O];simp only[decide_eq_true_eq]
 clear Y W hs H ho a7 dp hi L E O N a6;clear h hz hR hl hj;go_enter func53,ntmps53;go_wp2_with fail
 refine dO b3 (dY b3 HP HR HE) fun w2 HM2=>?_;rcases o with _|_
 ·rcases b4 F i l b9 with (⟨rfl, rfl⟩ | ⟨rfl, rfl, rfl⟩) | ⟨rfl, rfl⟩ | ⟨rfl, rfl⟩
  iterate 2
   ·have Z := a5.out;have C:=HM2.x32;rw[HI.out]at C;go_wp2_with fail
    refine dO HM2 (dY HM2 HP HR HE) fun w3 HM3=>?_;go_wp2_with fail
    refine dO HM3 (bK HM3 HP HR HL) fun w4 HM4=>?_;clear C;have C:=HM4.x32;have c5:=HM4.thaw 32;rcases b2 Q V b7 with⟨rfl,rfl⟩|⟨rfl,rfl⟩|⟨rfl,rfl⟩
    all_goals
     have a9:=c1.out;have a8:=c0.out;first|(have x:((c.toNat:Int)==93)=true:=a8;clear x;have f:=hid (HM4.inn false))|(have x:((c.toNat:Int)==91)=true:=a9;clear x;have f:=hid (HM4.inn true))|(have f:Hid (MX k {m with inn:=m.inn} q _):=HM4)
     go_wp2_with fail
     clear Z a9 a8;try generalize ((c.toNat:Int)==58)=g58
     try generalize ((c.toNat:Int)==91)=g91
     try generalize ((c.toNat:Int)==93)=g93
     clear C;refine aV (by kernel_rfl) 11 [pg k.g 0,pg k.g 0,pg k.g 0,pg k.g 3,is (.string (ah B)),is (.int .u8 (c.toNat:Int)),row 1 (aQ [c]),is (.string (ah [c])),is (.string (ah (B++[c]))),pg k.g 0,pg k.g 3] [[],[],[1],[1,2],[1,2,3],[],[5],[5,6],[1,2,3,4,5,6,7],[0],[0,9],[0,1,2,3,4,5,6,7,8,9,10]] (by kernel_rfl) ?_ ?_
     ·refine ⟨?_,?_,?_,?_,?_,?_,?_,?_,?_,?_,?_,trivial⟩;all_goals(intro t wq X hh K A;simp only[iD,oP,Act.put,Nat.reduceAdd,Nat.reduceEqDiff,reduceIte]at hh A⊢)
      iterate 4
       ·try simp only[hh]at A⊢
        clear hh;go_simp;exact A _ _ aT rfl
      ·try simp only[hh]at A⊢
       clear hh;have r:=(f.below X).x3;rw[D.out]at r;go_simp;exact A _ _ aT rfl
      ·try simp only[hh]at A⊢
       clear hh;go_simp;exact A _ _ aT rfl
      ·try simp only[hh]at A⊢
       clear hh;go_simp;exact A _ _ ((Below.refl _ _).alloc (Nat.le_refl _) _) ⟨_,_,rfl,Nat.le_refl _,by decide,iP wq [c] 5 (0,0)⟩
      ·have e6:=hh.2.1;clear hh;obtain⟨A6,c6,e6,c8,c7,b6⟩:=e6;simp only[e6]at A⊢;have hs:=bI 50 9 5 underlying50 underlying5 underlying9 _ c6 b6;go_simp;exact A _ _ aT rfl
      ·try simp only[hh]at A⊢
       clear hh;have c4:(Op.stringOp .add (ah B) (ah [c])).run prog wq=.ok (.string (ah (B++[c]))) wq:=bH _ _ wq (by have:=b5.out;simp;omega);go_simp;exact A _ _ aT rfl
      iterate 2
       ·try simp only[hh]at A⊢
        clear hh;go_simp;exact A _ _ aT rfl
     ·intro t wq X hh;have f8:=aO hh 8 (by decide);simp only[pick]at f8;replace f8:t 8=(.string (ah (B++[c]))):=f8;have P:=aO hh 10 (by decide);simp only[pick]at P;replace P:t 10=(.pointer (some ⟨k.g,3,none⟩)):=P;clear hh;simp only[iD,oP,Act.put,Nat.reduceAdd,Nat.reduceEqDiff,reduceIte];simp only[f8,P];have a2:=hid (f.below X);have b0:=hid (a2.buf (B++[c]));have z3:=a2.thaw 3;have r:=a2.x3;go_wp2;first|go_end0|((try simp only[Exit.inBlock,Exit.then]);refine eX rfl rfl ?_)
      refine⟨rfl,?_⟩;try refine⟨?_,trivial⟩
      rw[b8.out (by simp) (by simp) (by simp)];first|exact b0|(simp only[reduceIte,Bool.false_eq_true];exact b0)
  ·have Z:=a5.out;have C:=HM2.x32;rw[HI.out]at C;by_cases he:B=[]
   ·subst he;have r:=HM2.x3;have c2:=HM2.x2;have z2:=HM2.thaw 2;rw[D.out]at r;have I:=Em;have a:=hid (HM2.st 19);go_wp2;first|go_end0|((try simp only[Exit.inBlock,Exit.then]);refine eX rfl rfl ?_)
    exact⟨rfl,by rw[a1.out (by simp) (by simp) (by simp),if_pos (by simp)];exact a,trivial⟩
   have I:=Cj he;have r:=HM2.x3;rw[D.out]at r;go_wp2_with fail
   refine(uJ a4 HM2 J).mono ?_;rintro e7 w7 ⟨rfl,n⟩;rw[a3.out];have a:=hid n;clear n r C;rcases me with _|_
   ·have c2:=a.x2;have z2:=a.thaw 2;have d:=hid (a.st 19);go_wp2;first|go_end0|((try simp only[Exit.inBlock,Exit.then]);refine eX rfl rfl ?_)
    exact⟨rfl,by rw[a1.out (by simp) (by simp) (by simp),if_neg he,if_pos (by simp)];exact d,trivial⟩
   go_wp2_with fail
   refine jv (iq a a0 10 false) fun w8 d=>?_;go_wp2;first|go_end0|((try simp only[Exit.inBlock,Exit.then]);refine eX rfl rfl ?_)
   exact⟨rfl,by rw[a1.out (by simp) (by simp) (by simp),if_neg he,if_neg (by simp)];exact d,trivial⟩
  have Z:=a5.out;go_wp2_with fail
  refine dO HM2 (dY HM2 HP HR HE) fun w3 HM3=>?_;go_wp2_with fail
  refine dO HM3 (bK HM3 HP HR HL) fun w4 HM4=>?_;go_wp2_with fail
  refine dO HM4 (dU HM4 HS) fun w5 f=>?_;rcases b1 s B with(rfl|⟨rfl,he⟩)|⟨rfl,rfl⟩
  iterate 2
   ·have r:=f.x3;rw[D.out]at r;try have I:=Cj he
    skip
    go_wp2_with fail
    refine(uJ a4 f J).mono ?_;rintro e7 w7 ⟨rfl,n⟩;rw[a3.out];have a:=hid n;clear n r;rcases me with _|_
    ·have c2:=a.x2;have z2:=a.thaw 2;have d:=hid (a.st 19);go_wp2;first|go_end0|((try simp only[Exit.inBlock,Exit.then]);refine eX rfl rfl ?_)
     exact⟨rfl,by rw[G.out (by simp),if_neg (by first|simp[he]|simp),if_pos (by simp)];exact d,trivial⟩
    ·go_wp2_with fail
     refine jv (iq a a0 14 true) fun w8 d=>?_;go_wp2;first|go_end0|((try simp only[Exit.inBlock,Exit.then]);refine eX rfl rfl ?_)
     exact⟨rfl,by rw[G.out (by simp),if_neg (by first|simp[he]|simp),if_neg (by simp)];exact d,trivial⟩
  skip
  have r:=f.x3;have c2:=f.x2;have z2:=f.thaw 2;rw[D.out]at r;have I:=Em;have a:=hid (f.st 19);go_wp2;first|go_end0|((try simp only[Exit.inBlock,Exit.then]);refine eX rfl rfl ?_)
  exact⟨rfl,by rw[G.out (by simp),if_pos (by simp)];exact a,trivial⟩
 go_wp2_with fail
 refine dO HM2 (dY HM2 HP HR HE) fun w3 HM3=>?_;go_wp2_with fail
 refine dO HM3 (dU HM3 HS) fun w4 HM4=>?_;rcases b1 s B with(rfl|⟨rfl,he⟩)|⟨rfl,rfl⟩
 iterate 2
  ·have r:=HM4.x3;rw[D.out]at r;try have I:=Cj he
   skip
   go_wp2_with fail
   refine(uJ a4 HM4 J).mono ?_;rintro e7 w7 ⟨rfl,n⟩;rw[a3.out];have a:=hid n;clear n r;rcases me with _|_
   ·have c2:=a.x2;have z2:=a.thaw 2;have d:=hid (a.st 19);go_wp2;first|go_end0|((try simp only[Exit.inBlock,Exit.then]);refine eX rfl rfl ?_)
    exact⟨rfl,by rw[G.out (by simp),if_neg (by first|simp[he]|simp),if_pos (by simp)];exact d,trivial⟩
   ·go_wp2_with fail
    refine jv (iq a a0 14 true) fun w8 d=>?_;go_wp2;first|go_end0|((try simp only[Exit.inBlock,Exit.then]);refine eX rfl rfl ?_)
    exact⟨rfl,by rw[G.out (by simp),if_neg (by first|simp[he]|simp),if_neg (by simp)];exact d,trivial⟩
 skip
 have r:=HM4.x3;have c2:=HM4.x2;have z2:=HM4.thaw 2;rw[D.out]at r;have I:=Em;have a:=hid (HM4.st 19);go_wp2;first|go_end0|((try simp only[Exit.inBlock,Exit.then]);refine eX rfl rfl ?_)
 exact⟨rfl,by rw[G.out (by simp),if_pos (by simp)];exact a,trivial⟩
end Df
namespace Xb
open Go.RowKit Base bf eH jw jW fG vT yc yF Df
variable {k:K} {m:M} {q:Value} {w:World} {j:Nat} {R:List UInt8}
theorem aeS (c:UInt8) (D:List UInt8):(c≠32∨(c=32∧D=[])∨∃x L,c=32∧D=x::L∧x≠63∧x≠35)∨∃x L,c=32∧D=x::L∧(x=63∨x≠63∧x=35):=by
 by_cases h:c=32
 ·cases D with
  |nil=>exact .inl (.inr (.inl ⟨h,rfl⟩))
  |cons x L=>
   by_cases h1:x=63
   ·exact .inr ⟨x,L,h,rfl,.inl h1⟩
   by_cases h2:x=35
   ·exact .inr ⟨x,L,h,rfl,.inr ⟨h1,h2⟩⟩
   exact .inl (.inr (.inr ⟨x,L,h,rfl,h1,h2⟩))
 exact .inl (.inl h)
theorem Vp (dp : Dp) (h : MX k m q w) (hz : m.p = (j : Int)) (hR : k.T.drop j = R) (hl : k.T.length ≤ 4611686018427387904) (hj : j ≤ k.T.length) (N : m.u.txt.length ≤ 100000000) : Calls prog 60 #[.pointer (some ⟨k.g, 0, none⟩), .int .u8 ((cc R).toNat : Int)] w fun e w' => e = .returned (.tuple #[]) ∧ MX k (qE m R) q w' ∧ True := by
 have Y:=hid h;have HP:=hid hz;have HR:=hid hR;have a7:=hid dp;have a4:=hid hl;have HJ:=hid hj;have a9:(j:Int)≤4611686018427387904:=by omega
 obtain⟨V,Z⟩:∃V,m.u.txt=V:=⟨_,rfl⟩;have HV:=hid Z;have Q:Hid (V.length≤100000000):=by show _≤_;rw[←Z];exact N
 obtain⟨c,hc⟩:∃c,c=cc R:=⟨_,rfl⟩;rw[←hc];obtain⟨o,ho⟩:∃o,bU R=o:=⟨_,rfl⟩;have HE:=hid ho;obtain⟨D,hD⟩:∃D,R.drop 1=D:=⟨_,rfl⟩;obtain⟨X,hX⟩:∃X,X=ah D:=⟨_,rfl⟩;have HX:Hid (ah (k.T.drop (j+1))=X):=by show _=_;rw[hX,←hD,←hR,List.drop_drop]
 obtain⟨E,hE⟩:∃E,aG.enc 0 [c]=E:=⟨_,rfl⟩;have a6:=hid hE;have a5:Hid (E.length≤3):=by show _≤_;have:=aG.fK 0 [c];rw[hE]at this;simpa using this
 have i:=hid hX;have C:Hid (qE m R=if o=true then tail m R else if c=32∧D.head?.elim false (fun c=>decide (c=63)||decide (c=35))=true then {m with u:={m.u with txt:=V++[37,50,48]}}else {m with u:={m.u with txt:=V++E}}):=by
  show _=_;unfold qE;rw[ho,←hc,hD,Z,hE]
 clear Z hc ho N dp hD hX hE;clear h hz hR hl hj;go_enter func60,ntmps60;go_wp2_with fail
 refine dO Y (dY Y HP HR HE) fun w2 HM2=>?_;rcases o with _|_
 ·have c1:=HM2.x1;rw[HP.out]at c1;rcases aeS c D with(h|⟨h,rfl⟩|⟨x,L,h,rfl,h63,h35⟩)|⟨x,L,h,rfl,h6⟩
  iterate 3
   ·first|have B:((c.toNat:Int)==32)=true:=Zr (n:=32) (by decide) h|have B:((c.toNat:Int)==32)=false:=Zt (n:=32) (by decide) h
    try have v:X.toList.isEmpty=true:=by rw[i.out];exact Em
    try
     obtain⟨sH,J⟩:∃h:0<X.size,X[0]=x:=by have:=i;subst this;exact⟨by rw[ak];exact Nat.succ_pos _,rfl⟩
     have I:(0:Int)<(X.size:Int):=by omega
     have H:¬(X.size:Int)≤0:=by omega
     have v:X.toList.isEmpty=false:=by rw[i.out];exact Cj (fun e=>by cases e)
     have A:((x.toNat:Int)==63)=false:=Zt (n:=63) (by decide) h63;have P:((x.toNat:Int)==35)=false:=Zt (n:=35) (by decide) h35
    have HO:Hid (qE m R={m with u:={m.u with txt:=V++E}}):=by
     show _=_;rw[C.out,if_neg (by simp)];first|rw[if_neg (fun y=>h y.1)]|rw[if_neg (fun y=>absurd y.2 (by decide))]|rw[if_neg (fun y=>by have:=y.2;simp[h63,h35]at this)]
    clear h;go_wp2_with fail
    refine(qG HM2 (j+1)).mono ?_;rintro e3 w3 ⟨rfl,f⟩;rw[HX.out];have d:=hid (HM2.below f);clear f;clear c1;go_wp2_with fail
    clear B;try clear v
    try clear A P J sH I H
    try generalize ((c.toNat:Int)==32)=g32
    try generalize X.toList.isEmpty=gx
    try generalize ((x.toNat:Int)==63)=g63
    try generalize ((x.toNat:Int)==35)=g35
    refine aV (by kernel_rfl) 14 [pg k.g 0,pg k.g 0,pg k.g 0,pg k.g 4,pg k.g 11,is (.string (ah V)),is (.int .u8 (c.toNat:Int)),row 1 (aQ [c]),is (.string (ah [c])),is (.string (ah E)),is (.string (ah (V++E))),pg k.g 0,pg k.g 4,pg k.g 11] [[],[],[1],[1,2],[1,2,3],[1,2,3,4],[],[6],[6,7],[6,7,8],[1,2,3,4,5,6,7,8,9],[0],[0,11],[0,11,12],[0,1,2,3,4,5,6,7,8,9,10,11,12,13]] (by kernel_rfl) ?_ ?_
    ·refine ⟨?_,?_,?_,?_,?_,?_,?_,?_,?_,?_,?_,?_,?_,?_,trivial⟩;all_goals(intro t G z hh K a;simp only[iD,oP,Act.put,Nat.reduceAdd,Nat.reduceEqDiff,reduceIte]at hh a⊢)
     iterate 5
      ·try simp only[hh]at a⊢
       clear hh;go_simp;exact a _ _ aT rfl
     ·try simp only[hh]at a⊢
      clear hh;have s:=(d.below z).x11;rw[HV.out]at s;go_simp;exact a _ _ aT rfl
     ·try simp only[hh]at a⊢
      clear hh;go_simp;exact a _ _ aT rfl
     ·try simp only[hh]at a⊢
      clear hh;go_simp;exact a _ _ ((Below.refl _ _).alloc (Nat.le_refl _) _) ⟨_,_,rfl,Nat.le_refl _,by decide,iP G [c] 5 (0,0)⟩
     ·have e7:=hh.2.1;clear hh;obtain⟨A7,c7,e7,b0,a8,a1⟩:=e7;simp only[e7]at a⊢;have hs:=bI 50 9 5 underlying50 underlying5 underlying9 _ c7 a1;go_simp;exact a _ _ aT rfl
     ·try simp only[hh]at a⊢
      clear hh;go_simp;refine(AY.ig 0 (ah [c]) _ (by rw[ak];exact(by decide:(1:Nat)≤1073741824)) (fun c w=>a7.inn _ c w)).mono ?_;rintro e w5 ⟨rfl,a2⟩;rw[show aG.enc 0 (ah [c]).data.toList=E from a6.out];exact a _ _ a2 rfl
     ·try simp only[hh]at a⊢
      clear hh;have O:(Op.stringOp .add (ah V) (ah E)).run prog G=.ok (.string (ah (V++E))) G:=bH _ _ G (by have:=Q.out;have:=a5.out;simp;omega);go_simp;exact a _ _ aT rfl
     iterate 3
      ·try simp only[hh]at a⊢
       clear hh;go_simp;exact a _ _ aT rfl
    ·intro t G z hh;have r:=aO hh 10 (by decide);simp only[pick]at r;replace r:t 10=(.string (ah (V++E))):=r;have l:=aO hh 13 (by decide);simp only[pick]at l;replace l:t 13=(.pointer (some ⟨k.g,11,none⟩)):=l;clear hh;simp only[iD,oP,Act.put,Nat.reduceAdd,Nat.reduceEqDiff,reduceIte];simp only[r,l];have F:=hid (d.below z);have W:=hid (F.WS (V++E));have a0:=F.thaw 11;have s:=F.x11;go_wp2;first|go_end0|((try simp only[Exit.inBlock,Exit.then]);refine eX rfl rfl ?_)
     first|exact⟨rfl,by rw[HO.out];exact W,trivial⟩|exact⟨rfl,by rw[HO.out];exact W⟩
  have B:((c.toNat:Int)==32)=true:=Zr (n:=32) (by decide) h;obtain⟨sH,J⟩:∃h:0<X.size,X[0]=x:=by have:=i;subst this;exact⟨by rw[ak];exact Nat.succ_pos _,rfl⟩
  have I:(0:Int)<(X.size:Int):=by omega
  have H:¬(X.size:Int)≤0:=by omega
  have v:X.toList.isEmpty=false:=by rw[i.out];exact Cj (fun e=>by cases e)
  have HO:Hid (qE m R={m with u:={m.u with txt:=V++[37,50,48]}}):=by
   show _=_;rw[C.out,if_neg (by simp),if_pos ⟨h,by rcases h6 with rfl|⟨_,rfl⟩<;>rfl⟩]
  clear h;rcases h6 with h63|⟨h63,h35⟩
  all_goals
   first|have A:((x.toNat:Int)==63)=true:=Zr (n:=63) (by decide) h63|have A:((x.toNat:Int)==63)=false:=Zt (n:=63) (by decide) h63
   try have P:((x.toNat:Int)==35)=true:=Zr (n:=35) (by decide) h35
   clear h63;try clear h35
   go_wp2_with fail
   refine(qG HM2 (j+1)).mono ?_;rintro e3 w3 ⟨rfl,f⟩;rw[HX.out];have d:=hid (HM2.below f);clear f;clear c1;have O:∀w:World,(Op.stringOp .add (ah V) ({data:=#[37,50,48]}:ByteArray)).run prog w=.ok (.string (ah (V++[37,50,48]))) w:=fun w=>bH _ _ w (by have:=Q.out;simp;omega);have s:=d.x11;have a0:=d.thaw 11;rw[HV.out]at s;have a3:=hid (d.WS (V++[37,50,48]));go_wp2;first|go_end0|((try simp only[Exit.inBlock,Exit.then]);refine eX rfl rfl ?_)
   exact⟨rfl,by rw[HO.out];exact a3,trivial⟩
 go_wp2_with fail
 refine jv (mW HM2 HP HR a4 HJ) fun w3 d=>?_;go_wp2;first|go_end0|((try simp only[Exit.inBlock,Exit.then]);refine eX rfl rfl ?_)
 exact⟨rfl,by rw[C.out,if_pos (by simp)];exact d,trivial⟩
end Xb
namespace Tq
open Go.RowKit Base eH aJ jw jW fG vT yc
variable {k:K} {m:M} {q:Value} {w:World} {j:Nat} {R:List UInt8}
def JE (m:M) (b:U) (x0 x1 x2 x3 x4:Bool):M:={m with u:={m.u with bY:=if x0=true then b.bY else m.u.bY,bZ:=if x1=true then b.bZ else m.u.bZ,hh:=if x2=true then b.hh else m.u.hh,aU:=if x3=true then b.aU else m.u.aU,port:=if x4=true then b.port else m.u.port}}
def JF (k:K) (m:M) (q:Value) (L:Nat→Bool) (_:Nat→Value) (w:World):Prop:=MX k (JE m k.b (L 33) (L 37) (L 41) (L 45) (L 49)) q w
section
variable {L:Nat→Bool} {t:Nat→Value} {v:Value}
theorem OM (i:Nat) (hi:(i==33||i==37||i==41||i==45||i==49)=false) {w':World} (c:Below w.heap.size w w') (a:JF k m q L t w):JF k m q (did L i) (upd t i v) w':=by
 simp only[Bool.or_eq_false_iff,beq_eq_false_iff_ne]at hi;obtain⟨⟨⟨⟨h,g⟩,f⟩,e⟩,d⟩:=hi;have a:MX k (JE m k.b (L 33) (L 37) (L 41) (L 45) (L 49)) q w:=a;unfold JF;rw[aK L (Ne.symm h),aK L (Ne.symm g),aK L (Ne.symm f),aK L (Ne.symm e),aK L (Ne.symm d)];exact a.below c
theorem adX (a:JF k m q L t w):JF k m q (did L 33) (upd t 33 v) (w.setCell ⟨k.g,5,none⟩ (.string (ah k.b.bY))):=by
 have a:MX k (JE m k.b (L 33) (L 37) (L 41) (L 45) (L 49)) q w:=a;unfold JF;rw[dJ,aK L (i:=33) (k:=37) (by decide),aK L (i:=33) (k:=41) (by decide),aK L (i:=33) (k:=45) (by decide),aK L (i:=33) (k:=49) (by decide)];exact a.ZV k.b.bY
theorem adY (a:JF k m q L t w):JF k m q (did L 37) (upd t 37 v) (w.setCell ⟨k.g,6,none⟩ (.string (ah k.b.bZ))):=by
 have a:MX k (JE m k.b (L 33) (L 37) (L 41) (L 45) (L 49)) q w:=a;unfold JF;rw[aK L (i:=37) (k:=33) (by decide),dJ,aK L (i:=37) (k:=41) (by decide),aK L (i:=37) (k:=45) (by decide),aK L (i:=37) (k:=49) (by decide)];exact a.ZU k.b.bZ
theorem adZ (a:JF k m q L t w):JF k m q (did L 41) (upd t 41 v) (w.setCell ⟨k.g,8,none⟩ (.bool k.b.hh)):=by
 have a:MX k (JE m k.b (L 33) (L 37) (L 41) (L 45) (L 49)) q w:=a;unfold JF;rw[aK L (i:=41) (k:=33) (by decide),aK L (i:=41) (k:=37) (by decide),dJ,aK L (i:=41) (k:=45) (by decide),aK L (i:=41) (k:=49) (by decide)];exact a.SS k.b.hh
theorem ad1 (a:JF k m q L t w):JF k m q (did L 45) (upd t 45 v) (w.setCell ⟨k.g,7,none⟩ (.string (ah k.b.aU))):=by
 have a:MX k (JE m k.b (L 33) (L 37) (L 41) (L 45) (L 49)) q w:=a;unfold JF;rw[aK L (i:=45) (k:=33) (by decide),aK L (i:=45) (k:=37) (by decide),aK L (i:=45) (k:=41) (by decide),dJ,aK L (i:=45) (k:=49) (by decide)];exact a.rG k.b.aU
theorem ad2 (a:JF k m q L t w):JF k m q (did L 49) (upd t 49 v) (w.setCell ⟨k.g,9,none⟩ (.int .i64 k.b.port)):=by
 have a:MX k (JE m k.b (L 33) (L 37) (L 41) (L 45) (L 49)) q w:=a;unfold JF;rw[aK L (i:=49) (k:=33) (by decide),aK L (i:=49) (k:=37) (by decide),aK L (i:=49) (k:=41) (by decide),aK L (i:=49) (k:=45) (by decide),dJ];exact a.Jz k.b.port
end
theorem JG (h:MX k m q w):Calls prog 51 #[.pointer (some ⟨k.g,0,none⟩)] w fun e w'=>e=.returned (.tuple #[])∧MX k (lI k.b m) q w'∧True:=by
 have n:=hid h;clear h;go_enter func51,ntmps51;go_wp2_with fail
 refine iE (by kernel_rfl) (JF k m q) [pg k.g 0,pg k.g 0,pg k.g 0,pg k.g 0,pg k.g 0,pg k.g 0,pg k.g 0,pg k.g 17,pg k.g 18,is (.string (ah k.b.bY)),pg k.g 0,pg k.g 0,pg k.g 17,pg k.g 19,is (.string (ah k.b.bZ)),pg k.g 0,pg k.g 0,pg k.g 17,pg k.g 21,is (.bool k.b.hh),pg k.g 0,pg k.g 0,pg k.g 17,pg k.g 20,is (.string (ah k.b.aU)),pg k.g 0,pg k.g 0,pg k.g 17,pg k.g 22,is (.int .i64 k.b.port),pg k.g 0,pg k.g 4,pg k.g 5,any,pg k.g 0,pg k.g 4,pg k.g 6,any,pg k.g 0,pg k.g 4,pg k.g 8,any,pg k.g 0,pg k.g 4,pg k.g 7,any,pg k.g 0,pg k.g 4,pg k.g 9,any] [[],[],[],[],[],[],[5],[6],[7],[8],[],[10],[11],[12],[13],[],[15],[16],[17],[18],[],[20],[21],[22],[23],[],[25],[26],[27],[28],[0],[30],[31],[9,32],[1],[34],[35],[14,36],[2],[38],[39],[19,40],[3],[42],[43],[24,44],[4],[46],[47],[29,48]] (by kernel_rfl) (by repeat (first|exact oG|refine qQ _ ?_|refine oD ?_)) ?_ ?_ ?_
 ·exact fun t=>(show MX k (JE m k.b false false false false false) q _ from(n).out.below ⟨rfl,rfl,rfl,Nat.le_refl _,fun _ _=>rfl⟩)
 ·refine ⟨?_,?_,?_,?_,?_,?_,?_,?_,?_,?_,?_,?_,?_,?_,?_,?_,?_,?_,?_,?_,?_,?_,?_,?_,?_,?_,?_,?_,?_,?_,?_,?_,?_,?_,?_,?_,?_,?_,?_,?_,?_,?_,?_,?_,?_,?_,?_,?_,?_,?_,trivial⟩;all_goals(intro L t i a F G E hh K d;simp only[iD,Act.put,Nat.reduceAdd,Nat.reduceEqDiff,reduceIte]at hh d⊢;(try simp only[hh]at d⊢);clear hh)
  iterate 9
   ·go_simp;exact d _ _ rfl (OM _ (by decide) aT a)
  ·have c:MX k (JE m k.b (L 33) (L 37) (L 41) (L 45) (L 49)) q i:=a;have y:=c.x18;go_simp;exact d _ _ rfl (OM 9 (by decide) aT a)
  iterate 4
   ·go_simp;exact d _ _ rfl (OM _ (by decide) aT a)
  ·have c:MX k (JE m k.b (L 33) (L 37) (L 41) (L 45) (L 49)) q i:=a;have x:=c.x19;go_simp;exact d _ _ rfl (OM 14 (by decide) aT a)
  iterate 4
   ·go_simp;exact d _ _ rfl (OM _ (by decide) aT a)
  ·have c:MX k (JE m k.b (L 33) (L 37) (L 41) (L 45) (L 49)) q i:=a;have s:=c.x21;go_simp;exact d _ _ rfl (OM 19 (by decide) aT a)
  iterate 4
   ·go_simp;exact d _ _ rfl (OM _ (by decide) aT a)
  ·have c:MX k (JE m k.b (L 33) (L 37) (L 41) (L 45) (L 49)) q i:=a;have v:=c.x20;go_simp;exact d _ _ rfl (OM 24 (by decide) aT a)
  iterate 4
   ·go_simp;exact d _ _ rfl (OM _ (by decide) aT a)
  ·have c:MX k (JE m k.b (L 33) (L 37) (L 41) (L 45) (L 49)) q i:=a;have r:=c.x22;go_simp;exact d _ _ rfl (OM 29 (by decide) aT a)
  iterate 3
   ·go_simp;exact d _ _ rfl (OM _ (by decide) aT a)
  ·have c:MX k (JE m k.b (L 33) (L 37) (L 41) (L 45) (L 49)) q i:=a;have O:=c.x5;have D:=c.thaw 5;go_simp;exact d undef _ trivial (adX a)
  iterate 3
   ·go_simp;exact d _ _ rfl (OM _ (by decide) aT a)
  ·have c:MX k (JE m k.b (L 33) (L 37) (L 41) (L 45) (L 49)) q i:=a;have N:=c.x6;have C:=c.thaw 6;go_simp;exact d undef _ trivial (adY a)
  iterate 3
   ·go_simp;exact d _ _ rfl (OM _ (by decide) aT a)
  ·have c:MX k (JE m k.b (L 33) (L 37) (L 41) (L 45) (L 49)) q i:=a;have I:=c.x8;have A:=c.thaw 8;go_simp;exact d undef _ trivial (adZ a)
  iterate 3
   ·go_simp;exact d _ _ rfl (OM _ (by decide) aT a)
  ·have c:MX k (JE m k.b (L 33) (L 37) (L 41) (L 45) (L 49)) q i:=a;have J:=c.x7;have B:=c.thaw 7;go_simp;exact d undef _ trivial (ad1 a)
  iterate 3
   ·go_simp;exact d _ _ rfl (OM _ (by decide) aT a)
  have c:MX k (JE m k.b (L 33) (L 37) (L 41) (L 45) (L 49)) q i:=a;have H:=c.x9;have z:=c.thaw 9;go_simp;exact d undef _ trivial (ad2 a)
 intro j t i a f hh;clear hh;simp only[iD,Act.put,Nat.reduceAdd,Nat.reduceEqDiff,reduceIte];have c:MX k (JE m k.b (j 33) (j 37) (j 41) (j 45) (j 49)) q i:=a;rw[f 33 (by decide),f 37 (by decide),f 41 (by decide),f 45 (by decide),f 49 (by decide)]at c;have l:=hid c;clear c a f;go_wp2
 go_end0
 first|exact⟨rfl,l,trivial⟩|exact⟨rfl,l⟩
def JI (m:M) (b:U) (x0 x1 x2 x3 x4:Bool):M:={m with u:={m.u with au:=if x0=true then b.au else m.u.au,dK:=if x1=true then true else m.u.dK,txt:=if x2=true then b.txt else m.u.txt,hq:=if x3=true then b.hq else m.u.hq,bT:=if x4=true then b.bT else m.u.bT}}
def I4 (k:K) (m:M) (q:Value) (L:Nat→Bool) (_:Nat→Value) (w:World):Prop:=MX k (JI m k.b (L 28) (L 32) (L 36) (L 40) (L 44)) q w
section
variable {L:Nat→Bool} {t:Nat→Value} {v:Value}
theorem Rz (i:Nat) (hi:(i==28||i==32||i==36||i==40||i==44)=false) {w':World} (c:Below w.heap.size w w') (a:I4 k m q L t w):I4 k m q (did L i) (upd t i v) w':=by
 simp only[Bool.or_eq_false_iff,beq_eq_false_iff_ne]at hi;obtain⟨⟨⟨⟨h,g⟩,f⟩,e⟩,d⟩:=hi;have a:MX k (JI m k.b (L 28) (L 32) (L 36) (L 40) (L 44)) q w:=a;unfold I4;rw[aK L (Ne.symm h),aK L (Ne.symm g),aK L (Ne.symm f),aK L (Ne.symm e),aK L (Ne.symm d)];exact a.below c
theorem adx (a:I4 k m q L t w):I4 k m q (did L 28) (upd t 28 v) (w.setCell ⟨k.g,4,none⟩ (.string (ah k.b.au))):=by
 have a:MX k (JI m k.b (L 28) (L 32) (L 36) (L 40) (L 44)) q w:=a;unfold I4;rw[dJ,aK L (i:=28) (k:=32) (by decide),aK L (i:=28) (k:=36) (by decide),aK L (i:=28) (k:=40) (by decide),aK L (i:=28) (k:=44) (by decide)];exact a.AP k.b.au
theorem ady (a:I4 k m q L t w):I4 k m q (did L 32) (upd t 32 v) (w.setCell ⟨k.g,10,none⟩ (.bool true)):=by
 have a:MX k (JI m k.b (L 28) (L 32) (L 36) (L 40) (L 44)) q w:=a;unfold I4;rw[aK L (i:=32) (k:=28) (by decide),dJ,aK L (i:=32) (k:=36) (by decide),aK L (i:=32) (k:=40) (by decide),aK L (i:=32) (k:=44) (by decide)];exact a.WR true
theorem adz (a:I4 k m q L t w):I4 k m q (did L 36) (upd t 36 v) (w.setCell ⟨k.g,11,none⟩ (.string (ah k.b.txt))):=by
 have a:MX k (JI m k.b (L 28) (L 32) (L 36) (L 40) (L 44)) q w:=a;unfold I4;rw[aK L (i:=36) (k:=28) (by decide),aK L (i:=36) (k:=32) (by decide),dJ,aK L (i:=36) (k:=40) (by decide),aK L (i:=36) (k:=44) (by decide)];exact a.WS k.b.txt
theorem adA (a:I4 k m q L t w):I4 k m q (did L 40) (upd t 40 v) (w.setCell ⟨k.g,13,none⟩ (.bool k.b.hq)):=by
 have a:MX k (JI m k.b (L 28) (L 32) (L 36) (L 40) (L 44)) q w:=a;unfold I4;rw[aK L (i:=40) (k:=28) (by decide),aK L (i:=40) (k:=32) (by decide),aK L (i:=40) (k:=36) (by decide),dJ,aK L (i:=40) (k:=44) (by decide)];exact a.MJ k.b.hq
theorem adB (a:I4 k m q L t w):I4 k m q (did L 44) (upd t 44 v) (w.setCell ⟨k.g,15,none⟩ (.string (ah k.b.bT))):=by
 have a:MX k (JI m k.b (L 28) (L 32) (L 36) (L 40) (L 44)) q w:=a;unfold I4;rw[aK L (i:=44) (k:=28) (by decide),aK L (i:=44) (k:=32) (by decide),aK L (i:=44) (k:=36) (by decide),aK L (i:=44) (k:=40) (by decide),dJ];exact a.vI k.b.bT
end
theorem RX (hh:k.has=false):wR k.base m R=fail m:=by
 unfold K.has at hh;cases h:k.base with
 |none=>rfl
 |some b=>rw[h]at hh;cases hh
theorem tu (hh:k.has=true):wR k.base m R=if k.b.dK=true∧(R=[]∨cc R≠35)then fail m else if k.b.dK=true then tail {m with u:={m.u with au:=k.b.au,dK:=true,txt:=k.b.txt,hq:=k.b.hq,bT:=k.b.bT}} R else if k.b.au≠ay then mv m 5 true else mv m 11 true:=by
 unfold K.has at hh;unfold K.b;cases h:k.base with
 |none=>rw[h]at hh;cases hh
 |some b=>rfl
theorem N8 (h:MX k m q w) (I:m.p=(j:Int)) (O:k.T.drop j=R) (J:k.T.length≤4611686018427387904) (N:j≤k.T.length):Calls prog 45 #[.pointer (some ⟨k.g,0,none⟩)] w fun e w'=>e=.returned (.tuple #[])∧MX k (wR k.base m R) q w'∧True:=by
 have a:=hid h;have X:=hid I;have W:=hid O;have HZ:Hid (-4611686018427387904≤m.p∧m.p≤4611686018427387904):=⟨by omega,by omega⟩;have a5:=hid J;have HJ:=hid N;obtain⟨bh,hh⟩:∃x,k.has=x:=⟨_,rfl⟩;have H:=hid hh;obtain⟨bo,l⟩:∃x,k.b.dK=x:=⟨_,rfl⟩;have A:=hid l;obtain⟨v,E⟩:∃v,(cc R).toNat=v:=⟨_,rfl⟩;have HV:=hid E;obtain⟨S,F⟩:∃S,k.b.au=S:=⟨_,rfl⟩;have a0:=hid F;rcases bh with _|_
 ·have C:Hid (wR k.base m R=fail m):=RX hh;clear hh l E F;clear h I O J N;go_enter func45,ntmps45;have c:=a.x30;rw[H.out]at c;have c2:=a.x2;have z2:=a.thaw 2;have d:=hid (a.st 19);go_wp2
  go_end0
  exact⟨rfl,by rw[C.out];exact d,trivial⟩
 rcases bo with _|_
 ·by_cases hf:S=ay
  ·have D:Hid (((ah S).toList==[102,105,108,101])=true):=by show _=_;rw[mg.dZ];exact decide_eq_true hf
   have P:Hid (((ah S).toList !=[102,105,108,101])=false):=by show _=_;rw[bne,D.out];rfl
   have C:Hid (wR k.base m R=mv m 11 true):=by
    show _=_;rw[tu hh,if_neg (fun x=>by rw[l]at x;exact absurd x.1 (by decide)),if_neg (by rw[l];decide),if_neg (fun x=>x (F.trans hf))]
   clear hh l E F hf;clear h I O J N;go_enter func45,ntmps45;have c:=a.x30;rw[H.out]at c;have f:=a.x23;rw[A.out]at f;have G:=a.x17;rw[a0.out]at G;have a2:=D.out;have a1:=P.out;go_wp2_with fail
   refine jv (iq a HZ 11 true) fun w2 d=>?_;go_wp2
   go_end0
   exact⟨rfl,by rw[C.out];exact d,trivial⟩
  have D:Hid (((ah S).toList==[102,105,108,101])=false):=by show _=_;rw[mg.dZ];exact decide_eq_false hf
  have P:Hid (((ah S).toList !=[102,105,108,101])=true):=by show _=_;rw[bne,D.out];rfl
  have C:Hid (wR k.base m R=mv m 5 true):=by
   show _=_;rw[tu hh,if_neg (fun x=>by rw[l]at x;exact absurd x.1 (by decide)),if_neg (by rw[l];decide),if_pos (fun x=>hf (F.symm.trans x))]
  clear hh l E F hf;clear h I O J N;go_enter func45,ntmps45;have c:=a.x30;rw[H.out]at c;have f:=a.x23;rw[A.out]at f;have G:=a.x17;rw[a0.out]at G;have a2:=D.out;have a1:=P.out;go_wp2_with fail
  refine jv (iq a HZ 5 true) fun w2 d=>?_;go_wp2
  go_end0
  exact⟨rfl,by rw[C.out];exact d,trivial⟩
 obtain⟨b,V⟩:∃b,decide (R=[])=b:=⟨_,rfl⟩;have HB:=hid V;rcases b with _|_
 ·by_cases h35:v=35
  ·have Q:Hid (((v:Int) !=35)=false):=by subst h35;rfl
   have C:Hid (wR k.base m R=tail {m with u:={m.u with au:=k.b.au,dK:=true,txt:=k.b.txt,hq:=k.b.hq,bT:=k.b.bT}} R):=by
    show _=_;rw[tu hh,if_neg (fun x=>by rcases x.2 with y|y;exact absurd y (of_decide_eq_false V);exact y (UInt8.toNat_inj.1 (E.trans h35))),if_pos l]
   clear hh l E F V h35;clear h I O J N;go_enter func45,ntmps45;have c:=a.x30;rw[H.out]at c;have f:=a.x23;rw[A.out]at f;go_wp2_with fail
   refine dO a (lu a X W HB) fun w2 d=>?_;clear c;have c:=d.x30;clear f;have f:=d.x23;rw[H.out]at c;rw[A.out]at f;go_wp2_with fail
   refine dO d (yL d X W HV) fun w3 z=>?_;clear c;have c:=z.x30;clear f;have f:=z.x23;rw[H.out]at c;rw[A.out]at f;have Y:=Q.out;go_wp2_with fail
   clear Y;try generalize ((v:Int) !=35)=g35
   clear f c;refine iE (by kernel_rfl) (I4 k m q) [pg k.g 0,pg k.g 0,pg k.g 0,pg k.g 0,pg k.g 0,pg k.g 0,pg k.g 0,pg k.g 17,pg k.g 17,is (.string (ah k.b.au)),pg k.g 0,pg k.g 0,pg k.g 17,pg k.g 24,is (.string (ah k.b.txt)),pg k.g 0,pg k.g 0,pg k.g 17,pg k.g 26,is (.bool k.b.hq),pg k.g 0,pg k.g 0,pg k.g 17,pg k.g 28,is (.string (ah k.b.bT)),pg k.g 0,pg k.g 4,pg k.g 4,any,pg k.g 0,pg k.g 4,pg k.g 10,any,pg k.g 0,pg k.g 4,pg k.g 11,any,pg k.g 0,pg k.g 4,pg k.g 13,any,pg k.g 0,pg k.g 4,pg k.g 15,any] [[],[],[],[],[],[],[5],[6],[7],[8],[],[10],[11],[12],[13],[],[15],[16],[17],[18],[],[20],[21],[22],[23],[0],[25],[26],[9,27],[1],[29],[30],[31],[2],[33],[34],[14,35],[3],[37],[38],[19,39],[4],[41],[42],[24,43]] (by kernel_rfl) (by repeat (first|exact oG|refine qQ _ ?_|refine oD ?_)) ?_ ?_ ?_
   ·exact fun t=>(show MX k (JI m k.b false false false false false) q _ from(z).out.below ⟨rfl,rfl,rfl,Nat.le_refl _,fun _ _=>rfl⟩)
   ·refine ⟨?_,?_,?_,?_,?_,?_,?_,?_,?_,?_,?_,?_,?_,?_,?_,?_,?_,?_,?_,?_,?_,?_,?_,?_,?_,?_,?_,?_,?_,?_,?_,?_,?_,?_,?_,?_,?_,?_,?_,?_,?_,?_,?_,?_,?_,trivial⟩;all_goals(intro L t B i hL hC hN hh K s;simp only[iD,Act.put,Nat.reduceAdd,Nat.reduceEqDiff,reduceIte]at hh s⊢;(try simp only[hh]at s⊢);clear hh)
    iterate 9
     ·go_simp;exact s _ _ rfl (Rz _ (by decide) aT i)
    ·have n:MX k (JI m k.b (L 28) (L 32) (L 36) (L 40) (L 44)) q B:=i;have G:=n.x17;go_simp;exact s _ _ rfl (Rz 9 (by decide) aT i)
    iterate 4
     ·go_simp;exact s _ _ rfl (Rz _ (by decide) aT i)
    ·have n:MX k (JI m k.b (L 28) (L 32) (L 36) (L 40) (L 44)) q B:=i;have b5:=n.x24;go_simp;exact s _ _ rfl (Rz 14 (by decide) aT i)
    iterate 4
     ·go_simp;exact s _ _ rfl (Rz _ (by decide) aT i)
    ·have n:MX k (JI m k.b (L 28) (L 32) (L 36) (L 40) (L 44)) q B:=i;have b3:=n.x26;go_simp;exact s _ _ rfl (Rz 19 (by decide) aT i)
    iterate 4
     ·go_simp;exact s _ _ rfl (Rz _ (by decide) aT i)
    ·have n:MX k (JI m k.b (L 28) (L 32) (L 36) (L 40) (L 44)) q B:=i;have b0:=n.x28;go_simp;exact s _ _ rfl (Rz 24 (by decide) aT i)
    iterate 3
     ·go_simp;exact s _ _ rfl (Rz _ (by decide) aT i)
    ·have n:MX k (JI m k.b (L 28) (L 32) (L 36) (L 40) (L 44)) q B:=i;have c4:=n.x4;have z4:=n.thaw 4;go_simp;exact s undef _ trivial (adx i)
    iterate 3
     ·go_simp;exact s _ _ rfl (Rz _ (by decide) aT i)
    ·have n:MX k (JI m k.b (L 28) (L 32) (L 36) (L 40) (L 44)) q B:=i;have b9:=n.x10;have a9:=n.thaw 10;go_simp;exact s undef _ trivial (ady i)
    iterate 3
     ·go_simp;exact s _ _ rfl (Rz _ (by decide) aT i)
    ·have n:MX k (JI m k.b (L 28) (L 32) (L 36) (L 40) (L 44)) q B:=i;have b8:=n.x11;have a8:=n.thaw 11;go_simp;exact s undef _ trivial (adz i)
    iterate 3
     ·go_simp;exact s _ _ rfl (Rz _ (by decide) aT i)
    ·have n:MX k (JI m k.b (L 28) (L 32) (L 36) (L 40) (L 44)) q B:=i;have b7:=n.ZX;have a7:=n.thaw 13;go_simp;exact s undef _ trivial (adA i)
    iterate 3
     ·go_simp;exact s _ _ rfl (Rz _ (by decide) aT i)
    have n:MX k (JI m k.b (L 28) (L 32) (L 36) (L 40) (L 44)) q B:=i;have b6:=n.x15;have a6:=n.thaw 15;go_simp;exact s undef _ trivial (adB i)
   intro Z t B i r hh;clear hh;simp only[iD,Act.put,Nat.reduceAdd,Nat.reduceEqDiff,reduceIte];have n:MX k (JI m k.b (Z 28) (Z 32) (Z 36) (Z 40) (Z 44)) q B:=i;rw[r 28 (by decide),r 32 (by decide),r 36 (by decide),r 40 (by decide),r 44 (by decide)]at n;have a3:=hid n;clear n i r;go_wp2_with fail
   refine jv (mW a3 X W a5 HJ) fun w21 HM21=>?_;go_wp2
   go_end0
   exact⟨rfl,by rw[C.out];exact HM21,trivial⟩
  have Q:Hid (((v:Int) !=35)=true):=by show _=_;exact bne_iff_ne.2 (fun x=>h35 (by omega))
  have C:Hid (wR k.base m R=fail m):=by
   show _=_;rw[tu hh,if_pos ⟨l,.inr (fun x=>h35 (by rw[←E,x];rfl))⟩]
  clear hh l E F V h35;clear h I O J N;go_enter func45,ntmps45;have c:=a.x30;rw[H.out]at c;have f:=a.x23;rw[A.out]at f;go_wp2_with fail
  refine dO a (lu a X W HB) fun w2 d=>?_;go_wp2_with fail
  refine dO d (yL d X W HV) fun w3 z=>?_;have Y:=Q.out;have c2:=z.x2;have z2:=z.thaw 2;have a4:=hid (z.st 19);go_wp2
  go_end0
  exact⟨rfl,by rw[C.out];exact a4,trivial⟩
 skip
 have C:Hid (wR k.base m R=fail m):=by
  show _=_;rw[tu hh,if_pos ⟨l,.inl (of_decide_eq_true V)⟩]
 clear hh l E F V;clear h I O J N;go_enter func45,ntmps45;have c:=a.x30;rw[H.out]at c;have f:=a.x23;rw[A.out]at f;go_wp2_with fail
 refine dO a (lu a X W HB) fun w2 d=>?_;have c2:=d.x2;have z2:=d.thaw 2;have z:=hid (d.st 19);go_wp2
 go_end0
 exact⟨rfl,by rw[C.out];exact z,trivial⟩
end Tq
