/- Lemmas. -/
import Derived.Test.YtgockiomacchoaaGreatDoorPRBAS
set_option linter.unusedSimpArgs false
set_option linter.unusedVariables false
set_option maxRecDepth 100000
set_option maxHeartbeats 64000000
namespace Go.Proofs.YtgockiomacchoaaGreatDoor
open Tryz
namespace Z4
open Go.RowKit Base bf eH dI gB aJ gK jW fG vT yc yF Df
variable {k:K} {m:M} {q:Value} {w:World} {j:Nat} {R:List UInt8}
theorem J9 {c:UInt8} (n:Nat) (h:n<256) {d:Bool} (e:decide (c=UInt8.ofNat n)=d):Hid (((c.toNat:Int)==(n:Int))=d):=by
 subst e;show _=_;by_cases g:c=UInt8.ofNat n
 ·rw[Zr h g,decide_eq_true g]
 rw[Zt h g,decide_eq_false g]
theorem adb (a b c d e:Bool):(a=true∨(a=false∧b=true)∨(a=false∧b=false∧c=true)∨(a=false∧b=false∧c=false∧d=true)∨(a=false∧b=false∧c=false∧d=false∧e=true))∨(a=false∧b=false∧c=false∧d=false∧e=false):=by
 revert a b c d e;decide
theorem aaq (S:List UInt8):(k.base.elim false fun b=>decide (b.au=S))=(k.has&&decide (k.b.au=S)):=by
 unfold K.has K.b;cases k.base<;>rfl
theorem V6 (dp : Dp) (h : MX k m q w) (hz : m.p = (j : Int)) (hR : k.T.drop j = R) (hl : k.T.length ≤ 4611686018427387904) (hj : j ≤ k.T.length) (c5 : j + 1 ≤ 4611686018427387904) (c8 : m.buf.length ≤ 900000) : Calls prog 44 #[.pointer (some ⟨k.g, 0, none⟩), .int .u8 ((cc R).toNat : Int)] w fun e w' => e = .returned (.tuple #[]) ∧ MX k (fB k.base m R) q w' ∧ True := by
 have d3:=hid h;have HP:=hid hz;have HR:=hid hR;have HZ:Hid (-4611686018427387904≤m.p∧m.p≤4611686018427387904):=⟨by omega,by omega⟩;obtain⟨B,hB⟩:∃B,m.buf=B:=⟨_,rfl⟩;have d5:=hid hB;have g0:Hid (B.length≤900000):=by show _≤_;rw[←hB];exact c8
 obtain⟨c,hc⟩:∃c,c=cc R:=⟨_,rfl⟩;rw[←hc];have a5:(j:Int)≤4611686018427387904:=by omega
 have f4:=hid a5;have d0:Hid (-4611686018427387904≤(j:Int)+1∧(j:Int)+1≤4611686018427387904):=⟨by omega,by omega⟩;clear a5;obtain⟨E,hE⟩:∃E,lower [c]=E:=⟨_,rfl⟩;have f6:=hid hE;have f5:Hid (E.length≤3):=by show _≤_;rw[←hE];exact(by decide:(1:Nat)≤3)
 obtain⟨b,hb⟩:∃b,decide (R=[])=b:=⟨_,rfl⟩;have HB:=hid hb;obtain⟨lt,a4⟩:∃x,letter (c.toNat:Int)=x:=⟨_,rfl⟩;have f3:=hid a4;obtain⟨dg,a6⟩:∃x,digit (c.toNat:Int)=x:=⟨_,rfl⟩;have d4:=hid a6;have c0:mZ (cc R)=(lt||(dg||(decide (c=43)||(decide (c=45)||decide (c=46))))):=by rw[←hc];unfold mZ;rw[a4,a6]
 obtain⟨N,a9⟩:∃x,decide (c=43)=x:=⟨_,rfl⟩;have d9:Hid (((c.toNat:Int)==43)=N):=J9 43 (by decide) a9;obtain⟨J,a8⟩:∃x,decide (c=45)=x:=⟨_,rfl⟩;have d8:Hid (((c.toNat:Int)==45)=J):=J9 45 (by decide) a8;obtain⟨I,a7⟩:∃x,decide (c=46)=x:=⟨_,rfl⟩;have d7:Hid (((c.toNat:Int)==46)=I):=J9 46 (by decide) a7;obtain⟨a0,Y⟩:∃x,decide (c=58)=x:=⟨_,rfl⟩;have d6:Hid (((c.toNat:Int)==58)=a0):=J9 58 (by decide) Y;have H:mZ (cc R)=(lt||(dg||(N||(J||I)))):=by rw[c0,a9,a8,a7]
 obtain⟨s,hs⟩:∃s,aj B=s:=⟨_,rfl⟩;have O:=hid hs;obtain⟨bh,hh⟩:∃x,k.has=x:=⟨_,rfl⟩;have HH:=hid hh;obtain⟨bs,rV⟩:∃x,k.b.au=x:=⟨_,rfl⟩;have f8:=hid rV;obtain⟨D,hD⟩:∃D,R.drop 1=D:=⟨_,rfl⟩;obtain⟨X,hX⟩:∃X,X=ah D:=⟨_,rfl⟩;have b7:=hid hX;have HX:Hid (ah (k.T.drop (j+1))=X):=by show _=_;rw[hX,←hD,←hR,List.drop_drop]
 have f1:Hid (b=false→(lt||(dg||(N||(J||I))))=true→fB k.base m R={m with buf:=B++E}):=by
  intro x y;subst x;unfold fB;rw[if_pos ⟨of_decide_eq_false hb,H.trans y⟩,hB,←hc,hE]
 have d1:Hid (b=true∨((lt||(dg||(N||(J||I))))=false∧a0=false)→fB k.base m R={m with buf:=[],p:= -1,st:=2}):=by
  intro x;unfold fB;rcases x with x|⟨x,y⟩
  ·rw[if_neg (fun z=>z.1 (of_decide_eq_true (hb.trans x))),if_pos (.inl (of_decide_eq_true (hb.trans x)))]
  rw[if_neg (fun z=>by rw[H,x]at z;exact absurd z.2 (by decide)),if_pos (.inr (fun z=>of_decide_eq_false (Y.trans y) (hc.trans z)))]
 have G:Hid (b=false→(lt||(dg||(N||(J||I))))=false→a0=true→fB k.base m R=if B=ay then mv {m with u:={m.u with au:=B},buf:=[]} 11 false else if s=true∧(bh&&decide (bs=B))=true then mv {m with u:={m.u with au:=B},buf:=[]} 3 false else if s=true then mv {m with u:={m.u with au:=B},buf:=[]} 7 false else if D.head?=some 47 then mv {({m with u:={m.u with au:=B},buf:=[]}:M)with p:=m.p+1} 4 false else mv {({m with u:={m.u with au:=B},buf:=[]}:M)with u:={({m with u:={m.u with au:=B},buf:=[]}:M).u with dK:=true}} 16 false):=by
  intro x y z;subst x;unfold fB;rw[if_neg (fun a=>by rw[H,y]at a;exact absurd a.2 (by decide)),if_neg (fun a=>by rcases a with a|a;exact of_decide_eq_false hb a;exact a (hc.symm.trans (of_decide_eq_true (Y.trans z))))];dsimp only;rw[hB,aaq,hh,rV,hs,hD]
 clear hB hc hb c8 dp a4 a6 c0 H hE c5 a9 a8 a7 Y hs hh rV hD hX;clear h hz hR hl hj;go_enter func44,ntmps44;go_wp2_with fail
 refine dO d3 (lu d3 HP HR HB) fun w2 HM2=>?_;rcases b with _|_
 ·go_wp2_with fail
  refine(jf.gZ (c.toNat:Int) _).mono ?_;rintro e7 w7 ⟨rfl,rfl⟩;rw[f3.out];rcases adb lt dg N J I with(rfl|⟨rfl,rfl⟩|⟨rfl,rfl,rfl⟩|⟨rfl,rfl,rfl,rfl⟩|⟨rfl,rfl,rfl,rfl,rfl⟩)|⟨rfl,rfl,rfl,rfl,rfl⟩
  iterate 5
   ·go_wp2_with fail
    try
     refine(jf.iG (c.toNat:Int) _).mono ?_;rintro e8 w8 ⟨rfl,rfl⟩;rw[d4.out];have b5:=d9.out;have b3:=d8.out;have b0:=d7.out;go_wp2_with fail
     clear b5 b3 b0
    try generalize ((c.toNat:Int)==43)=g43
    try generalize ((c.toNat:Int)==45)=g45
    try generalize ((c.toNat:Int)==46)=g46
    refine aV (by kernel_rfl) 12 [pg k.g 0,pg k.g 0,pg k.g 0,pg k.g 3,is (.string (ah B)),is (.int .u8 (c.toNat:Int)),row 1 (aQ [c]),is (.string (ah [c])),is (.string (ah E)),is (.string (ah (B++E))),pg k.g 0,pg k.g 3] [[],[],[1],[1,2],[1,2,3],[],[5],[5,6],[5,6,7],[1,2,3,4,5,6,7,8],[0],[0,10],[0,1,2,3,4,5,6,7,8,9,10,11]] (by kernel_rfl) ?_ ?_
    ·refine ⟨?_,?_,?_,?_,?_,?_,?_,?_,?_,?_,?_,?_,trivial⟩;all_goals(intro t P i hh K f;simp only[iD,oP,Act.put,Nat.reduceAdd,Nat.reduceEqDiff,reduceIte]at hh f⊢)
     iterate 4
      ·try simp only[hh]at f⊢
       clear hh;go_simp;exact f _ _ aT rfl
     ·try simp only[hh]at f⊢
      clear hh;have c3:=(HM2.below i).x3;rw[d5.out]at c3;go_simp;exact f _ _ aT rfl
     ·try simp only[hh]at f⊢
      clear hh;go_simp;exact f _ _ aT rfl
     ·try simp only[hh]at f⊢
      clear hh;go_simp;exact f _ _ ((Below.refl _ _).alloc (Nat.le_refl _) _) ⟨_,_,rfl,Nat.le_refl _,by decide,iP P [c] 5 (0,0)⟩
     ·have e6:=hh.2.1;clear hh;obtain⟨A6,c6,e6,g7,g6,e3⟩:=e6;simp only[e6]at f⊢;have hs:=bI 50 9 5 underlying50 underlying5 underlying9 _ c6 e3;go_simp;exact f _ _ aT rfl
     ·try simp only[hh]at f⊢
      clear hh;go_simp;refine(jf.jM (ah [c]) _ (by rw[ak];exact(by decide:(1:Nat)≤1073741824))).mono ?_;rintro e w5 ⟨rfl,F⟩;rw[show lower (ah [c]).data.toList=E from f6.out];exact f _ _ F rfl
     ·try simp only[hh]at f⊢
      clear hh;have g1:(Op.stringOp .add (ah B) (ah E)).run prog P=.ok (.string (ah (B++E))) P:=bH _ _ P (by have:=g0.out;have:=f5.out;simp;omega);go_simp;exact f _ _ aT rfl
     iterate 2
      ·try simp only[hh]at f⊢
       clear hh;go_simp;exact f _ _ aT rfl
    ·intro t P i hh;have f9:=aO hh 9 (by decide);simp only[pick]at f9;replace f9:t 9=(.string (ah (B++E))):=f9;have Z:=aO hh 11 (by decide);simp only[pick]at Z;replace Z:t 11=(.pointer (some ⟨k.g,3,none⟩)):=Z;clear hh;simp only[iD,oP,Act.put,Nat.reduceAdd,Nat.reduceEqDiff,reduceIte];simp only[f9,Z];have b8:=hid (HM2.below i);have f2:=hid (b8.buf (B++E));have z3:=b8.thaw 3;have c3:=b8.x3;go_wp2;first|go_end0|((try simp only[Exit.inBlock,Exit.then]);refine eX rfl rfl ?_)
     exact⟨rfl,by rw[f1.out (by simp) (by simp)];exact f2,trivial⟩
  go_wp2_with fail
  refine(jf.iG (c.toNat:Int) _).mono ?_;rintro e8 w8 ⟨rfl,rfl⟩;rw[d4.out];have b5:=d9.out;have b3:=d8.out;have b0:=d7.out;go_wp2_with fail
  refine dO HM2 (lu HM2 HP HR HB) fun w3 HM3=>?_;rcases a0 with _|_
  ·have c9:((c.toNat:Int) !=58)=true:=by rw[bne,d6.out];rfl
   have c3:=HM3.x3;have c1:=HM3.x1;have c2:=HM3.x2;have z3:=HM3.thaw 3;have z1:=HM3.thaw 1;have z2:=HM3.thaw 2;have W:=hid (HM3.buf []);have r:=hid (W.p (-1));have Q:=hid (r.st 2);go_wp2;first|go_end0|((try simp only[Exit.inBlock,Exit.then]);refine eX rfl rfl ?_)
   exact⟨rfl,by rw[d1.out (by simp)];exact Q,trivial⟩
  have c9:((c.toNat:Int) !=58)=false:=by rw[bne,d6.out];rfl
  have c3:=HM3.x3;have c4:=HM3.x4;have z3:=HM3.thaw 3;have z4:=HM3.thaw 4;rw[d5.out]at c3;have W:=hid (HM3.AP B);have r:=hid (W.buf []);by_cases hf:B=ay
  ·have c7:((ah B).toList==[102,105,108,101])=true:=by rw[mg.dZ];exact decide_eq_true hf
   have HF:=hid hf;clear hf;go_wp2_with fail
   refine jv (iq r HZ 11 false) fun w6 Q=>?_;go_wp2;first|go_end0|((try simp only[Exit.inBlock,Exit.then]);refine eX rfl rfl ?_)
   exact⟨rfl,by rw[G.out (by simp) (by simp) (by simp),if_pos HF.out];exact Q,trivial⟩
  have c7:((ah B).toList==[102,105,108,101])=false:=by rw[mg.dZ];exact decide_eq_false hf
  have HF:=hid hf;clear hf;go_wp2_with fail
  clear b5 b3 b0 c9 c7;try generalize ((c.toNat:Int) !=58)=g58
  try generalize ((c.toNat:Int)==43)=g43
  try generalize ((c.toNat:Int)==45)=g45
  try generalize ((c.toNat:Int)==46)=g46
  try generalize ((ah B).toList==[102,105,108,101])=gf
  clear c3 c4 z3 z4;rcases s with _|_
  ·skip
   refine dF (by kernel_rfl) [pg k.g 0,is (.bool false),is (.bool false),any,any,any,any,is (.bool false),is (.bool false),any,any,any,any,any,any,any,any,any,any,any,is (.bool false),is (.bool false)] [[],[0],[1],[2],[2,3],[2,4],[2,5],[2,6],[7],[8],[8,9],[8,10],[8,11],[8,12],[8],[8,14],[8,15],[8,16],[8,17],[8,13,18],[8,19],[20]] (by kernel_rfl) ?_ ?_
   ·refine⟨?_,?_,?_,?_,?_,?_,?_,?_,?_,?_,?_,?_,?_,?_,?_,?_,?_,?_,?_,?_,?_,?_,trivial⟩;all_goals(intro t P i hh K f;simp only[iD,Act.put,Nat.reduceAdd,Nat.reduceEqDiff,reduceIte]at hh f⊢;(try simp only[hh]at f⊢);clear hh;go_simp)
    ·exact f _ _ aT rfl
    ·refine(dU (r.below i) (show sp _=false from O)).mono ?_;rintro e w5 ⟨rfl,F⟩;exact f _ _ F rfl
    ·exact f _ _ aT rfl
    iterate 4 · exact f undef _ aT trivial
    iterate 2 · exact f _ _ aT rfl
    iterate 11 · exact f undef _ aT trivial
    iterate 2 · exact f _ _ aT rfl
   intro t P i hh;have v:=aO hh 21 (by decide);simp only[pick]at v;replace v:t 21=(.bool false):=v;clear hh;simp only[iD,Act.put,Nat.reduceAdd,Nat.reduceEqDiff,reduceIte];simp only[v];have C:=hid (r.below i);go_wp2_with fail
   refine dO C (dU C (show sp _=false from O)) fun w31 HM31=>?_;have c1:w31.cell? ⟨k.g,1,none⟩=some (.int .i64 (j:Int)):=by have:=HM31.x1;rw[show({m with u:={m.u with au:=B},buf:=[]}:M).p=(j:Int)from HP.out]at this;exact this
   have a5:=f4.out;go_wp2_with fail
   refine(qG HM31 (j+1)).mono ?_;rintro g9 a3 ⟨rfl,a2⟩;rw[HX.out];have l:=hid (HM31.below a2);clear a2 c1;have c1:a3.cell? ⟨k.g,1,none⟩=some (.int .i64 (j:Int)):=by have:=l.x1;rw[show({m with u:={m.u with au:=B},buf:=[]}:M).p=(j:Int)from HP.out]at this;exact this
   rcases D with _|⟨x,L⟩
   ·have e4:X.toList.isEmpty=true:=by rw[b7.out];exact Em
    have f0:=l.x10;have e0:=l.thaw 10;have V:=hid (l.WR true);go_wp2_with fail
    refine jv (iq V HZ 16 false) fun w41 HM41=>?_;go_wp2;first|go_end0|((try simp only[Exit.inBlock,Exit.then]);refine eX rfl rfl ?_)
    exact⟨rfl,by rw[G.out (by simp) (by simp) (by simp),if_neg HF.out,if_neg (by simp),if_neg (by simp),if_neg (by decide)];exact HM41,trivial⟩
   have e4:X.toList.isEmpty=false:=by rw[b7.out];exact Cj (fun e=>by cases e)
   obtain⟨sH,g5⟩:∃h:0<X.size,X[0]=x:=by have:=b7;subst this;exact⟨by rw[ak];exact Nat.succ_pos _,rfl⟩
   have g4:(0:Int)<(X.size:Int):=by omega
   have g3:¬(X.size:Int)≤0:=by omega
   go_wp2_with fail
   refine(qG l (j+1)).mono ?_;rintro g8 e2 ⟨rfl,a1⟩;rw[HX.out];have A:=hid (l.below a1);clear a1 c1;have c1:e2.cell? ⟨k.g,1,none⟩=some (.int .i64 (j:Int)):=by have:=A.x1;rw[show({m with u:={m.u with au:=B},buf:=[]}:M).p=(j:Int)from HP.out]at this;exact this
   by_cases h47:x=47
   ·have e5:((x.toNat:Int)==47)=true:=Zr (n:=47) (by decide) h47;have b9:=hid h47;clear h47;have z1:=A.thaw 1;have d2:Hid (MX k {({m with u:={m.u with au:=B},buf:=[]}:M)with p:=(j:Int)+1} q _):=hid (A.p ((j:Int)+1));have g2:=d0.out;go_wp2_with fail
    refine jv (iq d2 d0 4 false) fun w35 HM35=>?_;have HO:=G (by simp) (by simp) (by simp);rw[if_neg HF.out,if_neg (by simp),if_neg (by simp),if_pos (by rw[b9.out];rfl),show m.p=(j:Int)from HP.out]at HO;go_wp2;first|go_end0|((try simp only[Exit.inBlock,Exit.then]);refine eX rfl rfl ?_)
    exact⟨rfl,by rw[HO];exact HM35,trivial⟩
   have e5:((x.toNat:Int)==47)=false:=Zt (n:=47) (by decide) h47;have b9:=hid h47;clear h47;have f0:=A.x10;have e0:=A.thaw 10;have V:=hid (A.WR true);go_wp2_with fail
   refine jv (iq V HZ 16 false) fun w41 HM41=>?_;go_wp2;first|go_end0|((try simp only[Exit.inBlock,Exit.then]);refine eX rfl rfl ?_)
   exact⟨rfl,by rw[G.out (by simp) (by simp) (by simp),if_neg HF.out,if_neg (by simp),if_neg (by simp),if_neg (show ¬(x::L).head?=some 47 from fun e=>b9.out (Option.some.inj e))];exact HM41,trivial⟩
  rcases bh with _|_
  ·skip
   refine dF (by kernel_rfl) [pg k.g 0,is (.bool true),is (.bool true),pg k.g 0,pg k.g 0,pg k.g 30,is (.bool false),is (.bool false),is (.bool false),any,any,any,any,any,any,any,any,any,any,any,is (.bool false),is (.bool false)] [[],[0],[1],[2],[2,3],[2,4],[2,5],[2,6],[7],[8],[8,9],[8,10],[8,11],[8,12],[8],[8,14],[8,15],[8,16],[8,17],[8,13,18],[8,19],[20]] (by kernel_rfl) ?_ ?_
   ·refine ⟨?_,?_,?_,?_,?_,?_,?_,?_,?_,?_,?_,?_,?_,?_,?_,?_,?_,?_,?_,?_,?_,?_,trivial⟩;all_goals(intro t P i hh K f;simp only[iD,Act.put,Nat.reduceAdd,Nat.reduceEqDiff,reduceIte]at hh f⊢;(try simp only[hh]at f⊢);clear hh)
    ·go_simp;exact f _ _ aT rfl
    ·go_simp;refine(dU (r.below i) (show sp _=true from O)).mono ?_;rintro e w5 ⟨rfl,F⟩;exact f _ _ F rfl
    iterate 4
     ·go_simp;exact f _ _ aT rfl
    ·have b6:=(r.below i).x30;rw[HH.out]at b6;go_simp;exact f _ _ aT rfl
    iterate 2
     ·go_simp;exact f _ _ aT rfl
    iterate 11
     ·go_simp;exact f undef _ aT trivial
    iterate 2
     ·go_simp;exact f _ _ aT rfl
   intro t P i hh;have v:=aO hh 21 (by decide);simp only[pick]at v;replace v:t 21=(.bool false):=v;clear hh;simp only[iD,Act.put,Nat.reduceAdd,Nat.reduceEqDiff,reduceIte];simp only[v];have C:=hid (r.below i);go_wp2_with fail
   refine dO C (dU C (show sp _=true from O)) fun w31 HM31=>?_;go_wp2_with fail
   refine jv (iq HM31 HZ 7 false) fun a3 l=>?_;go_wp2;first|go_end0|((try simp only[Exit.inBlock,Exit.then]);refine eX rfl rfl ?_)
   exact⟨rfl,by rw[G.out (by simp) (by simp) (by simp),if_neg HF.out,if_neg (by simp),if_pos (by simp)];exact l,trivial⟩
  obtain⟨d,hd⟩:∃x,decide (bs=B)=x:=⟨_,rfl⟩;have HE:Hid (decide (bs=B)=d):=hid hd;have f7:Hid (((ah bs).toList==(ah B).toList)=d):=by show _=_;rw[←hd];by_cases e:bs=B;(rw[e,decide_eq_true rfl];exact beq_self_eq_true _);(rw[decide_eq_false e,mg.tl,mg.tl];exact beq_false_of_ne e)
  clear hd;refine dF (by kernel_rfl) [pg k.g 0,is (.bool true),is (.bool true),pg k.g 0,pg k.g 0,pg k.g 30,is (.bool true),is (.bool true),is (.bool true),pg k.g 0,pg k.g 0,pg k.g 17,pg k.g 17,is (.string (ah bs)),pg k.g 0,pg k.g 0,pg k.g 4,pg k.g 4,is (.string (ah B)),is (.bool d),is (.bool d),is (.bool d)] [[],[0],[1],[2],[2,3],[2,4],[2,5],[2,6],[7],[8],[8,9],[8,10],[8,11],[8,12],[8],[8,14],[8,15],[8,16],[8,17],[8,13,18],[8,19],[20]] (by kernel_rfl) ?_ ?_
  ·refine ⟨?_,?_,?_,?_,?_,?_,?_,?_,?_,?_,?_,?_,?_,?_,?_,?_,?_,?_,?_,?_,?_,?_,trivial⟩;all_goals(intro t P i hh K f;simp only[iD,Act.put,Nat.reduceAdd,Nat.reduceEqDiff,reduceIte]at hh f⊢;(try simp only[hh]at f⊢);clear hh)
   ·go_simp;exact f _ _ aT rfl
   ·go_simp;refine(dU (r.below i) (show sp _=true from O)).mono ?_;rintro e w5 ⟨rfl,F⟩;exact f _ _ F rfl
   iterate 4
    ·go_simp;exact f _ _ aT rfl
   ·have b6:=(r.below i).x30;rw[HH.out]at b6;go_simp;exact f _ _ aT rfl
   iterate 6
    ·go_simp;exact f _ _ aT rfl
   ·have e9:=(r.below i).x17;rw[f8.out]at e9;go_simp;exact f _ _ aT rfl
   iterate 4
    ·go_simp;exact f _ _ aT rfl
   ·have c4:=(r.below i).x4;go_simp;exact f _ _ aT rfl
   ·have e1:=f7.out;go_simp;exact f _ _ aT rfl
   iterate 2
    ·go_simp;exact f _ _ aT rfl
  intro t P i hh;have v:=aO hh 21 (by decide);simp only[pick]at v;replace v:t 21=(.bool d):=v;clear hh;simp only[iD,Act.put,Nat.reduceAdd,Nat.reduceEqDiff,reduceIte];simp only[v];have C:=hid (r.below i);rcases d with _|_
  ·skip
   go_wp2_with fail
   refine dO C (dU C (show sp _=true from O)) fun w31 HM31=>?_;go_wp2_with fail
   refine jv (iq HM31 HZ 7 false) fun a3 l=>?_;go_wp2;first|go_end0|((try simp only[Exit.inBlock,Exit.then]);refine eX rfl rfl ?_)
   exact⟨rfl,by rw[G.out (by simp) (by simp) (by simp),if_neg HF.out,if_neg (by simp[HE.out]),if_pos (by simp)];exact l,trivial⟩
  go_wp2_with fail
  refine jv (iq C HZ 3 false) fun w31 HM31=>?_;go_wp2;first|go_end0|((try simp only[Exit.inBlock,Exit.then]);refine eX rfl rfl ?_)
  exact⟨rfl,by rw[G.out (by simp) (by simp) (by simp),if_neg HF.out,if_pos (by simp[HE.out])];exact HM31,trivial⟩
 go_wp2_with fail
 refine dO HM2 (lu HM2 HP HR HB) fun w3 HM3=>?_;have c3:=HM3.x3;have c1:=HM3.x1;have c2:=HM3.x2;have z3:=HM3.thaw 3;have z1:=HM3.thaw 1;have z2:=HM3.thaw 2;have W:=hid (HM3.buf []);have r:=hid (W.p (-1));have Q:=hid (r.st 2);go_wp2;first|go_end0|((try simp only[Exit.inBlock,Exit.then]);refine eX rfl rfl ?_)
 exact⟨rfl,by rw[d1.out (by simp)];exact Q,trivial⟩
end Z4
namespace Z5
open Go.RowKit Base bf eH iH dI aJ qM gK jW fG vT yc yF Df
variable {k:K} {m:M} {q:Value} {w:World} {j:Nat} {R:List UInt8}
theorem Lc:∀(C A:List UInt8),65535<jS A→65535<jS (A++C)
 |[],A,h=>by rw[List.append_nil];exact h
 |c::C,A,h=>by
  rw[show A++c::C=(A++[c])++C by simp]
  exact Lc C _ (by rw[xQ];omega)
theorem RN {B:List UInt8} (i:Nat) (h:65535<jS (B.take i)):65535<jS B:=by
 have:=Lc (B.drop i) _ h
 rwa[List.take_append_drop]at this
theorem adQ {s:Bool} (h:kL s R=true):nU (cc R)=false:=by
 match R,h with
 |c::L,h=>
  have h:bW s c=true:=h;show nU c=false;by_cases h47:c=47
  ·subst h47;rfl
  by_cases h92:c=92
  ·subst h92;rfl
  unfold bW at h;simp[h47,h92]at h
theorem p3 (o g l:Bool):(o=false∧g=false∧l=false)∨((o=false∧g=false∧l=true)∨o=true)∨(o=false∧g=true):=by
 revert o g l;decide
theorem aaW (dp:Dp) (h:MX k m q w) (O:m.p=(j:Int)) (hR:k.T.drop j=R) (hl:k.T.length≤4611686018427387904) (hj:j≤k.T.length) (J:m.buf.length≤900000) (G:m.buf.all nU=true):Calls prog 54 #[.pointer (some ⟨k.g,0,none⟩),.int .u8 ((cc R).toNat:Int)] w fun e w'=>e=.returned (.tuple #[])∧MX k (gW m R) q w'∧True:=by
 have s:=hid h;have HP:=hid O;have Z:=hid hR;have HZ:Hid (-4611686018427387904≤m.p∧m.p≤4611686018427387904):=⟨by omega,by omega⟩;obtain⟨B,v⟩:∃B,m.buf=B:=⟨_,rfl⟩;have a9:=hid v;have a8:Hid (B.length≤900000):=by show _≤_;rw[←v];exact J
 obtain⟨c,I⟩:∃c,c=cc R:=⟨_,rfl⟩;rw[←I];obtain⟨l,f⟩:∃l,kL (sp m) R=l:=⟨_,rfl⟩;have HL:=hid f;obtain⟨o,P⟩:∃o,bU R=o:=⟨_,rfl⟩;have HE:=hid P;obtain⟨g,Q⟩:∃g,nU c=g:=⟨_,rfl⟩;have HG:Hid (digit (c.toNat:Int)=g):=Q;have d4:Hid (B.all nU=true):=by show _=_;rw[←v];exact G
 obtain⟨X,hX⟩:∃X,ah B=X:=⟨_,rfl⟩;have HX:=hid hX;have Y:Hid (X.size=B.length):=by show _=_;rw[←hX];exact ak _
 obtain⟨S,hS⟩:∃S,S=ah m.u.au:=⟨_,rfl⟩;have c1:=hid hS;obtain⟨D,hD⟩:∃D,D=jm m.u.au:=⟨_,rfl⟩;have d2:Hid (jm S.data.toList=D):=by show _=_;rw[hS,hD];rfl
 obtain⟨E,hE⟩:∃E,E=aj m.u.au:=⟨_,rfl⟩;have d3:Hid (aj S.data.toList=E):=by show _=_;rw[hS,hE];rfl
 rcases p3 o g l with⟨rfl,rfl,rfl⟩|(⟨rfl,rfl,rfl⟩|rfl)|⟨rfl,rfl⟩
 ·skip
  have y:Hid (gW m R=fail m):=by
   show _=_;unfold gW;rw[if_neg (fun x=>by rw[←I,Q]at x;exact absurd x.2 (by decide)),if_pos ⟨P,f⟩]
  clear v I f P J dp Q G hX hS hD hE;clear h O hR hl hj;go_enter func54,ntmps54;go_wp2_with fail
  refine dO s (dY s HP Z HE) fun w2 HM2=>?_;go_wp2_with fail
  refine(jf.iG (c.toNat:Int) _).mono ?_;rintro e7 w7 ⟨rfl,rfl⟩;rw[HG.out];go_wp2_with fail
  refine dO HM2 (dY HM2 HP Z HE) fun w3 HM3=>?_;go_wp2_with fail
  refine dO HM3 (bK HM3 HP Z HL) fun w4 a=>?_;have c2:=a.x2;have z2:=a.thaw 2;have a3:=hid (a.st 19);go_wp2;first|go_end0|((try simp only[Exit.inBlock,Exit.then]);refine eX rfl rfl ?_)
  exact⟨rfl,by rw[y.out];exact a3,trivial⟩
 iterate 2
  ·have A1:¬(bU R=false∧nU (cc R)=true):=by rw[P,←I,Q];first|decide|simp
   have A2:¬(bU R=false∧kL (sp m) R=false):=by rw[P,f];first|decide|simp
   have c8:Hid (B=[]→gW m R=mv m 14 true):=by
    intro x;unfold gW;rw[if_neg A1,if_neg A2,if_pos (v.trans x)]
   have c7:Hid (B≠[]→65535<jS B→gW m R=fail m):=by
    intro C hb;unfold gW;rw[if_neg A1,if_neg A2,if_neg (fun x=>C (v.symm.trans x)),v,if_pos hb]
   have c5:Hid (B≠[]→¬65535<jS B→gW m R=mv {m with u:={m.u with port:=if (jS B:Int)=D then -1 else jS B},buf:=[]} 14 true):=by
    intro C hb;unfold gW;rw[if_neg A1,if_neg A2,if_neg (fun x=>C (v.symm.trans x)),v,if_neg hb,hD]
   clear v I f P J dp Q G hX hS hD hE;clear h O hR hl hj;go_enter func54,ntmps54;go_wp2_with fail
   refine dO s (dY s HP Z HE) fun w2 HM2=>?_;go_wp2_with fail
   try
    refine(jf.iG (c.toNat:Int) _).mono ?_;rintro e7 w7 ⟨rfl,rfl⟩;rw[HG.out];go_wp2_with fail
   refine dO HM2 (dY HM2 HP Z HE) fun w3 HM3=>?_;first
   |go_wp2_with fail
    refine dO HM3 (bK HM3 HP Z HL) fun w4 a=>?_
   |obtain⟨w4,b5⟩:∃w4,w4=w3:=⟨_,rfl⟩
    subst b5;have a:=HM3
   have c3:=a.x3;rw[a9.out,HX.out]at c3;by_cases C:B=[]
   ·have b8:X.toList.isEmpty=true:=by rw[←HX.out,C];exact Em
    go_wp2_with fail
    refine jv (iq a HZ 14 true) fun w5 a3=>?_;go_wp2;first|go_end0|((try simp only[Exit.inBlock,Exit.then]);refine eX rfl rfl ?_)
    exact⟨rfl,by rw[c8.out C];exact a3,trivial⟩
   ·have b8 : X.toList.isEmpty = false := by rw [← HX.out]; exact Cj C
    have d0:Hid (65535<jS B→gW m R=fail m):=c7 C;have a6:Hid (¬65535<jS B→gW m R=mv {m with u:={m.u with port:=if (jS B:Int)=D then -1 else jS B},buf:=[]} 14 true):=c5 C;clear C;go_wp2;go_loopw [4,5,47] (fun vn _ vk wr=>∃(i n:Nat),i≤X.size∧vk=.int .i64 (i:Int)∧vn=.int .i64 (n:Int)∧n≤65535∧wr=w4∧Hid (n=jS (B.take i))) (fun _ _ vk _=>X.size - (intOf vk).toNat)
    case atStart=>exact⟨0,0,Nat.zero_le _,rfl,rfl,by omega,rfl,rfl⟩
    case round =>
     obtain⟨i,n,hi,rfl,rfl,hn,b3,HN⟩:=hrel;subst b3;have sH:X.size≤900000:=by rw[Y.out];exact a8
     by_cases hlt:i<X.size
     ·obtain⟨d,hd⟩:∃d,X[i]=d:=⟨_,rfl⟩;have F:i<B.length:=by rw[←Y.out];exact hlt
      have H:B[i]=d:=by have:=HX.out;subst this;exact hd
      have V:nU d=true:=by rw[←H];exact List.all_eq_true.1 d4 _ (List.getElem_mem F)
      obtain⟨v1,v2⟩:=O9 d V;have d9:48≤(d.toNat:Int):=by omega
      have d8:(d.toNat:Int)≤57:=by omega
      obtain⟨z,O⟩:∃z,z=n*10+(d.toNat - 48):=⟨_,rfl⟩;have a4:Hid ((n:Int)*10+((d.toNat:Int) - 48)=(z:Int)):=by show _=_;omega
      have a5:Hid (jS (B.take (i+1))=min z 65536):=by show _=_;rw[wP _ _ F,H,←HN.out,O]
      by_cases hbig:65535<z
      ·have c0:65535<(n:Int)*10+((d.toNat:Int) - 48):=by omega
       have y:Hid (gW m R=fail m):=d0 (RN (i+1) (by rw[a5.out];omega));clear F H V v1 v2 O hbig;have c2:=a.x2;have z2:=a.thaw 2;have a7:=hid (a.st 19);go_wp2;first|go_end0|((try simp only[Exit.inBlock,Exit.then]);refine eX rfl rfl ?_)
       first|exact⟨rfl,by rw[y.out];exact a7,trivial⟩|exact⟨rfl,by rw[y.out];exact a7⟩
      ·have c0:¬65535<(n:Int)*10+((d.toNat:Int) - 48):=by omega
       have b0:z≤65535:=by omega
       have d1:Hid (z=jS (B.take (i+1))):=by show _=_;rw[a5.out];omega
       clear F H V v1 v2 O hbig;go_wp2;go_roundw
       case rel=>exact⟨i+1,z,by omega,by go_num,by first|exact congrArg (Value.int .i64) a4|(simp;have:=a4.out;omega),b0,by first|rfl|trivial,d1⟩
       case measure=>simp[intOf];omega
     ·have b9:i=X.size:=by omega
      subst b9;have A:Hid (n=jS B):=by show _=_;rw[HN.out,Y.out,List.take_length]
      have c4:=a.x4;rw[←c1.out]at c4;go_wp2_with fail
      refine(CU S _).mono ?_;rintro e8 w8 ⟨rfl,rfl⟩;rw[d2.out,d3.out];have c9:=a.x9;have e0:=a.x3;have z9:=a.thaw 9;have z3:=a.thaw 3;by_cases hq:(n:Int)=D
      ·have q3:((n:Int)==D)=true:=by rw[beq_iff_eq];exact hq
       have y:Hid (gW m R=mv {m with u:={m.u with port:= -1},buf:=[]} 14 true):=by
        show _=_;rw[a6.out (by rw[←A.out];omega),if_pos (by rw[←A.out];exact hq)]
       clear hq;have a2:=hid (a.Jz (n:Int));have N:=hid (a2.Jz (-1));have a1:=hid (N.buf []);go_wp2_with fail
       refine jv (iq a1 HZ 14 true) fun w9 HM9=>?_;go_wp2;first|go_end0|((try simp only[Exit.inBlock,Exit.then]);refine eX rfl rfl ?_)
       exact⟨rfl,by rw[y.out];exact HM9,trivial⟩
      ·have q3:((n:Int)==D)=false:=by rw[beq_eq_false_iff_ne];exact hq
       have y:Hid (gW m R=mv {m with u:={m.u with port:=(n:Int)},buf:=[]} 14 true):=by
        show _=_;rw[a6.out (by rw[←A.out];omega),if_neg (by rw[←A.out];exact hq),←A.out]
       clear hq;have a2:=hid (a.Jz (n:Int));have a1:=hid (a2.buf []);go_wp2_with fail
       refine jv (iq a1 HZ 14 true) fun w9 HM9=>?_;go_wp2;first|go_end0|((try simp only[Exit.inBlock,Exit.then]);refine eX rfl rfl ?_)
       exact⟨rfl,by rw[y.out];exact HM9,trivial⟩
 have b7:l=false:=by cases l with|false=>rfl|true=>exact absurd (adQ f) (by rw[←I,Q];decide)
 have y:Hid (gW m R={m with buf:=B++[c]}):=by
  show _=_;unfold gW;rw[if_pos ⟨P,by rw[←I];exact Q⟩,v,I]
 clear v I f P J dp Q G hX hS hD hE b7;clear h O hR hl hj;go_enter func54,ntmps54;go_wp2_with fail
 refine dO s (dY s HP Z HE) fun w2 HM2=>?_;go_wp2_with fail
 refine(jf.iG (c.toNat:Int) _).mono ?_;rintro e7 w7 ⟨rfl,rfl⟩;rw[HG.out];go_wp2_with fail
 refine aV (by kernel_rfl) 11 [pg k.g 0,pg k.g 0,pg k.g 0,pg k.g 3,is (.string (ah B)),is (.int .u8 (c.toNat:Int)),row 1 (aQ [c]),is (.string (ah [c])),is (.string (ah (B++[c]))),pg k.g 0,pg k.g 3] [[],[],[1],[1,2],[1,2,3],[],[5],[5,6],[1,2,3,4,5,6,7],[0],[0,9],[0,1,2,3,4,5,6,7,8,9,10]] (by kernel_rfl) ?_ ?_
 ·refine ⟨?_,?_,?_,?_,?_,?_,?_,?_,?_,?_,?_,trivial⟩;all_goals(intro t wq W hh K r;simp only[iD,oP,Act.put,Nat.reduceAdd,Nat.reduceEqDiff,reduceIte]at hh r⊢)
  iterate 4
   ·try simp only[hh]at r⊢
    clear hh;go_simp;exact r _ _ aT rfl
  ·try simp only[hh]at r⊢
   clear hh;have c3:=(HM2.below W).x3;rw[a9.out]at c3;go_simp;exact r _ _ aT rfl
  ·try simp only[hh]at r⊢
   clear hh;go_simp;exact r _ _ aT rfl
  ·try simp only[hh]at r⊢
   clear hh;go_simp;exact r _ _ ((Below.refl _ _).alloc (Nat.le_refl _) _) ⟨_,_,rfl,Nat.le_refl _,by decide,iP wq [c] 5 (0,0)⟩
  ·have e6:=hh.2.1;clear hh;obtain⟨A6,c6,e6,d7,d6,b6⟩:=e6;simp only[e6]at r⊢;have hs:=bI 50 9 5 underlying50 underlying5 underlying9 _ c6 b6;go_simp;exact r _ _ aT rfl
  ·try simp only[hh]at r⊢
   clear hh;have d5:(Op.stringOp .add (ah B) (ah [c])).run prog wq=.ok (.string (ah (B++[c]))) wq:=bH _ _ wq (by have:=a8.out;simp;omega);go_simp;exact r _ _ aT rfl
  iterate 2
   ·try simp only[hh]at r⊢
    clear hh;go_simp;exact r _ _ aT rfl
 intro t wq W hh;have f8:=aO hh 8 (by decide);simp only[pick]at f8;replace f8:t 8=(.string (ah (B++[c]))):=f8;have L:=aO hh 10 (by decide);simp only[pick]at L;replace L:t 10=(.pointer (some ⟨k.g,3,none⟩)):=L;clear hh;simp only[iD,oP,Act.put,Nat.reduceAdd,Nat.reduceEqDiff,reduceIte];simp only[f8,L];have a0:=hid (HM2.below W);have N:=hid (a0.buf (B++[c]));have z3:=a0.thaw 3;have c3:=a0.x3;go_wp2;first|go_end0|((try simp only[Exit.inBlock,Exit.then]);refine eX rfl rfl ?_)
 first|exact⟨rfl,by rw[y.out];exact N,trivial⟩|exact⟨rfl,by rw[y.out];exact N⟩
end Z5
namespace acp
open Go.RowKit Base bf eH aJ jw jW fG vT yc yF DV Df Xb Tq Z4 Z5
variable {k:K} {m:M} {q:Value} {w:World} {j:Nat} {R:List UInt8}
theorem YX (dp:Dp) (h:MX k m q w) (x:m.p=(j:Int)) (B:k.T.drop j=R) (z:k.T.length≤4611686018427387904) (A:j≤k.T.length) (c:m.buf.length≤900000) (l:m.u.txt.length≤100000000) (i:m.st=10→m.buf.all nU=true) (a:j+1≤4611686018427387904) (f:m.st=1):Calls prog 16 #[.pointer (some ⟨k.g,0,none⟩)] w fun e w'=>e=.returned (.tuple #[])∧MX k (aX k.base m R) q w'∧True:=by
 have d:=hid h;have D:=hid x;have C:=hid B;have s:=hid dp;have n:=hid z;have H:=hid A;have t:=hid c;have r:=hid a;have F:=hid f;obtain⟨v,y⟩:∃v,(cc R).toNat=v:=⟨_,rfl⟩;have HV:=hid y;have G:Hid (aX k.base m R=fB k.base m R):=ms1 f;clear h x B z A dp c l i a f y;go_enter func16,ntmps16;go_wp2_with fail
 refine dO d (yL d D C HV) fun w2 HM2=>?_;have E:=HM2.x2;rw[F.out]at E;go_wp2_with fail
 rw[←HV.out];refine jv (V6 s HM2 D C n H r t) fun w3 HM3=>?_;go_wp2
 go_end0
 exact⟨rfl,by rw[G.out];exact HM3,trivial⟩
theorem YZ (dp:Dp) (h:MX k m q w) (r:m.p=(j:Int)) (y:k.T.drop j=R) (t:k.T.length≤4611686018427387904) (x:j≤k.T.length) (l:m.buf.length≤900000) (i:m.u.txt.length≤100000000) (f:m.st=10→m.buf.all nU=true) (d:j+1≤4611686018427387904) (c:m.st=2):Calls prog 16 #[.pointer (some ⟨k.g,0,none⟩)] w fun e w'=>e=.returned (.tuple #[])∧MX k (aX k.base m R) q w'∧True:=by
 have a:=hid h;have A:=hid r;have z:=hid y;have n:=hid t;have E:=hid x;have C:=hid c;obtain⟨v,s⟩:∃v,(cc R).toNat=v:=⟨_,rfl⟩;have HV:=hid s;have D:Hid (aX k.base m R=wR k.base m R):=ms2 c;clear h r y t x dp l i f d c s;go_enter func16,ntmps16;go_wp2_with fail
 refine dO a (yL a A z HV) fun w2 HM2=>?_;have B:=HM2.x2;rw[C.out]at B;go_wp2_with fail
 refine jv (N8 HM2 A z n E) fun w3 HM3=>?_;go_wp2
 go_end0
 exact⟨rfl,by rw[D.out];exact HM3,trivial⟩
theorem Y6 (dp:Dp) (h:MX k m q w) (t:m.p=(j:Int)) (A:k.T.drop j=R) (y:k.T.length≤4611686018427387904) (z:j≤k.T.length) (a:m.buf.length≤900000) (l:m.u.txt.length≤100000000) (i:m.st=10→m.buf.all nU=true) (f:j+1≤4611686018427387904) (d:m.st=9):Calls prog 16 #[.pointer (some ⟨k.g,0,none⟩)] w fun e w'=>e=.returned (.tuple #[])∧MX k (aX k.base m R) q w'∧True:=by
 have c:=hid h;have C:=hid t;have B:=hid A;have r:=hid dp;have n:=hid y;have G:=hid z;have s:=hid a;have E:=hid d;obtain⟨v,x⟩:∃v,(cc R).toNat=v:=⟨_,rfl⟩;have HV:=hid x;have F:Hid (aX k.base m R=kG m R):=ms9 d;clear h t A y z dp a l i f d x;go_enter func16,ntmps16;go_wp2_with fail
 refine dO c (yL c C B HV) fun w2 HM2=>?_;have D:=HM2.x2;rw[E.out]at D;go_wp2_with fail
 rw[←HV.out];refine jv (aaE r HM2 C B n G s) fun w3 HM3=>?_;go_wp2
 go_end0
 exact⟨rfl,by rw[F.out];exact HM3,trivial⟩
theorem Wp (dp:Dp) (h:MX k m q w) (x:m.p=(j:Int)) (B:k.T.drop j=R) (z:k.T.length≤4611686018427387904) (A:j≤k.T.length) (c:m.buf.length≤900000) (l:m.u.txt.length≤100000000) (a:m.st=10→m.buf.all nU=true) (i:j+1≤4611686018427387904) (f:m.st=10):Calls prog 16 #[.pointer (some ⟨k.g,0,none⟩)] w fun e w'=>e=.returned (.tuple #[])∧MX k (aX k.base m R) q w'∧True:=by
 have d:=hid h;have E:=hid x;have D:=hid B;have r:=hid dp;have n:=hid z;have H:=hid A;have t:=hid c;have s:=hid a;have C:=hid f;obtain⟨v,y⟩:∃v,(cc R).toNat=v:=⟨_,rfl⟩;have HV:=hid y;have G:Hid (aX k.base m R=gW m R):=Yc f;clear h x B z A dp c l a i f y;go_enter func16,ntmps16;go_wp2_with fail
 refine dO d (yL d E D HV) fun w2 HM2=>?_;have F:=HM2.x2;rw[C.out]at F;go_wp2_with fail
 rw[←HV.out];refine jv (aaW r HM2 E D n H t (s C)) fun w3 HM3=>?_;go_wp2
 go_end0
 exact⟨rfl,by rw[G.out];exact HM3,trivial⟩
theorem Wu (dp:Dp) (h:MX k m q w) (t:m.p=(j:Int)) (A:k.T.drop j=R) (y:k.T.length≤4611686018427387904) (z:j≤k.T.length) (a:m.buf.length≤900000) (l:m.u.txt.length≤100000000) (i:m.st=10→m.buf.all nU=true) (f:j+1≤4611686018427387904) (d:m.st=13):Calls prog 16 #[.pointer (some ⟨k.g,0,none⟩)] w fun e w'=>e=.returned (.tuple #[])∧MX k (aX k.base m R) q w'∧True:=by
 have c:=hid h;have C:=hid t;have B:=hid A;have r:=hid dp;have n:=hid y;have G:=hid z;have s:=hid a;have E:=hid d;obtain⟨v,x⟩:∃v,(cc R).toNat=v:=⟨_,rfl⟩;have HV:=hid x;have F:Hid (aX k.base m R=dA m R):=aaK d;clear h t A y z dp a l i f d x;go_enter func16,ntmps16;go_wp2_with fail
 refine dO c (yL c C B HV) fun w2 HM2=>?_;have D:=HM2.x2;rw[E.out]at D;go_wp2_with fail
 rw[←HV.out];refine jv (Nw r HM2 C B n G s) fun w3 HM3=>?_;go_wp2
 go_end0
 exact⟨rfl,by rw[F.out];exact HM3,trivial⟩
theorem Wv (dp:Dp) (h:MX k m q w) (r:m.p=(j:Int)) (y:k.T.drop j=R) (t:k.T.length≤4611686018427387904) (x:j≤k.T.length) (l:m.buf.length≤900000) (i:m.u.txt.length≤100000000) (f:m.st=10→m.buf.all nU=true) (d:j+1≤4611686018427387904) (c:m.st=14):Calls prog 16 #[.pointer (some ⟨k.g,0,none⟩)] w fun e w'=>e=.returned (.tuple #[])∧MX k (aX k.base m R) q w'∧True:=by
 have a:=hid h;have A:=hid r;have z:=hid y;have n:=hid t;have E:=hid x;have C:=hid c;obtain⟨v,s⟩:∃v,(cc R).toNat=v:=⟨_,rfl⟩;have HV:=hid s;have D:Hid (aX k.base m R=eF m R):=adu c;clear h r y t x dp l i f d c s;go_enter func16,ntmps16;go_wp2_with fail
 refine dO a (yL a A z HV) fun w2 HM2=>?_;have B:=HM2.x2;rw[C.out]at B;go_wp2_with fail
 refine jv (KZ HM2 A z n E) fun w3 HM3=>?_;go_wp2
 go_end0
 exact⟨rfl,by rw[D.out];exact HM3,trivial⟩
theorem Wy (dp:Dp) (h:MX k m q w) (t:m.p=(j:Int)) (A:k.T.drop j=R) (y:k.T.length≤4611686018427387904) (z:j≤k.T.length) (l:m.buf.length≤900000) (a:m.u.txt.length≤100000000) (i:m.st=10→m.buf.all nU=true) (f:j+1≤4611686018427387904) (d:m.st=16):Calls prog 16 #[.pointer (some ⟨k.g,0,none⟩)] w fun e w'=>e=.returned (.tuple #[])∧MX k (aX k.base m R) q w'∧True:=by
 have c:=hid h;have C:=hid t;have B:=hid A;have s:=hid dp;have r:=hid y;have G:=hid z;have n:=hid a;have E:=hid d;obtain⟨v,x⟩:∃v,(cc R).toNat=v:=⟨_,rfl⟩;have HV:=hid x;have F:Hid (aX k.base m R=qE m R):=aaL d;clear h t A y z dp l a i f d x;go_enter func16,ntmps16;go_wp2_with fail
 refine dO c (yL c C B HV) fun w2 HM2=>?_;have D:=HM2.x2;rw[E.out]at D;go_wp2_with fail
 rw[←HV.out];refine jv (Vp s HM2 C B r G n) fun w3 HM3=>?_;go_wp2
 go_end0
 exact⟨rfl,by rw[F.out];exact HM3,trivial⟩
theorem WA (dp:Dp) (h:MX k m q w) (t:m.p=(j:Int)) (A:k.T.drop j=R) (y:k.T.length≤4611686018427387904) (z:j≤k.T.length) (a:m.buf.length≤900000) (l:m.u.txt.length≤100000000) (i:m.st=10→m.buf.all nU=true) (f:j+1≤4611686018427387904) (d:m.st=17):Calls prog 16 #[.pointer (some ⟨k.g,0,none⟩)] w fun e w'=>e=.returned (.tuple #[])∧MX k (aX k.base m R) q w'∧True:=by
 have c:=hid h;have C:=hid t;have B:=hid A;have r:=hid dp;have n:=hid y;have G:=hid z;have s:=hid a;have E:=hid d;obtain⟨v,x⟩:∃v,(cc R).toNat=v:=⟨_,rfl⟩;have HV:=hid x;have F:Hid (aX k.base m R=oW m R):=Yf d;clear h t A y z dp a l i f d x;go_enter func16,ntmps16;go_wp2_with fail
 refine dO c (yL c C B HV) fun w2 HM2=>?_;have D:=HM2.x2;rw[E.out]at D;go_wp2_with fail
 rw[←HV.out];refine jv (YB r HM2 C B n G s) fun w3 HM3=>?_;go_wp2
 go_end0
 exact⟨rfl,by rw[F.out];exact HM3,trivial⟩
theorem Y4 (dp:Dp) (h:MX k m q w) (H:m.p=(j:Int)) (J:k.T.drop j=R) (L:k.T.length≤4611686018427387904) (N:j≤k.T.length) (B:m.buf.length≤900000) (A:m.u.txt.length≤100000000) (z:m.st=10→m.buf.all nU=true) (y:j+1≤4611686018427387904) (t:m.st=7):Calls prog 16 #[.pointer (some ⟨k.g,0,none⟩)] w fun e w'=>e=.returned (.tuple #[])∧MX k (aX k.base m R) q w'∧True:=by
 have d:=hid h;have f:=hid H;have F:=hid J;have E:Hid (-4611686018427387904≤m.p∧m.p≤4611686018427387904):=⟨by omega,by omega⟩;have P:=hid t;obtain⟨v,I⟩:∃v,(cc R).toNat=v:=⟨_,rfl⟩;have HV:=hid I;obtain⟨s,a⟩:∃s,sp m=s:=⟨_,rfl⟩;have G:=hid a;obtain⟨l,c⟩:∃l,kL (sp m) R=l:=⟨_,rfl⟩;have V:=hid c;rcases l with _|_
 ·skip
  have D:Hid (aX k.base m R={begin' m with p:=m.p - 1}):=by
   show _=_;rw[ms7 t];unfold Dn;rw[if_pos (.inl c)]
  clear h H J L N dp B A z y t I a c;go_enter func16,ntmps16;go_wp2_with fail
  refine dO d (yL d f F HV) fun w2 HM2=>?_;have C:=HM2.x2;rw[P.out]at C;go_wp2_with fail
  refine dO HM2 (bK HM2 f F V) fun w3 HM3=>?_;go_wp2_with fail
  refine jv (Dt HM3 E) fun w4 HM4=>?_;clear C;have O:=HM4.x1;rw[show(begin' m).p=(j:Int)from f.out]at O;have r:=E.1;have n:=E.2;rw[f.out]at r n;have W:=HM4.thaw 1;have i:=hid (HM4.p ((j:Int) - 1));rw[show m.p=(j:Int)from f.out]at D;go_wp2
  go_end0
  exact⟨rfl,by rw[D.out];exact i,trivial⟩
 rcases s with _|_
 ·skip
  have D:Hid (aX k.base m R={begin' m with p:=m.p - 1}):=by
   show _=_;rw[ms7 t];unfold Dn;rw[if_pos (.inr a)]
  clear h H J L N dp B A z y t I a c;go_enter func16,ntmps16;go_wp2_with fail
  refine dO d (yL d f F HV) fun w2 HM2=>?_;have C:=HM2.x2;rw[P.out]at C;go_wp2_with fail
  refine dO HM2 (bK HM2 f F V) fun w3 HM3=>?_;go_wp2_with fail
  refine dO HM3 (dU HM3 G) fun w4 HM4=>?_;go_wp2_with fail
  refine jv (Dt HM4 E) fun w5 i=>?_;clear C;have O:=i.x1;rw[show(begin' m).p=(j:Int)from f.out]at O;have r:=E.1;have n:=E.2;rw[f.out]at r n;have W:=i.thaw 1;have Q:=hid (i.p ((j:Int) - 1));rw[show m.p=(j:Int)from f.out]at D;go_wp2
  go_end0
  exact⟨rfl,by rw[D.out];exact Q,trivial⟩
 skip
 have D:Hid (aX k.base m R=m):=by
  show _=_;rw[ms7 t];unfold Dn;rw[if_neg (fun x=>by rcases x with x|x;(rw[c]at x;cases x);(rw[a]at x;cases x))]
 clear h H J L N dp B A z y t I a c;go_enter func16,ntmps16;go_wp2_with fail
 refine dO d (yL d f F HV) fun w2 HM2=>?_;have C:=HM2.x2;rw[P.out]at C;go_wp2_with fail
 refine dO HM2 (bK HM2 f F V) fun w3 HM3=>?_;go_wp2_with fail
 refine dO HM3 (dU HM3 G) fun w4 HM4=>?_;go_wp2
 go_end0
 exact⟨rfl,by rw[D.out];exact HM4,trivial⟩
theorem Y1 (dp:Dp) (h:MX k m q w) (s:m.p=(j:Int)) (t:k.T.drop j=R) (C:k.T.length≤4611686018427387904) (D:j≤k.T.length) (r:m.buf.length≤900000) (n:m.u.txt.length≤100000000) (l:m.st=10→m.buf.all nU=true) (i:j+1≤4611686018427387904) (f:m.st=4):Calls prog 16 #[.pointer (some ⟨k.g,0,none⟩)] w fun e w'=>e=.returned (.tuple #[])∧MX k (aX k.base m R) q w'∧True:=by
 have a:=hid h;have A:=hid s;have z:=hid t;have E:Hid (-4611686018427387904≤m.p∧m.p≤4611686018427387904):=⟨by omega,by omega⟩;have F:=hid f;obtain⟨v,d⟩:∃v,(cc R).toNat=v:=⟨_,rfl⟩;have HV:=hid d;by_cases h47:v=47
 ·subst h47;have c:R≠[]:=by rintro rfl;cases d
  have H:Hid (decide (R=[])=false):=decide_eq_false c;have B:Hid (aX k.base m R=begin' m):=by
   show _=_;rw[ms4 f];unfold kQ;rw[if_pos ⟨UInt8.toNat_inj.1 d,c⟩]
  clear h s t C D dp r n l i f d c;go_enter func16,ntmps16;go_wp2_with fail
  refine dO a (yL a A z HV) fun w2 HM2=>?_;have y:=HM2.x2;rw[F.out]at y;go_wp2_with fail
  refine dO HM2 (lu HM2 A z H) fun w3 HM3=>?_;go_wp2_with fail
  refine jv (Dt HM3 E) fun w4 HM4=>?_;go_wp2
  go_end0
  exact⟨rfl,by rw[B.out];exact HM4,trivial⟩
 have G:¬(v:Int)=47:=by omega
 have B:Hid (aX k.base m R=mv m 15 true):=by
  show _=_;rw[ms4 f];unfold kQ;rw[if_neg (fun x=>h47 (by rw[←d,x.1];rfl))]
 clear h s t C D dp r n l i f d h47;go_enter func16,ntmps16;go_wp2_with fail
 refine dO a (yL a A z HV) fun w2 HM2=>?_;have y:=HM2.x2;rw[F.out]at y;go_wp2_with fail
 refine jv (iq HM2 E 15 true) fun w3 HM3=>?_;go_wp2
 go_end0
 exact⟨rfl,by rw[B.out];exact HM3,trivial⟩
theorem WB (dp:Dp) (h:MX k m q w) (Z:m.p=(j:Int)) (hR:k.T.drop j=R) (hl:k.T.length≤4611686018427387904) (hj:j≤k.T.length) (f:m.buf.length≤900000) (F:m.u.txt.length≤100000000) (E:m.st=10→m.buf.all nU=true) (D:j+1≤4611686018427387904) (y:m.st=18):Calls prog 16 #[.pointer (some ⟨k.g,0,none⟩)] w fun e w'=>e=.returned (.tuple #[])∧MX k (aX k.base m R) q w'∧True:=by
 have l:=hid h;have X:=hid Z;have W:=hid hR;have a1:=hid dp;have s:=hid f;have HS:=hid y;obtain⟨v,hv⟩:∃v,(cc R).toNat=v:=⟨_,rfl⟩;obtain⟨B,z⟩:∃B,m.buf=B:=⟨_,rfl⟩;have P:=hid z;have s:Hid (B.length≤900000):=by show _≤_;rw[←z];exact f
 obtain⟨c,Q⟩:∃c,cc R=c:=⟨_,rfl⟩;have O:=hid Q;obtain⟨b,H⟩:∃b,decide (R=[])=b:=⟨_,rfl⟩;have HB:=hid H;rcases b with _|_
 ·have Y:Hid (aX k.base m R={m with buf:=B++[c]}):=by
   show _=_;rw[Yg y];unfold wQ;rw[if_pos (of_decide_eq_false H),z,Q]
  clear h Z hR hl hj dp f F E D y hv z Q H;go_enter func16,ntmps16;go_wp2_with fail
  refine dO l (Zq l X W) fun w2 HM2=>?_;rw[O.out];have I:=HM2.x2;rw[HS.out]at I;go_wp2_with fail
  refine dO HM2 (lu HM2 X W HB) fun w3 HM3=>?_;go_wp2_with fail
  clear I;refine aV (by kernel_rfl) 11 [pg k.g 0,pg k.g 0,pg k.g 0,pg k.g 3,is (.string (ah B)),is (.int .u8 (c.toNat:Int)),row 1 (aQ [c]),is (.string (ah [c])),is (.string (ah (B++[c]))),pg k.g 0,pg k.g 3] [[],[],[1],[1,2],[1,2,3],[],[5],[5,6],[1,2,3,4,5,6,7],[0],[0,9],[0,1,2,3,4,5,6,7,8,9,10]] (by kernel_rfl) ?_ ?_
  ·refine ⟨?_,?_,?_,?_,?_,?_,?_,?_,?_,?_,?_,trivial⟩;all_goals(intro t C n hh K a;simp only[iD,oP,Act.put,Nat.reduceAdd,Nat.reduceEqDiff,reduceIte]at hh a⊢)
   iterate 4
    ·try simp only[hh]at a⊢
     clear hh;go_simp;exact a _ _ aT rfl
   ·try simp only[hh]at a⊢
    clear hh;have A:=(HM3.below n).x3;rw[P.out]at A;go_simp;exact a _ _ aT rfl
   ·try simp only[hh]at a⊢
    clear hh;go_simp;exact a _ _ aT rfl
   ·try simp only[hh]at a⊢
    clear hh;go_simp;exact a _ _ ((Below.refl _ _).alloc (Nat.le_refl _) _) ⟨_,_,rfl,Nat.le_refl _,by decide,iP C [c] 5 (0,0)⟩
   ·have e6:=hh.2.1;clear hh;obtain⟨A6,c6,e6,a5,a4,a0⟩:=e6;simp only[e6]at a⊢;have y:=bI 50 9 5 underlying50 underlying5 underlying9 _ c6 a0;go_simp;exact a _ _ aT rfl
   ·try simp only[hh]at a⊢
    clear hh;have a2:(Op.stringOp .add (ah B) (ah [c])).run prog C=.ok (.string (ah (B++[c]))) C:=bH _ _ C (by have:=s.out;simp;omega);go_simp;exact a _ _ aT rfl
   iterate 2
    ·try simp only[hh]at a⊢
     clear hh;go_simp;exact a _ _ aT rfl
  intro t C n hh;have V:=aO hh 8 (by decide);simp only[pick]at V;replace V:t 8=(.string (ah (B++[c]))):=V;have i:=aO hh 10 (by decide);simp only[pick]at i;replace i:t 10=(.pointer (some ⟨k.g,3,none⟩)):=i;clear hh;simp only[iD,oP,Act.put,Nat.reduceAdd,Nat.reduceEqDiff,reduceIte];simp only[V,i];have r:=hid (HM3.below n);have J:=hid (r.buf (B++[c]));have z3:=r.thaw 3;have A:=r.x3;go_wp2
  go_end0
  first|exact⟨rfl,by rw[Y.out];exact J,trivial⟩|exact⟨rfl,by rw[Y.out];exact J⟩
 have Y:Hid (aX k.base m R={m with u:={m.u with eY:=aG.enc 1 B},buf:=[]}):=by
  show _=_;rw[Yg y];unfold wQ;rw[if_neg (fun x=>x (of_decide_eq_true H)),z]
 clear h Z hR hl hj dp f F E D y hv z Q H;go_enter func16,ntmps16;go_wp2_with fail
 refine dO l (Zq l X W) fun w2 HM2=>?_;rw[O.out];have I:=HM2.x2;rw[HS.out]at I;go_wp2_with fail
 refine dO HM2 (lu HM2 X W HB) fun w3 HM3=>?_;have A:=HM3.x3;rw[P.out]at A;go_wp2_with fail
 refine(AY.ig 1 (ah B) _ (by have:=s.out;rw[ak];omega) (fun c w=>a1.inn _ c w)).mono ?_;rintro e9 w9 ⟨rfl,G⟩;have d:=hid (HM3.below G);clear G I A;have A:=d.x3;have a6:=d.x16;have z3:=d.thaw 3;have a3:=d.thaw 16;have N:=hid (d.ZT (aG.enc 1 B));have L:=hid (N.buf []);go_wp2
 go_end0
 exact⟨rfl,by rw[Y.out];exact L,trivial⟩
end acp
namespace Xa
open Go.RowKit mD iH jw aJ jW
structure Bs where
 u:Nat
 t:Nat
 p:Nat
def Qz (s:Bs) (b:U):Prop:=b.bY.length+b.bZ.length≤s.u∧b.txt.length≤s.t∧b.aF.length≤s.p
structure Bq (s:Bs) (m:M) (z:Int):Prop where
 p0:0≤z
 buf:(m.buf.length:Int)≤z
 cr:(m.u.bY.length:Int)+m.u.bZ.length+9*m.buf.length≤s.u+9*z
 tx:(m.u.txt.length:Int)≤s.t+3*z
 pt:(m.u.aF.length:Int)≤s.p+1+z
 lo:m.st≤1→m.u.bY=[]∧m.u.bZ=[]∧m.u.txt=[]
 lp:m.st≤14→m.u.aF=[]∧m.u.txt=[]
def Bd (s:Bs) (N:Nat) (m:M):Prop:=Bq s m (m.p+1)∧m.p≤N
def Bn (s:Bs) (R:List UInt8) (p:Int) (m:M):Prop:=m.st=19∨(R=[]∧m.p=p)∨Bq s m (m.p+2)
theorem Bq.more {s:Bs} {m:M} {z y:Int} (h:Bq s m z) (a:z≤y):Bq s m y:=
 ⟨by have:=h.p0;omega,by have:=h.buf;omega,by have:=h.cr;omega,by have:=h.tx;omega,by have:=h.pt;omega,h.lo,h.lp⟩
variable {s:Bs} {m:M} {R:List UInt8} {N:Nat}
theorem nC:∀(L:List UInt8) (m:M),(gY L m).p=m.p∧(gY L m).st=m.st∧(gY L m).buf=m.buf∧(gY L m).u.txt=m.u.txt∧(gY L m).u.aF=m.u.aF∧(gY L m).u.bY.length+(gY L m).u.bZ.length≤m.u.bY.length+m.u.bZ.length+3*L.length
 |[],m=>⟨rfl,rfl,rfl,rfl,rfl,Nat.le_add_right _ _⟩
 | c :: L, m => by
  unfold gY
  have i:=aG.fK 5 [c]
  simp only[List.length_cons,List.length_nil]at i
  split
  ·obtain⟨h,g,f,e,d,a⟩:=nC L {m with pass:=true}
   exact⟨h,g,f,e,d,by simp only[List.length_cons];simp only at a;omega⟩
  ·split
   ·obtain⟨h,g,f,e,d,a⟩:=nC L {m with u:={m.u with bZ:=m.u.bZ++aG.enc 5 [c]}}
    exact⟨h,g,f,e,d,by simp only[List.length_cons];simp only[List.length_append]at a;omega⟩
   ·obtain⟨h,g,f,e,d,a⟩:=nC L {m with u:={m.u with bY:=m.u.bY++aG.enc 5 [c]}}
    exact⟨h,g,f,e,d,by simp only[List.length_cons];simp only[List.length_append]at a;omega⟩
theorem yZ {m:M} {p:Int} (h:0≤m.p+2) (g:(m.buf.length:Int)≤m.p+2) (f:(m.u.bY.length:Int)+m.u.bZ.length+9*m.buf.length≤s.u+9*(m.p+2)) (q3:(m.u.txt.length:Int)≤s.t+3*(m.p+2)) (e:(m.u.aF.length:Int)≤s.p+1+(m.p+2)) (j:2≤m.st) (i:m.p=p) (d:bU R=true∨(m.st≤14→m.u.aF=[]∧m.u.txt=[])):Bn s R p (tail m R):=by
 unfold tail
 match R,d with
 |[],_=>exact .inr (.inl ⟨rfl,i⟩)
 |c::R,d=>
  simp only;split
  ·exact .inr (.inr ⟨h,g,f,q3,e,fun x=>absurd x (by simp[mv]),fun x=>absurd x (by simp[mv])⟩)
  split
  ·exact .inr (.inr ⟨h,g,f,q3,e,fun x=>absurd x (by simp[mv]),fun x=>absurd x (by simp[mv])⟩)
  rename_i a b;refine .inr (.inr ⟨h,g,f,q3,e,fun x=>absurd x (by omega),?_⟩);rcases d with d|d
  ·simp[bU,a,b]at d
  exact d
theorem lW (c:UInt8):(gB.lower [c]).length=1:=rfl
theorem abl (base:Option U) (l:∀b,base=some b→Qz s b) (h:Bd s N m) (J:0≤m.p) (aU:m.st≤19):Bn s R m.p (aX base m R):=by
 obtain⟨h,L⟩:=h;obtain⟨H,G,F,q3,E,v,j⟩:=h;have B:Qz s (base.getD U0):=by
  match base,l with
  |none,_=>exact⟨Nat.zero_le _,Nat.zero_le _,Nat.zero_le _⟩
  |some b,l=>exact l b rfl
 obtain⟨b1,b2,z⟩:=B;unfold aX;split
 ·
  rename_i e;obtain⟨i,g,f⟩:=v (by omega);obtain⟨a,d⟩:=j (by omega);unfold kR;split
  ·exact .inr (.inr ⟨by simp[mv,lW,i,g,f,a];omega,by simp[mv,lW,i,g,f,a];omega,by simp[mv,lW,i,g,f,a];omega,by simp[mv,lW,i,g,f,a];omega,by simp[mv,lW,i,g,f,a];omega,fun _=>⟨i,g,f⟩,fun _=>⟨a,d⟩⟩)
  exact .inr (.inr ⟨by simp[mv,i,g,f,a];omega,by simp[mv,i,g,f,a];omega,by simp[mv,i,g,f,a];omega,by simp[mv,i,g,f,a];omega,by simp[mv,i,g,f,a];omega,fun x=>absurd x (by simp[mv,i,g,f,a];try omega),fun _=>⟨a,d⟩⟩)
 ·
  rename_i e;obtain⟨i,g,f⟩:=v (by omega);obtain⟨a,d⟩:=j (by omega);unfold fB;split
  ·exact .inr (.inr ⟨by simp only;omega,by simp only[List.length_append,lW];omega,by simp only[List.length_append,lW,i,g,List.length_nil];omega,by simp only[f,List.length_nil];omega,by simp only[a,List.length_nil];omega,fun _=>⟨i,g,f⟩,fun _=>⟨a,d⟩⟩)
  split
  ·exact .inr (.inr ⟨by simp only;omega,by simp only[List.length_nil];omega,by simp only[i,g,List.length_nil];omega,by simp only[f,List.length_nil];omega,by simp only[a,List.length_nil];omega,fun x=>absurd x (by simp),fun _=>⟨a,d⟩⟩)
  simp only;split
  ·exact .inr (.inr ⟨by simp[mv,i,g,f,a];omega,by simp[mv,i,g,f,a];omega,by simp[mv,i,g,f,a];omega,by simp[mv,i,g,f,a];omega,by simp[mv,i,g,f,a];omega,fun x=>absurd x (by simp[mv,i,g,f,a];try omega),fun _=>⟨a,d⟩⟩)
  split
  ·exact .inr (.inr ⟨by simp[mv,i,g,f,a];omega,by simp[mv,i,g,f,a];omega,by simp[mv,i,g,f,a];omega,by simp[mv,i,g,f,a];omega,by simp[mv,i,g,f,a];omega,fun x=>absurd x (by simp[mv,i,g,f,a];try omega),fun _=>⟨a,d⟩⟩)
  split
  ·exact .inr (.inr ⟨by simp[mv,i,g,f,a];omega,by simp[mv,i,g,f,a];omega,by simp[mv,i,g,f,a];omega,by simp[mv,i,g,f,a];omega,by simp[mv,i,g,f,a];omega,fun x=>absurd x (by simp[mv,i,g,f,a];try omega),fun _=>⟨a,d⟩⟩)
  split
  ·exact .inr (.inr ⟨by simp[mv,i,g,f,a];omega,by simp[mv,i,g,f,a];omega,by simp[mv,i,g,f,a];omega,by simp[mv,i,g,f,a];omega,by simp[mv,i,g,f,a];omega,fun x=>absurd x (by simp[mv,i,g,f,a];try omega),fun _=>⟨a,d⟩⟩)
  exact .inr (.inr ⟨by simp[mv,i,g,f,a];omega,by simp[mv,i,g,f,a];omega,by simp[mv,i,g,f,a];omega,by simp[mv,i,g,f,a];omega,by simp[mv,i,g,f,a];omega,fun x=>absurd x (by simp[mv,i,g,f,a];try omega),fun x=>absurd x (by simp[mv,i,g,f,a];try omega)⟩)
 ·
  rename_i e;obtain⟨a,d⟩:=j (by omega);unfold wR
  match base,l with
  |none,_=>exact .inl rfl
  | some b,l=>
   obtain⟨b1,b2,z⟩:=l b rfl;simp only;split
   ·exact .inl rfl
   split
   ·exact yZ (by simp only;omega) (by simp only;omega) (by simp only;omega) (by simp only;omega) (by simp only[a,List.length_nil];omega) (by simp only;omega) rfl (.inl (by
     rename_i k n
     match R,k with
     |[],k=>exact absurd ⟨n,.inl rfl⟩ k
     |c::R,k=>
      by_cases hc:c=35
      ·simp[bU,hc]
      exact absurd ⟨n,.inr hc⟩ k))
   split
   ·exact .inr (.inr ⟨by simp[mv,a,d];omega,by simp[mv,a,d];omega,by simp[mv,a,d];omega,by simp[mv,a,d];omega,by simp[mv,a,d];omega,fun x=>absurd x (by simp[mv,a,d];try omega),fun _=>⟨a,d⟩⟩)
   exact .inr (.inr ⟨by simp[mv,a,d];omega,by simp[mv,a,d];omega,by simp[mv,a,d];omega,by simp[mv,a,d];omega,by simp[mv,a,d];omega,fun x=>absurd x (by simp[mv,a,d];try omega),fun _=>⟨a,d⟩⟩)
 ·
  rename_i e;obtain⟨a,d⟩:=j (by omega);unfold jo;split
  ·exact .inr (.inr ⟨by simp[mv,a,d];omega,by simp[mv,a,d];omega,by simp[mv,a,d];omega,by simp[mv,a,d];omega,by simp[mv,a,d];omega,fun x=>absurd x (by simp[mv,a,d];try omega),fun _=>⟨a,d⟩⟩)
  exact .inr (.inr ⟨by simp[mv,a,d];omega,by simp[mv,a,d];omega,by simp[mv,a,d];omega,by simp[mv,a,d];omega,by simp[mv,a,d];omega,fun x=>absurd x (by simp[mv,a,d];try omega),fun _=>⟨a,d⟩⟩)
 ·
  rename_i e;obtain⟨a,d⟩:=j (by omega);unfold kQ;split
  ·exact .inr (.inr ⟨by simp[begin',mv,a,d];omega,by simp[begin',mv,a,d];omega,by simp[begin',mv,a,d];omega,by simp[begin',mv,a,d];omega,by simp[begin',mv,a,d];omega,fun x=>absurd x (by simp[begin',mv,a,d];try omega),fun _=>⟨a,d⟩⟩)
  exact .inr (.inr ⟨by simp[mv,a,d];omega,by simp[mv,a,d];omega,by simp[mv,a,d];omega,by simp[mv,a,d];omega,by simp[mv,a,d];omega,fun x=>absurd x (by simp[mv,a,d];try omega),fun x=>absurd x (by simp[mv,a,d];try omega)⟩)
 ·
  rename_i e;obtain⟨a,d⟩:=j (by omega);unfold lG;have w:(iW false (base.getD U0).aF).length≤(base.getD U0).aF.length:=by rw[nI];split<;>omega
  simp only;split
  ·exact .inr (.inr ⟨by simp[mv,a,d];omega,by simp[mv,a,d];omega,by simp[mv,a,d];omega,by simp[mv,a,d];omega,by simp[mv,a,d];omega,fun x=>absurd x (by simp[mv,a,d];try omega),fun _=>⟨a,d⟩⟩)
  split
  ·rename_i aU;exact yZ (by simp[lI];omega) (by simp[lI];omega) (by simp[lI];omega) (by simp[lI];omega) (by simp[lI];omega) (by simp[lI];omega) rfl (.inl aU)
  exact .inr (.inr ⟨by simp[lI,mv];omega,by simp[lI,mv];omega,by simp[lI,mv];omega,by simp[lI,mv];omega,by simp[lI,mv];omega,fun x=>absurd x (by simp[lI,mv];try omega),fun x=>absurd x (by simp[lI,mv];try omega)⟩)
 ·
  rename_i e;obtain⟨a,d⟩:=j (by omega);unfold iV;split
  ·exact .inr (.inr ⟨by simp[mv,a,d];omega,by simp[mv,a,d];omega,by simp[mv,a,d];omega,by simp[mv,a,d];omega,by simp[mv,a,d];omega,fun x=>absurd x (by simp[mv,a,d];try omega),fun _=>⟨a,d⟩⟩)
  split
  ·exact .inr (.inr ⟨by simp[begin',mv,a,d];omega,by simp[begin',mv,a,d];omega,by simp[begin',mv,a,d];omega,by simp[begin',mv,a,d];omega,by simp[begin',mv,a,d];omega,fun x=>absurd x (by simp[begin',mv,a,d];try omega),fun _=>⟨a,d⟩⟩)
  exact .inr (.inr ⟨by simp[lI,mv,a,d];omega,by simp[lI,mv,a,d];omega,by simp[lI,mv,a,d];omega,by simp[lI,mv,a,d];omega,by simp[lI,mv,a,d];omega,fun x=>absurd x (by simp[lI,mv,a,d];try omega),fun x=>absurd x (by simp[lI,mv,a,d];try omega)⟩)
 ·
  rename_i e;obtain⟨a,d⟩:=j (by omega);unfold Dn;split
  ·exact .inr (.inr ⟨by simp[begin',mv,a,d];omega,by simp[begin',mv,a,d];omega,by simp[begin',mv,a,d];omega,by simp[begin',mv,a,d];omega,by simp[begin',mv,a,d];omega,fun x=>absurd x (by simp[begin',mv,a,d];try omega),fun _=>⟨a,d⟩⟩)
  exact .inr (.inr ⟨by omega,by omega,by omega,by omega,by omega,fun x=>absurd x (by omega),fun _=>⟨a,d⟩⟩)
 ·
  rename_i e;obtain⟨a,d⟩:=j (by omega);unfold kF;split
  ·obtain⟨k,n,D,t,r,C⟩:=nC (if m.sign=true then[37,52,48]++m.buf else m.buf) {m with sign:=true};have O:(if m.sign=true then[37,52,48]++m.buf else m.buf).length≤m.buf.length+3:=by split<;>simp
   simp only at k n D t r C;exact .inr (.inr ⟨by simp only[k];omega,by simp only[k,List.length_nil];omega,by simp only[k,List.length_nil];omega,by simp only[k,t,d,List.length_nil];omega,by simp only[k,r,a,List.length_nil];omega,fun x=>absurd x (by simp only[n];omega),fun _=>by simp only[r,t];exact⟨a,d⟩⟩)
  split
  ·split
   ·exact .inl rfl
   exact .inr (.inr ⟨by simp only;omega,by simp only[List.length_nil];omega,by simp only[List.length_nil];omega,by simp only[d,List.length_nil];omega,by simp only[a,List.length_nil];omega,fun x=>absurd x (by simp),fun _=>⟨a,d⟩⟩)
  exact .inr (.inr ⟨by simp only;omega,by simp only[List.length_append,List.length_cons,List.length_nil];omega,by simp only[List.length_append,List.length_cons,List.length_nil];omega,by simp only;omega,by simp only;omega,fun x=>absurd x (by simp only;omega),fun _=>⟨a,d⟩⟩)
 ·
  rename_i e;obtain⟨a,d⟩:=j (by omega);unfold kG;split
  ·split
   ·exact .inl rfl
   split
   ·exact .inl rfl
   exact .inr (.inr ⟨by simp[meet,mv,a,d];omega,by simp[meet,mv,a,d];omega,by simp[meet,mv,a,d];omega,by simp[meet,mv,a,d];omega,by simp[meet,mv,a,d];omega,fun x=>absurd x (by simp[meet,mv,a,d];try omega),fun _=>⟨a,d⟩⟩)
  split
  ·split
   ·exact .inl rfl
   split
   ·exact .inl rfl
   exact .inr (.inr ⟨by simp[meet,mv,a,d];omega,by simp[meet,mv,a,d];omega,by simp[meet,mv,a,d];omega,by simp[meet,mv,a,d];omega,by simp[meet,mv,a,d];omega,fun x=>absurd x (by simp[meet,mv,a,d];try omega),fun _=>⟨a,d⟩⟩)
  exact .inr (.inr ⟨by simp only;omega,by simp only[List.length_append,List.length_cons,List.length_nil];omega,by simp only[List.length_append,List.length_cons,List.length_nil];omega,by simp only;omega,by simp only;omega,fun x=>absurd x (by simp only;omega),fun _=>⟨a,d⟩⟩)
 ·
  rename_i e;obtain⟨a,d⟩:=j (by omega);unfold gW;split
  ·exact .inr (.inr ⟨by simp only;omega,by simp only[List.length_append,List.length_cons,List.length_nil];omega,by simp only[List.length_append,List.length_cons,List.length_nil];omega,by simp only;omega,by simp only;omega,fun x=>absurd x (by simp only;omega),fun _=>⟨a,d⟩⟩)
  split
  ·exact .inl rfl
  split
  ·exact .inr (.inr ⟨by simp[mv,a,d];omega,by simp[mv,a,d];omega,by simp[mv,a,d];omega,by simp[mv,a,d];omega,by simp[mv,a,d];omega,fun x=>absurd x (by simp[mv,a,d];try omega),fun _=>⟨a,d⟩⟩)
  split
  ·exact .inl rfl
  exact .inr (.inr ⟨by simp[mv,a,d];omega,by simp[mv,a,d];omega,by simp[mv,a,d];omega,by simp[mv,a,d];omega,by simp[mv,a,d];omega,fun x=>absurd x (by simp[mv,a,d];try omega),fun _=>⟨a,d⟩⟩)
 ·
  rename_i e;obtain⟨a,d⟩:=j (by omega);unfold jc;simp only;split
  ·exact .inr (.inr ⟨by simp[mv,a,d];omega,by simp[mv,a,d];omega,by simp[mv,a,d];omega,by simp[mv,a,d];omega,by simp[mv,a,d];omega,fun x=>absurd x (by simp[mv,a,d];try omega),fun _=>⟨a,d⟩⟩)
  split
  ·exact .inr (.inr ⟨by simp[mv,a,d];omega,by simp[mv,a,d];omega,by simp[mv,a,d];omega,by simp[mv,a,d];omega,by simp[mv,a,d];omega,fun x=>absurd x (by simp[mv,a,d];try omega),fun x=>absurd x (by simp[mv,a,d];try omega)⟩)
  rename_i b hf;have q:base=some b:=by
   match base,hf with
   |some c,hf=>simp only[Option.filter]at hf;split at hf<;>simp_all
  obtain⟨b1,b2,z⟩:=l b q;have w:(iW true b.aF).length≤b.aF.length:=by rw[nI];split<;>omega
  split
  ·rename_i aU;exact yZ (by simp only;omega) (by simp only;omega) (by simp only;omega) (by simp only;omega) (by simp only;omega) (by simp only;omega) rfl (.inl aU)
  refine .inr (.inr ⟨by simp[mv];omega,by simp[mv];omega,by simp[mv];omega,by simp[mv];omega,?_,fun x=>absurd x (by simp[mv]),fun x=>absurd x (by simp[mv])⟩);simp only[mv,if_true];split
  ·simp only[List.length_nil];omega
  omega
 ·
  rename_i e;obtain⟨a,d⟩:=j (by omega);unfold dR;split
  ·exact .inr (.inr ⟨by simp[mv,a,d];omega,by simp[mv,a,d];omega,by simp[mv,a,d];omega,by simp[mv,a,d];omega,by simp[mv,a,d];omega,fun x=>absurd x (by simp[mv,a,d];try omega),fun _=>⟨a,d⟩⟩)
  split
  ·exact .inr (.inr ⟨by simp[mv,a,d];omega,by simp[mv,a,d];omega,by simp[mv,a,d];omega,by simp[mv,a,d];omega,by simp[mv,a,d];omega,fun x=>absurd x (by simp[mv,a,d];try omega),fun x=>absurd x (by simp[mv,a,d];try omega)⟩)
  rename_i b hf;have I:(b.aF.take 1).length≤1:=by rw[List.length_take];omega
  refine .inr (.inr ⟨by simp[mv];omega,by simp[mv];omega,by simp[mv];omega,by simp[mv];omega,?_,fun x=>absurd x (by simp[mv]),fun x=>absurd x (by simp[mv])⟩);simp only[mv,if_true,a,List.nil_append];split
  ·omega
  simp only[List.length_nil];omega
 ·
  rename_i e;obtain⟨a,d⟩:=j (by omega);unfold dA;split
  ·exact .inr (.inr ⟨by simp only;omega,by simp only[List.length_append,List.length_cons,List.length_nil];omega,by simp only[List.length_append,List.length_cons,List.length_nil];omega,by simp only;omega,by simp only;omega,fun x=>absurd x (by simp only;omega),fun _=>⟨a,d⟩⟩)
  split
  ·exact .inr (.inr ⟨by simp[mv,a,d];omega,by simp[mv,a,d];omega,by simp[mv,a,d];omega,by simp[mv,a,d];omega,by simp[mv,a,d];omega,fun x=>absurd x (by simp[mv,a,d];try omega),fun x=>absurd x (by simp[mv,a,d];try omega)⟩)
  split
  ·exact .inr (.inr ⟨by simp[mv,a,d];omega,by simp[mv,a,d];omega,by simp[mv,a,d];omega,by simp[mv,a,d];omega,by simp[mv,a,d];omega,fun x=>absurd x (by simp[mv,a,d];try omega),fun _=>⟨a,d⟩⟩)
  split
  ·exact .inl rfl
  exact .inr (.inr ⟨by simp[meet,mv,a,d];omega,by simp[meet,mv,a,d];omega,by simp[meet,mv,a,d];omega,by simp[meet,mv,a,d];omega,by simp[meet,mv,a,d];omega,fun x=>absurd x (by simp[meet,mv,a,d];try omega),fun _=>⟨a,d⟩⟩)
 ·
  rename_i e;obtain⟨a,d⟩:=j (by omega);unfold eF;have y:∀x:Bool,Bn s R m.p (mv m 15 x):=fun x=>by
   cases x
   ·exact .inr (.inr ⟨by simp[mv,a,d];omega,by simp[mv,a,d];omega,by simp[mv,a,d];omega,by simp[mv,a,d];omega,by simp[mv,a,d];omega,fun x=>absurd x (by simp[mv,a,d];try omega),fun x=>absurd x (by simp[mv,a,d];try omega)⟩)
   exact .inr (.inr ⟨by simp[mv,a,d];omega,by simp[mv,a,d];omega,by simp[mv,a,d];omega,by simp[mv,a,d];omega,by simp[mv,a,d];omega,fun x=>absurd x (by simp[mv,a,d];try omega),fun x=>absurd x (by simp[mv,a,d];try omega)⟩)
  split
  ·exact y _
  split
  ·rename_i aU;exact yZ (by omega) (by omega) (by omega) (by omega) (by omega) (by omega) rfl (.inl aU)
  exact y _
 ·
  rename_i e;unfold iy;split
  ·exact .inr (.inr ⟨by simp only;omega,by simp only[List.length_append,List.length_cons,List.length_nil];omega,by simp only[List.length_append,List.length_cons,List.length_nil];omega,by simp only;omega,by simp only;omega,fun x=>absurd x (by simp only;omega),fun x=>absurd x (by simp only;omega)⟩)
  have w:=nJ (decide (m.u.au=ay)) (!kL (sp m) R) m.u.aF m.buf;exact yZ (by simp only;omega) (by simp only[List.length_nil];omega) (by simp only[List.length_nil];omega) (by simp only;omega) (by simp only;omega) (by simp only;omega) rfl (.inr fun x=>absurd x (by simp only;omega))
 ·
  rename_i e;unfold qE;split
  ·exact yZ (by omega) (by omega) (by omega) (by omega) (by omega) (by omega) rfl (.inr fun x=>absurd x (by omega))
  split
  ·exact .inr (.inr ⟨by simp only;omega,by simp only;omega,by simp only;omega,by simp only[List.length_append,List.length_cons,List.length_nil];omega,by simp only;omega,fun x=>absurd x (by simp only;omega),fun x=>absurd x (by simp only;omega)⟩)
  have A:=aG.fK 0 [cc R];simp only[List.length_cons,List.length_nil]at A;exact .inr (.inr ⟨by simp only;omega,by simp only;omega,by simp only;omega,by simp only[List.length_append];omega,by simp only;omega,fun x=>absurd x (by simp only;omega),fun x=>absurd x (by simp only;omega)⟩)
 ·
  rename_i e;unfold oW;split
  ·exact .inr (.inr ⟨by simp only;omega,by simp only[List.length_append,List.length_cons,List.length_nil];omega,by simp only[List.length_append,List.length_cons,List.length_nil];omega,by simp only;omega,by simp only;omega,fun x=>absurd x (by simp only;omega),fun x=>absurd x (by simp only;omega)⟩)
  exact yZ (by simp only;omega) (by simp only[List.length_nil];omega) (by simp only[List.length_nil];omega) (by simp only;omega) (by simp only;omega) (by simp only;omega) rfl (.inr fun x=>absurd x (by simp only;omega))
 ·
  rename_i e;unfold wQ;split
  ·exact .inr (.inr ⟨by simp only;omega,by simp only[List.length_append,List.length_cons,List.length_nil];omega,by simp only[List.length_append,List.length_cons,List.length_nil];omega,by simp only;omega,by simp only;omega,fun x=>absurd x (by simp only;omega),fun x=>absurd x (by simp only;omega)⟩)
  rename_i hr;exact .inr (.inl ⟨by simpa using hr,rfl⟩)
 simp only[imp_false]at*;exact .inl (by omega)
end Xa
