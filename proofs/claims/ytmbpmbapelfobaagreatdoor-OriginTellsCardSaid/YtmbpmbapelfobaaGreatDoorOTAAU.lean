/- Lemmas. -/
import Derived.Test.YtmbpmbapelfobaaGreatDoorOTAAT
import Derived.Test.YtmbpmbapelfobaaGreatDoorOTAAR
set_option linter.unusedSimpArgs false
set_option linter.unusedVariables false
set_option maxRecDepth 100000
set_option maxHeartbeats 64000000
namespace Go.Proofs.YtmbpmbapelfobaaGreatDoor
open Tryz
namespace aer
open Go.RowKit Base aV dJ iy jr aC jq jY fF vO xQ yw Dq YD YF
variable {k:K} {m:M} {q:Value} {w:World} {j:Nat} {R:List UInt8}
theorem LD (hk : KB k) (Z : k.n ≤ 400000) (a0 : k.T.length ≤ 1000000) (h : MX k m q w) (hz : m.p = (j : Int)) (hR : k.T.drop j = R) (hl : k.T.length ≤ 4611686018427387904) (hj : j ≤ k.T.length) (L : m.u.aF.length ≤ 500000) : Calls prog 59 #[.pointer (some ⟨k.g, 0, none⟩)] w fun e w' => e = .returned (.tuple #[]) ∧ ∃ q', MX k (dN k.base m R) q' w' := by
 obtain⟨i0,hi,e6,e5,e3⟩:=info_parts iW;have HP:=hid hz;have HR:=hid hR;have HZ:Hid (-4611686018427387904≤m.p∧m.p≤4611686018427387904):=⟨by omega,by omega⟩;have J:k.n=k.b.aF.length:=by have:=hk.Ue.1;rw[List.length_map]at this;exact this.symm
 obtain⟨l,a⟩:∃l,kR (sp m) R=l:=⟨_,rfl⟩;have HL:=hid a;obtain⟨bh,hh⟩:∃x,k.has=x:=⟨_,rfl⟩;have HH:=hid hh;obtain⟨S,hS⟩:∃S,k.b.au=S:=⟨_,rfl⟩;have a9:=hid hS;obtain⟨X,hX⟩:∃X,X=ah R:=⟨_,rfl⟩;have HX:Hid (ah (k.T.drop j)=X):=by show _=_;rw[hX,hR]
 have b7:Hid (X.size≤1073741824):=by show _≤_;rw[hX,ak,←hR,List.length_drop];omega
 obtain⟨bg,H⟩:∃x,pR R=x:=⟨_,rfl⟩;have c0:Hid (pR X.data.toList=bg):=by show _=_;rw[hX,←H];rfl
 obtain⟨P,hP⟩:∃P,m.u.aF=P:=⟨_,rfl⟩;obtain⟨N,hN⟩:∃N,P.length=N:=⟨_,rfl⟩;have e0:=hid hN;have f3:Hid (N≤500000):=by show _≤_;rw[←hN,←hP];exact L
 obtain⟨qA,qc,e7,W,Y,V⟩:=aW (h.BN hP hN);subst e7;have f:=hid h;rcases l with _|_
 ·rcases bh with _|_
  ·skip
   have HO:Hid (dN k.base m R=mv m 15 true):=by
    show _=_;unfold dN;rw[if_neg (by rw[a];decide),Ju (.inl hh)];try rfl
   clear a hh hS hX H hP hN W Y V L hk J Z a0;clear h hz hR hl hj;go_enter func59,ntmps59;go_wp2_with fail
   refine dP f (bK f HP HR HL) fun w2 HM2=>?_;have d:=HM2.x30;rw[HH.out]at d;go_wp2_with fail
   refine jK (iP HM2 HZ 15 true) fun w3 s=>?_;go_wp2;first|go_end0|((try simp only[Exit.inBlock,Exit.then]);refine eU rfl rfl ?_)
   exact⟨rfl,_,by rw[HO.out];exact s⟩
  by_cases hf:S=aB
  ·have a5 : Hid (((ah S).toList == [102, 105, 108, 101]) = true) := by show _ = _; rw [mW.dU]; exact decide_eq_true hf
   obtain⟨m2,D⟩:∃x,x={m with u:={m.u with aS:=k.b.aS}}:=⟨_,rfl⟩;have b8:=hid D;have b6:Hid (-4611686018427387904≤m2.p∧m2.p≤4611686018427387904):=by show _∧_;rw[D];exact HZ
   have d8:Hid (m2.u.aF=P):=by show _=_;rw[D];exact hP
   rcases bg with _|_
   ·obtain ⟨bp,G⟩:∃x,k.b.aF=x:=⟨_,rfl⟩;rcases bp with _|⟨x,xs⟩
    ·have d6:k.n=0:=by rw[J,G];rfl
     have d0:k.qb=.slice k.A 0 k.c:=by show Value.slice k.A k.n k.c=_;rw[d6]
     have b0:=hid d0;have HO:Hid (dN k.base m R=mv m2 15 true):=by
      show _=_;unfold dN;rw[if_neg (by rw[a];decide),zD hh (hS.trans hf)];dsimp only;rw[D,if_neg (by rw[G];intro y;exact absurd y.2 (by decide))]
     clear a hh hS hX H hP hN W Y V L hk J Z a0 hf G d6 d0 D;clear h hz hR hl hj;go_enter func59,ntmps59;go_wp2_with fail
     refine dP f (bK f HP HR HL) fun w2 HM2=>?_;have d:=HM2.x30;rw[HH.out]at d;have r:=HM2.x17;rw[a9.out]at r;have O:=a5.out;have a1:=HM2.x20;have c7:=HM2.x7;have z7:=HM2.thaw 7;have s:=hid (HM2.uf k.b.aS);have F:=hid (s.as b8);have c1:=HM2.x1j HP;go_wp2_with fail
     clear d r O a1 c7 z7 c1;refine(qL F j).mono ?_;rintro e4 w4 ⟨rfl,E⟩;rw[HX.out];have z:=hid (F.below E);clear E;go_wp2_with fail
     refine(KL.lK X _ b7).mono ?_;rintro e_ w_ ⟨rfl,C⟩;subst C;rw[c0.out];have Q:=z.x25;rw[b0.out]at Q;go_wp2_with fail
     refine jK (iP z b6 15 true) fun w5 HM5=>?_;go_wp2;first|go_end0|((try simp only[Exit.inBlock,Exit.then]);refine eU rfl rfl ?_)
     exact⟨rfl,_,by rw[HO.out];exact HM5⟩
    obtain⟨nz,a7⟩:∃y,wG x.data.toList=y:=⟨_,rfl⟩;have d9:=hid a7;have I:0<k.n:=by rw[J,G];exact Nat.succ_pos _
    obtain⟨g0,o0,hA,d7,_⟩:=hk.Ue.spot I;have b0:Hid (k.qb=.slice (some ⟨g0,o0,none⟩) k.n k.c):=by show Value.slice k.A k.n k.c=_;rw[hA]
    have c6:Hid (∀(m':M) (q':Value) (w':World),MX k m' q' w'→w'.cell? ⟨g0,o0,none⟩=some (.string x)):=fun m' q' w' h=>by
     have hr:=h.Ue hk;obtain⟨b,off,e,_,hc⟩:=hr.2 0 (by rw[G];exact Nat.succ_pos _);rw[hA]at e;injection e with e
     injection e with e1 e2
     subst e1 e2;simpa[G]using hc
    have c5:=hid I;rcases nz with _|_
    ·have HO:Hid (dN k.base m R=mv m2 15 true):=by
      show _=_;unfold dN;rw[if_neg (by rw[a];decide),zD hh (hS.trans hf)];dsimp only;rw[D,G,if_neg (by intro y;have:wG x.data.toList=true:=y.2;rw[a7]at this;cases this)];try rfl
     clear a hh hS hX H hP hN W Y V L hk J Z a0 hf G I a7 d7 hA D;clear h hz hR hl hj;go_enter func59,ntmps59;go_wp2_with fail
     refine dP f (bK f HP HR HL) fun w2 HM2=>?_;have d:=HM2.x30;rw[HH.out]at d;have r:=HM2.x17;rw[a9.out]at r;have O:=a5.out;have a1:=HM2.x20;have c7:=HM2.x7;have z7:=HM2.thaw 7;have s:=hid (HM2.uf k.b.aS);have F:=hid (s.as b8);have c1:=HM2.x1j HP;go_wp2_with fail
     clear d r O a1 c7 z7 c1;refine(qL F j).mono ?_;rintro e4 w4 ⟨rfl,E⟩;rw[HX.out];have z:=hid (F.below E);clear E;go_wp2_with fail
     refine(KL.lK X _ b7).mono ?_;rintro e_ w_ ⟨rfl,C⟩;subst C;rw[c0.out];have Q:=z.x25;rw[b0.out]at Q;have c2:=c6 _ _ _ z;have I:=c5.out;have a3:(0:Int)<(k.n:Int):=by omega
     have a2:¬(k.n:Int)≤0:=by omega
     go_wp2_with fail
     refine(sK.jU x _).mono ?_;rintro e_ w_ ⟨rfl,C⟩;subst C;rw[d9.out];clear I a3 a2;go_wp2_with fail
     refine jK (iP z b6 15 true) fun w5 HM5=>?_;go_wp2;first|go_end0|((try simp only[Exit.inBlock,Exit.then]);refine eU rfl rfl ?_)
     exact⟨rfl,_,by rw[HO.out];exact HM5⟩
    have HO:Hid (dN k.base m R=mv {m2 with u:={m2.u with aF:=P++[x]}} 15 true):=by
     show _=_;unfold dN;rw[if_neg (by rw[a];decide),zD hh (hS.trans hf)];dsimp only;rw[D,G,if_pos ⟨H,a7⟩,hP];try rfl
    clear a hh hS hX H hP hN W Y V L hk J Z a0 hf G I a7 d7 hA D;clear h hz hR hl hj;go_enter func59,ntmps59;go_wp2_with fail
    refine dP f (bK f HP HR HL) fun w2 HM2=>?_;have d:=HM2.x30;rw[HH.out]at d;have r:=HM2.x17;rw[a9.out]at r;have O:=a5.out;have a1:=HM2.x20;have c7:=HM2.x7;have z7:=HM2.thaw 7;have s:=hid (HM2.uf k.b.aS);have F:=hid (s.as b8);have c1:=HM2.x1j HP;go_wp2_with fail
    clear d r O a1 c7 z7 c1;refine(qL F j).mono ?_;rintro e4 w4 ⟨rfl,E⟩;rw[HX.out];have z:=hid (F.below E);clear E;go_wp2_with fail
    refine(KL.lK X _ b7).mono ?_;rintro e_ w_ ⟨rfl,C⟩;subst C;rw[c0.out];have Q:=z.x25;rw[b0.out]at Q;have c2:=c6 _ _ _ z;have I:=c5.out;have a3:(0:Int)<(k.n:Int):=by omega
    have a2:¬(k.n:Int)≤0:=by omega
    go_wp2_with fail
    refine(sK.jU x _).mono ?_;rintro e_ w_ ⟨rfl,C⟩;subst C;rw[d9.out];go_wp2_with fail
    clear Q c2 a3 a2 I;have a4:=hid (z.below (w':=w4.drew) ⟨rfl,rfl,rfl,Nat.le_refl _,fun _ _=>rfl⟩);have e8:=f3.out;try generalize decide ((0:Int)<(k.n:Int))=gk
    refine wp_region_any (by kernel_rfl) ?_;change wpAny _ _ _ _ _ _ _ (World.drew _);refine wpAny_take (i:=0) (v:=(.pointer (some ⟨k.g,0,none⟩))) rfl (by kernel_rfl) (by kernel_rfl) (by kernel_rfl) (fun _ _ _ h=>h) (Or.inl ⟨by rfl,?yy0⟩) ?_;case yy0=>(intro w;go_simp;try with_reducible rfl)
    simp only[List.getElem_toArray,List.getElem_cons_zero,List.getElem_cons_succ,Act.put,List.setIfInBounds_toArray,List.set_cons_zero,List.set_cons_succ];refine Gq 14 [pg k.g 0,pg k.g 0,pg k.g 0,pg k.g 4,pg k.g 12,is (.slice qA N qc),pg k.g 0,pg k.g 0,pg k.g 17,pg k.g 25,is (.slice (some ⟨g0,o0,none⟩) k.n k.c),is (.pointer (some ⟨g0,o0,none⟩)),is (.string x),row 1 [Value.string x]] [[],[],[1],[1,2],[1,2,3],[1,2,3,4],[],[6],[6,7],[6,7,8],[6,7,8,9],[6,7,8,9,10],[6,7,8,9,10,11],[6,7,8,9,10,11,12],[1,2,3,4,5,6,7,8,9,10,11,12,13]] [0] (by kernel_rfl) (by kernel_rfl) (by kernel_rfl) ?_ ?_ ?_
    ·intro k hk;simp only[List.mem_cons,List.not_mem_nil,or_false]at hk;subst hk;rfl
    ·refine ⟨?_,?_,?_,?_,?_,?_,?_,?_,?_,?_,?_,?_,?_,?_,trivial⟩;all_goals(intro t wq a8 hh K hK;simp only[iQ,qQ,Act.put,Nat.reduceAdd,Nat.reduceEqDiff,reduceIte]at hh hK⊢;(try simp only[hh]at hK⊢);clear hh)
     iterate 5
      ·go_simp;exact hK _ _ aZ rfl
     ·have f2:=(a4.below a8).x12;go_simp;exact hK _ _ aZ rfl
     iterate 4
      ·go_simp;exact hK _ _ aZ rfl
     ·have Q:=(a4.below a8).x25;rw[b0.out]at Q;go_simp;exact hK _ _ aZ rfl
     ·have I:=c5.out;have a3:(0:Int)<(k.n:Int):=by omega
      have a2:¬(k.n:Int)≤0:=by omega
      go_simp;exact hK _ _ aZ rfl
     ·have c2:=c6 _ _ _ (a4.below a8);go_simp;exact hK _ _ aZ rfl
     go_simp;exact hK _ _ ((Below.refl _ _).alloc (Nat.le_refl _) _) ⟨_,_,rfl,Nat.le_refl _,by decide,made1 _ _⟩
    intro t wq a8 hh;have f0:=aO hh 0 (by decide);simp only[pick]at f0;replace f0:t 0=(.pointer (some ⟨k.g,0,none⟩)):=f0;have f5:=aO hh 5 (by decide);simp only[pick]at f5;replace f5:t 5=(.slice qA N qc):=f5;have b5:=aO hh 13 (by decide);simp only[pick]at b5;clear hh;simp only[iQ,qQ,Act.put,Nat.reduceAdd,Nat.reduceEqDiff,reduceIte];obtain⟨g3,f1,b5,f7,f6,c9⟩:=b5;simp only[f0,f5,b5];have c4:=hid (a4.below a8);obtain⟨b9,o9,rfl,g2,e9⟩:=c9.spot (by decide);have d5:=c4.BN d8 e0;show wpList _ _ _ [_,_,_,_,_] _ _;refine wpList_append_own _ rfl _ _ 23 rfl k.B 9 i0 (.string ByteArray.empty) 1 16 underlying23 hi e6 e5 e3 rfl (by decide) (.slice qA N qc) N (P.map Value.string) rfl d5 ⟨b9,o9,none⟩ 1 f1 [Value.string x] rfl rfl ?d1 (by intro u hu;simp at hu;subst hu;rfl) ?d2 ?d3 ?d4 ?_;case d1=>intro j u hj;match j,hj with|0,hj=>(simp at hj;subst hj;simpa[Addr.add]using e9 0 Nat.zero_lt_one)
    case d2=>unfold maxLen;omega
    case d3=>omega
    case d4=>exact c4.size
    intro v6 w6 a6 b3 _;have c3:=c4.grown b3;obtain⟨g1,f9,c8,_⟩:=aW a6;subst c8;have f4:=hid (c3.ug (zZ e0 a6));have f2:=c3.x12;have f8:=c3.thaw 12;go_wp2_with fail
    refine jK (iP f4 b6 15 true) fun w9 HM9=>?_;go_wp2;first|go_end0|((try simp only[Exit.inBlock,Exit.then]);refine eU rfl rfl ?_)
    exact⟨rfl,_,by rw[HO.out];exact HM9⟩
   have HO:Hid (dN k.base m R=mv m2 15 true):=by
    show _=_;unfold dN;rw[if_neg (by rw[a];decide),zD hh (hS.trans hf)];dsimp only;rw[D,if_neg (by intro y;rw[H]at y;cases y.1)]
   clear a hh hS hX H hP hN W Y V L hk J Z a0 hf D;clear h hz hR hl hj;go_enter func59,ntmps59;go_wp2_with fail
   refine dP f (bK f HP HR HL) fun w2 HM2=>?_;have d:=HM2.x30;rw[HH.out]at d;have r:=HM2.x17;rw[a9.out]at r;have O:=a5.out;have a1:=HM2.x20;have c7:=HM2.x7;have z7:=HM2.thaw 7;have s:=hid (HM2.uf k.b.aS);have F:=hid (s.as b8);have c1:=HM2.x1j HP;go_wp2_with fail
   clear d r O a1 c7 z7 c1;refine(qL F j).mono ?_;rintro e4 w4 ⟨rfl,E⟩;rw[HX.out];have z:=hid (F.below E);clear E;go_wp2_with fail
   refine(KL.lK X _ b7).mono ?_;rintro e_ w_ ⟨rfl,C⟩;subst C;rw[c0.out];go_wp2_with fail
   refine jK (iP z b6 15 true) fun w5 HM5=>?_;go_wp2;first|go_end0|((try simp only[Exit.inBlock,Exit.then]);refine eU rfl rfl ?_)
   exact⟨rfl,_,by rw[HO.out];exact HM5⟩
  have a5:Hid (((ah S).toList==[102,105,108,101])=false):=by show _=_;rw[mW.dU];exact decide_eq_false hf
  have HO:Hid (dN k.base m R=mv m 15 true):=by
   show _=_;unfold dN;rw[if_neg (by rw[a];decide),Ju (.inr (fun x=>hf (hS.symm.trans x)))];try rfl
  clear a hh hS hX H hP hN W Y V L hk J Z a0 hf;clear h hz hR hl hj;go_enter func59,ntmps59;go_wp2_with fail
  refine dP f (bK f HP HR HL) fun w2 HM2=>?_;have d:=HM2.x30;rw[HH.out]at d;have r:=HM2.x17;rw[a9.out]at r;have O:=a5.out;go_wp2_with fail
  refine jK (iP HM2 HZ 15 true) fun w3 s=>?_;go_wp2;first|go_end0|((try simp only[Exit.inBlock,Exit.then]);refine eU rfl rfl ?_)
  exact⟨rfl,_,by rw[HO.out];exact s⟩
 skip
 have HO:Hid (dN k.base m R=mv m 13 false):=by
  show _=_;unfold dN;rw[if_pos a];try rfl
 clear a hh hS hX H hP hN W Y V L hk J Z a0;clear h hz hR hl hj;go_enter func59,ntmps59;go_wp2_with fail
 refine dP f (bK f HP HR HL) fun w2 HM2=>?_;go_wp2_with fail
 refine jK (iP HM2 HZ 13 false) fun w3 s=>?_;go_wp2;first|go_end0|((try simp only[Exit.inBlock,Exit.then]);refine eU rfl rfl ?_)
 exact⟨rfl,_,by rw[HO.out];exact s⟩
theorem xu (y:List UInt8):∀(L:List UInt8) (m:M),gZ L {m with buf:=y}={gZ L m with buf:=y}
 |[],m=>rfl
 |c::L,m=>by
  unfold gZ
  split
  ·exact xu y L {m with pass:=true}
  ·split
   ·exact xu y L {m with u:={m.u with bW:=m.u.bW++aP.enc 5 [c]}}
   ·exact xu y L {m with u:={m.u with bT:=m.u.bT++aP.enc 5 [c]}}
theorem q3 (v p:Bool):(v=true∧p=false)∨((v=false∧p=true)∨(v=true∧p=true))∨(v=false∧p=false):=by
 revert v p;decide
theorem o3 (o l:Bool):(o=false∧l=false)∨((o=false∧l=true)∨o=true):=by
 revert o l;decide
theorem KY (dp:Dp) (h:MX k m q w) (hz:m.p=(j:Int)) (hR:k.T.drop j=R) (hl:k.T.length≤4611686018427387904) (hj:j≤k.T.length) (d3:m.buf.length≤900000) (d2:m.u.bT.length+m.u.bW.length≤100000000):Calls prog 55 #[.pointer (some ⟨k.g,0,none⟩),.int .u8 ((cc R).toNat:Int)] w fun e w'=>e=.returned (.tuple #[])∧MX k (kK m R) q w'∧True:=by
 have a0:=hid h;have HP:=hid hz;have HR:=hid hR;obtain⟨B,hB⟩:∃B,m.buf=B:=⟨_,rfl⟩;have Q:=hid hB;have c7:Hid (B.length≤900000):=by show _≤_;rw[←hB];exact d3
 obtain⟨c,hc⟩:∃c,c=cc R:=⟨_,rfl⟩;rw[←hc];have f5:=hid dp;have g6:Hid ((j:Int)≤4611686018427387904):=by show _≤_;omega
 obtain⟨sg,a1⟩:∃x,m.sign=x:=⟨_,rfl⟩;have b8:=hid a1;obtain⟨l,a2⟩:∃l,kR (sp m) R=l:=⟨_,rfl⟩;have HL:=hid a2;obtain⟨o,ho⟩:∃o,bY R=o:=⟨_,rfl⟩;have HE:=hid ho;obtain⟨C0,b5⟩:∃x,m.u.bT.length+m.u.bW.length=x:=⟨_,rfl⟩;have g9:=hid b5;have f7:Hid (C0≤100000000):=by show _≤_;rw[←b5];exact d2
 by_cases ha:o=false∧c=64
 ·obtain ⟨rfl,d7⟩:=ha;have b3:Hid (((c.toNat:Int)==64)=true):=ceq (n:=64) (by decide) d7;obtain⟨E,a3⟩:∃X,X=if sg=true then[37,52,48]++B else B:=⟨_,rfl⟩
  obtain⟨NB,H⟩:∃X,E.length=X:=⟨_,rfl⟩;have c9:NB≤900003:=by rw[←H,a3];have:=c7.out;split;(rw[List.length_append];simp only[List.length_cons,List.length_nil];omega);omega
  obtain⟨FM,d5⟩:∃X,X=gZ E {m with sign:=true,buf:=E}:=⟨_,rfl⟩;have HO:Hid (kK m R={FM with buf:=[]}):=by
   show _=_;unfold kK;have e:FM={gZ E {m with sign:=true}with buf:=E}:=d5.trans (xu E E {m with sign:=true});have e2:(if m.sign=true then[37,52,48]++m.buf else m.buf)=E:=by rw[a1,hB,a3]
   rw[if_pos ⟨ho,hc.symm.trans d7⟩,e2,e]
  have b9:=hid H;have N:=hid c9;have g7:=hid d5;obtain⟨Z,hZ⟩:∃Z,Z=ah E:=⟨_,rfl⟩;have d9:=hid hZ;have g2:Hid (Z.size=NB):=by show _=_;rw[hZ,ak,H]
  have h0:Hid (sg=true→E=[37,52,48]++B):=fun e=>by rw[a3,if_pos e]
  have f9:Hid (sg=false→E=B):=fun e=>by rw[a3,if_neg (by rw[e];decide)]
  clear a3 H c9 d5 hZ;clear hB hc d3 dp a1 a2 ho b5 d2 d7;clear h hz hR hl hj;rcases sg with _|_
  focus
   go_enter func55,ntmps55;go_wp2_with fail
   refine dP a0 (eH a0 HP HR HE) fun w2 HM2=>?_;have O:=b3.out;have F:=HM2.x31;have D:=HM2.x3;have d0:=HM2.thaw 31;have z3:=HM2.thaw 3;rw[b8.out]at F;rw[Q.out]at D;have G:=hid (HM2.sign true);go_upto_region 4 with(fail)
   have a7:=hid (G.as (m2:={m with sign:=true,buf:=E}) (by rw[f9.out (by first|rfl|trivial),←Q.out]));clear O F D d0 z3;generalize World.setCell _ _ _=wS at a7⊢
  rotate_left
  focus
   go_enter func55,ntmps55;go_wp2_with fail
   refine dP a0 (eH a0 HP HR HE) fun w2 HM2=>?_;have O:=b3.out;have F:=HM2.x31;have D:=HM2.x3;have d0:=HM2.thaw 31;have z3:=HM2.thaw 3;rw[b8.out]at F;rw[Q.out]at D;have g8:Hid (E=[37,52,48]++B):=h0 (by first|rfl|trivial);have W:∀w:World,(Op.stringOp .add ({data:=#[37,52,48]}:ByteArray) (ah B)).run prog w=.ok (.string (ah E)) w:=fun w=>by rw[g8.out];exact bH [37,52,48] B w (by have:=c7.out;simp;omega)
   have G:=hid (HM2.buf E);have s:=hid (G.sign true);go_upto_region 4 with(fail)
   have a7:=hid (s.as (m2:={m with sign:=true,buf:=E}) (by rfl));clear O F D d0 z3 W;generalize World.setCell (World.setCell _ _ _) _ _=wS at a7⊢
  rotate_left
  all_goals
   have D:=a7.x3;replace D:wS.cell? ⟨k.g,3,none⟩=some (.string Z):=by rw[d9.out];exact D
   have h5:=g2.out;have e5:=N.out;go_wp2;clear D;go_loopw [4,5,33] (fun _ _ vk wr=>∃(i:Nat) (z:M),i≤NB∧vk=.int .i64 (i:Int)∧Hid (MX k z q wr)∧Hid (z.buf=E)∧Hid (gZ (E.drop i) z=FM)∧Hid (z.u.bT.length+z.u.bW.length≤C0+3*i)) (fun _ _ vk _=>NB - (intOf vk).toNat)
   case atStart=>exact⟨0,_,Nat.zero_le _,rfl,a7,rfl,g7.symm,by show _≤_;rw[←g9.out];exact Nat.le_refl _⟩
   case round=>
    obtain⟨i,z,hi,rfl,I,c8,c5,a8⟩:=hrel;by_cases hlt:i<NB
    ·obtain ⟨d,hd⟩:∃d,Z[i]'(by omega)=d:=⟨_,rfl⟩;have L:Z.extract i (i+1)=ah [d]:=by have:=AX.J8 Z i (by omega);rw[hd]at this;exact this
     have f1:E.drop i=d::E.drop (i+1):=by
      have g1:i<E.length:=by rw[b9.out];exact hlt
      rw[List.drop_eq_getElem_cons g1];congr 1;rw[←hd];simp only[d9.out];rfl
     have e3:=hid f1;have f6:=hid L;clear hd f1 L;obtain⟨ps,e4⟩:∃x,z.pass=x:=⟨_,rfl⟩;have a6:=hid e4;obtain⟨C,d6⟩:∃X,aP.enc 5 [d]=X:=⟨_,rfl⟩;have c4:=hid d6;have c0:Hid (C.length≤3):=by show _≤_;have:=aP.fE 5 [d];rw[d6]at this;simpa using this
     have f0:(i:Int)+1≤(Z.size:Int):=by omega
     have e9:0≤(i:Int)+1:=by omega
     have e7:((i:Int)+1).toNat=i+1:=by omega
     have D:wr.cell? ⟨k.g,3,none⟩=some (.string Z):=by have:=I.x3;rw[c8.out,←d9.out]at this;exact this
     have L:=f6.out;have d8:=I.x33;rw[a6.out]at d8;clear e4 d6;obtain⟨v,hv⟩:∃v,decide (d=58)=v:=⟨_,rfl⟩;have f2:((ah [d]).toList==[58])=v:=by rw[mW.dU,←hv];by_cases x:d=58;(rw[decide_eq_true x,decide_eq_true (by rw[x])]);(rw[decide_eq_false x,decide_eq_false (by intro y;injection y with y _;exact x y)])
     rcases q3 v ps with⟨rfl,rfl⟩|(⟨rfl,rfl⟩|⟨rfl,rfl⟩)|⟨rfl,rfl⟩
     ·have a4:d=58:=of_decide_eq_true hv;clear hv;have a5:=hid (I.pass true);have h4:=I.thaw 33;have a9:Hid (gZ (E.drop (i+1)) {z with pass:=true}=FM):=by show _=_;rw[←c5.out,e3.out,gZ,if_pos ⟨a4,a6.out⟩]
      clear a4;go_wp2;go_roundw
      case rel=>exact⟨i+1,{z with pass:=true},by omega,by go_num,a5,c8,a9,by show _≤_;have:=a8.out;show z.u.bT.length+z.u.bW.length≤_;omega⟩
      case measure=>simp[intOf];omega
     iterate 2
      ·clear hv;obtain⟨V,hV⟩:∃V,z.u.bW=V:=⟨_,rfl⟩;have HV:=hid hV;have e1:Hid (V.length≤103000000):=by show _≤_;have h1:=a8.out;have h2:=f7.out;have h3:=N.out;rw[←hV];omega
       have a9:Hid (gZ (E.drop (i+1)) {z with u:={z.u with bW:=V++C}}=FM):=by show _=_;rw[←c5.out,e3.out,gZ,if_neg (fun x=>by rw[a6.out]at x;exact absurd x.2 (by decide)),if_pos a6.out,c4.out,hV]
       have b0:Hid (({z with u:={z.u with bW:=V++C}}:M).u.bT.length+({z with u:={z.u with bW:=V++C}}:M).u.bW.length≤C0+3*(i+1)):=by
        have h1:=a8.out;have h2:=c0.out;show z.u.bT.length+(V++C).length≤_;rw[List.length_append,←hV];omega
       clear hV;go_wp2_with fail
       clear D d8 L f0 e9 e7 f2;try generalize ((ah [d]).toList==[58])=g58
       refine bf (by kernel_rfl) 12 [pg k.g 0,pg k.g 0,pg k.g 0,pg k.g 4,pg k.g 6,is (.string (ah V)),is (.string (ah [d])),is (.string (ah C)),is (.string (ah (V++C))),pg k.g 0,pg k.g 4,pg k.g 6] [[],[],[1],[1,2],[1,2,3],[1,2,3,4],[],[6],[1,2,3,4,5,6,7],[0],[0,9],[0,9,10],[0,1,2,3,4,5,6,7,8,9,10,11]] (by kernel_rfl) ?_ ?_
       ·refine ⟨?_,?_,?_,?_,?_,?_,?_,?_,?_,?_,?_,?_,trivial⟩;all_goals(intro t J r hh K a;simp only[iQ,qQ,Act.put,Nat.reduceAdd,Nat.reduceEqDiff,reduceIte]at hh a⊢;(try simp only[hh]at a⊢);clear hh)
        iterate 5
         ·go_simp;exact a _ _ aZ rfl
        ·have cv:=(I.below r).x6;rw[HV.out]at cv;go_simp;exact a _ _ aZ rfl
        ·go_simp;exact a _ _ aZ rfl
        ·go_simp;refine(AX.iw 5 (ah [d]) _ (by rw[ak];exact(by decide:(1:Nat)≤1073741824)) (fun c w=>f5.inn _ c w)).mono ?_;rintro e w5 ⟨rfl,d4⟩;rw[show aP.enc 5 (ah [d]).data.toList=C from c4.out];exact a _ _ d4 rfl
        ·have W:(Op.stringOp .add (ah V) (ah C)).run prog J=.ok (.string (ah (V++C))) J:=bH _ _ J (by have:=e1.out;have:=c0.out;simp;omega);go_simp;exact a _ _ aZ rfl
        iterate 3
         ·go_simp;exact a _ _ aZ rfl
       ·intro t J r hh;have Y:=aO hh 8 (by decide);simp only[pick]at Y;replace Y:t 8=(.string (ah (V++C))):=Y;have A:=aO hh 11 (by decide);simp only[pick]at A;replace A:t 11=(.pointer (some ⟨k.g,6,none⟩)):=A;clear hh;simp only[iQ,qQ,Act.put,Nat.reduceAdd,Nat.reduceEqDiff,reduceIte];simp only[Y,A];have f:=hid (I.below r);have a5:=hid (f.abH (V++C));have zv:=f.thaw 6;have cv:=f.x6;go_wp2;go_roundw
        case rel=>exact⟨i+1,{z with u:={z.u with bW:=V++C}},by omega,by go_num,a5,c8,a9,b0⟩
        case measure=>simp[intOf];omega
     have a4:¬d=58:=of_decide_eq_false hv;clear hv;obtain⟨V,hV⟩:∃V,z.u.bT=V:=⟨_,rfl⟩;have HV:=hid hV;have e1:Hid (V.length≤103000000):=by show _≤_;have h1:=a8.out;have h2:=f7.out;have h3:=N.out;rw[←hV];omega
     have a9:Hid (gZ (E.drop (i+1)) {z with u:={z.u with bT:=V++C}}=FM):=by show _=_;rw[←c5.out,e3.out,gZ,if_neg (fun x=>a4 x.1),if_neg (by rw[a6.out];decide),c4.out,hV]
     have b0:Hid (({z with u:={z.u with bT:=V++C}}:M).u.bT.length+({z with u:={z.u with bT:=V++C}}:M).u.bW.length≤C0+3*(i+1)):=by
      have h1:=a8.out;have h2:=c0.out;show(V++C).length+z.u.bW.length≤_;rw[List.length_append,←hV];omega
     clear hV a4;go_wp2_with fail
     clear D d8 L f0 e9 e7 f2;try generalize ((ah [d]).toList==[58])=g58
     refine bf (by kernel_rfl) 12 [pg k.g 0,pg k.g 0,pg k.g 0,pg k.g 4,pg k.g 5,is (.string (ah V)),is (.string (ah [d])),is (.string (ah C)),is (.string (ah (V++C))),pg k.g 0,pg k.g 4,pg k.g 5] [[],[],[1],[1,2],[1,2,3],[1,2,3,4],[],[6],[1,2,3,4,5,6,7],[0],[0,9],[0,9,10],[0,1,2,3,4,5,6,7,8,9,10,11]] (by kernel_rfl) ?_ ?_
     ·refine ⟨?_,?_,?_,?_,?_,?_,?_,?_,?_,?_,?_,?_,trivial⟩;all_goals(intro t J r hh K a;simp only[iQ,qQ,Act.put,Nat.reduceAdd,Nat.reduceEqDiff,reduceIte]at hh a⊢;(try simp only[hh]at a⊢);clear hh)
      iterate 5
       ·go_simp;exact a _ _ aZ rfl
      ·have cv:=(I.below r).x5;rw[HV.out]at cv;go_simp;exact a _ _ aZ rfl
      ·go_simp;exact a _ _ aZ rfl
      ·go_simp;refine(AX.iw 5 (ah [d]) _ (by rw[ak];exact(by decide:(1:Nat)≤1073741824)) (fun c w=>f5.inn _ c w)).mono ?_;rintro e w5 ⟨rfl,d4⟩;rw[show aP.enc 5 (ah [d]).data.toList=C from c4.out];exact a _ _ d4 rfl
      ·have W:(Op.stringOp .add (ah V) (ah C)).run prog J=.ok (.string (ah (V++C))) J:=bH _ _ J (by have:=e1.out;have:=c0.out;simp;omega);go_simp;exact a _ _ aZ rfl
      iterate 3
       ·go_simp;exact a _ _ aZ rfl
     intro t J r hh;have Y:=aO hh 8 (by decide);simp only[pick]at Y;replace Y:t 8=(.string (ah (V++C))):=Y;have A:=aO hh 11 (by decide);simp only[pick]at A;replace A:t 11=(.pointer (some ⟨k.g,5,none⟩)):=A;clear hh;simp only[iQ,qQ,Act.put,Nat.reduceAdd,Nat.reduceEqDiff,reduceIte];simp only[Y,A];have f:=hid (I.below r);have a5:=hid (f.abI (V++C));have zv:=f.thaw 5;have cv:=f.x5;go_wp2;go_roundw
     case rel=>exact⟨i+1,{z with u:={z.u with bT:=V++C}},by omega,by go_num,a5,c8,a9,b0⟩
     case measure=>simp[intOf];omega
    obtain rfl:i=NB:=by omega
    have e:z=FM:=by have:=c5.out;rw[List.drop_eq_nil_of_le (by rw[b9.out];exact Nat.le_refl _)]at this;exact this
    have e0:=hid (I.as (m2:=FM) e.symm);clear e;have D:=e0.x3;have z3:=e0.thaw 3;have P:=hid (e0.buf []);go_wp2;first|go_end0|((try simp only[Exit.inBlock,Exit.then]);refine eU rfl rfl ?_)
    first|exact⟨rfl,by rw[HO.out];exact P,trivial⟩|exact⟨rfl,by rw[HO.out];exact P⟩
 have d1:¬(bY R=false∧cc R=64):=fun x=>ha ⟨ho▸x.1,hc.trans x.2⟩;have b3:Hid (o=false→((c.toNat:Int)==64)=false):=fun x=>cne (n:=64) (by decide) (fun y=>ha ⟨x,y⟩);obtain⟨NB,H⟩:∃X,B.length=X:=⟨_,rfl⟩;have b9:Hid ((ah B).size=NB):=by show _=_;rw[ak,H]
 have N:Hid (NB≤900000):=by show _≤_;rw[←H];exact c7
 have f4:Hid (o=false→l=false→kK m R={m with buf:=B++[c]}):=by
  intro x y;unfold kK;rw[if_neg d1,if_neg (by rw[ho,a2,x,y];decide),hB,hc]
 have f3:Hid (o=true∨l=true→kK m R=if sg=true∧B=[]then fail m else {m with p:=(j:Int) - (NB:Int) - 1,buf:=[],st:=9}):=by
  intro x;unfold kK;rw[if_neg d1,if_pos (by rw[ho,a2];exact x),a1,hz,hB,H]
 clear hB hc d3 dp a1 a2 ho b5 d2 ha d1 H;clear h hz hR hl hj;go_enter func55,ntmps55;go_wp2_with fail
 refine dP a0 (eH a0 HP HR HE) fun w2 HM2=>?_;rcases o3 o l with⟨rfl,rfl⟩|(⟨rfl,rfl⟩|rfl)
 ·have O:=b3 rfl;go_wp2_with fail
  refine dP HM2 (eH HM2 HP HR HE) fun w3 G=>?_;go_wp2_with fail
  refine dP G (bK G HP HR HL) fun w4 s=>?_;go_wp2_with fail
  clear O;try generalize ((c.toNat:Int)==64)=g64
  refine bf (by kernel_rfl) 11 [pg k.g 0,pg k.g 0,pg k.g 0,pg k.g 3,is (.string (ah B)),is (.int .u8 (c.toNat:Int)),row 1 (aU [c]),is (.string (ah [c])),is (.string (ah (B++[c]))),pg k.g 0,pg k.g 3] [[],[],[1],[1,2],[1,2,3],[],[5],[5,6],[1,2,3,4,5,6,7],[0],[0,9],[0,1,2,3,4,5,6,7,8,9,10]] (by kernel_rfl) ?_ ?_
  ·refine ⟨?_,?_,?_,?_,?_,?_,?_,?_,?_,?_,?_,trivial⟩;all_goals(intro t J r hh K a;simp only[iQ,qQ,Act.put,Nat.reduceAdd,Nat.reduceEqDiff,reduceIte]at hh a⊢)
   iterate 4
    ·try simp only[hh]at a⊢
     clear hh;go_simp;exact a _ _ aZ rfl
   ·try simp only[hh]at a⊢
    clear hh;have D:=(s.below r).x3;rw[Q.out]at D;go_simp;exact a _ _ aZ rfl
   ·try simp only[hh]at a⊢
    clear hh;go_simp;exact a _ _ aZ rfl
   ·try simp only[hh]at a⊢
    clear hh;go_simp;exact a _ _ ((Below.refl _ _).alloc (Nat.le_refl _) _) ⟨_,_,rfl,Nat.le_refl _,by decide,iT J [c] 5 (0,0)⟩
   ·have e6:=hh.2.1;clear hh;obtain⟨A6,c6,e6,h9,h7,g0⟩:=e6;simp only[e6]at a⊢;have hs:=bI 55 9 5 underlying55 underlying5 underlying9 _ c6 g0;go_simp;exact a _ _ aZ rfl
   ·try simp only[hh]at a⊢
    clear hh;have W:(Op.stringOp .add (ah B) (ah [c])).run prog J=.ok (.string (ah (B++[c]))) J:=bH _ _ J (by have:=c7.out;simp;omega);go_simp;exact a _ _ aZ rfl
   iterate 2
    ·try simp only[hh]at a⊢
     clear hh;go_simp;exact a _ _ aZ rfl
  intro t J r hh;have Y:=aO hh 8 (by decide);simp only[pick]at Y;replace Y:t 8=(.string (ah (B++[c]))):=Y;have b7:=aO hh 10 (by decide);simp only[pick]at b7;replace b7:t 10=(.pointer (some ⟨k.g,3,none⟩)):=b7;clear hh;simp only[iQ,qQ,Act.put,Nat.reduceAdd,Nat.reduceEqDiff,reduceIte];simp only[Y,b7];have f:=hid (s.below r);have P:=hid (f.buf (B++[c]));have z3:=f.thaw 3;have D:=f.x3;go_wp2;first|go_end0|((try simp only[Exit.inBlock,Exit.then]);refine eU rfl rfl ?_)
  first|exact⟨rfl,by rw[f4.out (by simp) (by simp)];exact P,trivial⟩|exact⟨rfl,by rw[f4.out (by simp) (by simp)];exact P⟩
 iterate 2
  ·try have O:=b3 rfl
   go_wp2_with fail
   refine dP HM2 (eH HM2 HP HR HE) fun w3 G=>?_;first
   |go_wp2_with fail
    refine dP G (bK G HP HR HL) fun w4 s=>?_
   |have s:=G
   rcases b1 sg B with(rfl|⟨rfl,he⟩)|⟨rfl,rfl⟩
   iterate 2
    ·have F:=s.x31;rw[b8.out]at F;have D:=s.x3;rw[Q.out]at D;try have e8:=CV he
     go_wp2_with fail
     clear F D;try clear O
     try clear e8
     try generalize ((c.toNat:Int)==64)=g64
     try generalize (ah B).toList.isEmpty=gx
     have e5:=N.out;have h8:=g6.out;refine bf (by kernel_rfl) 14 [pg k.g 0,pg k.g 0,pg k.g 0,pg k.g 1,is (.int .i64 (j:Int)),pg k.g 0,pg k.g 0,pg k.g 3,is (.string (ah B)),is (.int .i64 (NB:Int)),is (.int .i64 ((j:Int) - (NB:Int))),is (.int .i64 ((j:Int) - (NB:Int) - 1)),pg k.g 0,pg k.g 1] [[],[],[1],[1,2],[1,2,3],[],[5],[5,6],[5,6,7],[5,6,7,8],[1,2,3,4,5,6,7,8,9],[1,2,3,4,5,6,7,8,9,10],[0],[0,12],[0,1,2,3,4,5,6,7,8,9,10,11,12,13]] (by kernel_rfl) ?_ ?_
     ·refine ⟨?_,?_,?_,?_,?_,?_,?_,?_,?_,?_,?_,?_,?_,?_,trivial⟩;all_goals(intro t J r hh K a;simp only[iQ,qQ,Act.put,Nat.reduceAdd,Nat.reduceEqDiff,reduceIte]at hh a⊢;(try simp only[hh]at a⊢);clear hh)
      iterate 4
       ·go_simp;exact a _ _ aZ rfl
      ·have c1:=(s.below r).x1j HP;go_simp;exact a _ _ aZ rfl
      iterate 3
       ·go_simp;exact a _ _ aZ rfl
      ·have D:=(s.below r).x3;rw[Q.out]at D;go_simp;exact a _ _ aZ rfl
      ·have h6:=b9.out;go_simp;exact a _ _ aZ rfl
      iterate 2
       ·go_simp;first|exact a _ _ aZ rfl|exact a _ _ aZ (jL (by omega) (by omega))
      iterate 2
       ·go_simp;exact a _ _ aZ rfl
     ·intro t J r hh;have A:=aO hh 11 (by decide);simp only[pick]at A;replace A:t 11=(.int .i64 ((j:Int) - (NB:Int) - 1)):=A;have b6:=aO hh 13 (by decide);simp only[pick]at b6;replace b6:t 13=(.pointer (some ⟨k.g,1,none⟩)):=b6;clear hh;simp only[iQ,qQ,Act.put,Nat.reduceAdd,Nat.reduceEqDiff,reduceIte];simp only[A,b6];have f:=hid (s.below r);have c1:=f.x1;have z1:=f.thaw 1;have D:=f.x3;have z3:=f.thaw 3;have c2:=f.x2;have z2:=f.thaw 2;have g4:=hid (f.p ((j:Int) - (NB:Int) - 1));have P:=hid (g4.buf []);have g3:=hid (P.st 9);go_wp2;first|go_end0|((try simp only[Exit.inBlock,Exit.then]);refine eU rfl rfl ?_)
      refine⟨rfl,?_⟩;try refine⟨?_,trivial⟩
      rw[f3.out (by simp),if_neg (by first|simp[he]|simp)];exact g3
   ·have F:=s.x31;have D:=s.x3;have c2:=s.x2;have z2:=s.thaw 2;rw[b8.out]at F;rw[Q.out]at D;have e8:=EK;have g5:=hid (s.st 19);go_wp2;first|go_end0|((try simp only[Exit.inBlock,Exit.then]);refine eU rfl rfl ?_)
    exact⟨rfl,by rw[f3.out (by simp),if_pos (by simp)];exact g5,trivial⟩
end aer
namespace aes
open Go.RowKit Base aC jq jY fF xQ yw aen aeo aep YD YF aer
variable {k:K} {m:M} {q:Value} {w:World} {j:Nat} {R:List UInt8}
theorem aaH (dp:Dp) (h:MX k m q w) (D:m.p=(j:Int)) (I:k.T.drop j=R) (F:k.T.length≤4611686018427387904) (H:j≤k.T.length) (x:m.buf.length≤900000) (t:m.u.txt.length≤100000000) (r:m.st=10→m.buf.all jW=true) (l:j+1≤4611686018427387904) (G:KB k) (c:k.n≤400000) (y:k.T.length≤1000000) (i:m.u.aF.length≤500000) (s:m.u.bT.length+m.u.bW.length≤100000000) (f:m.st=5):Calls prog 17 #[.pointer (some ⟨k.g,0,none⟩)] w fun e w'=>e=.returned (.tuple #[])∧∃q',MX k (aX k.base m R) q' w':=by
 have d:=hid h;have L:=hid D;have J:=hid I;have A:=hid F;have Q:=hid H;have O:=hid f;obtain⟨v,E⟩:∃v,(cc R).toNat=v:=⟨_,rfl⟩;have HV:=hid E;have C:=hid G;have B:=hid c;have P:Hid (aX k.base m R=lJ k.b m R):=ms5 f;clear h D I F H dp x t r l f E G c y i s;go_enter func17,ntmps17;go_wp2_with fail
 refine dP d (yC d L J HV) fun w2 HM2=>?_;have N:=HM2.x2;rw[O.out]at N;go_wp2_with fail
 refine(PE C B HM2 L J A Q).mono ?_;rintro X V ⟨rfl,W,a⟩;have z:=hid a;clear a;go_wp2
 go_end0
 exact⟨rfl,_,by rw[P.out];exact z⟩
theorem aaK (dp:Dp) (h:MX k m q w) (C:m.p=(j:Int)) (G:k.T.drop j=R) (E:k.T.length≤4611686018427387904) (F:j≤k.T.length) (c:m.buf.length≤900000) (t:m.u.txt.length≤100000000) (s:m.st=10→m.buf.all jW=true) (l:j+1≤4611686018427387904) (J:KB k) (r:k.n≤400000) (x:k.T.length≤1000000) (i:m.u.aF.length≤500000) (a:m.u.bT.length+m.u.bW.length≤100000000) (f:m.st=8):Calls prog 17 #[.pointer (some ⟨k.g,0,none⟩)] w fun e w'=>e=.returned (.tuple #[])∧∃q',MX k (aX k.base m R) q' w':=by
 have d:=hid h;have I:=hid C;have H:=hid G;have z:=hid dp;have y:=hid E;have P:=hid F;have B:=hid c;have N:=hid f;obtain⟨v,D⟩:∃v,(cc R).toNat=v:=⟨_,rfl⟩;have HV:=hid D;have A:=hid a;have O:Hid (aX k.base m R=kK m R):=ms8 f;clear h C G E F dp c t s l f D J r x i a;go_enter func17,ntmps17;go_wp2_with fail
 refine dP d (yC d I H HV) fun w2 HM2=>?_;have L:=HM2.x2;rw[N.out]at L;go_wp2_with fail
 rw[←HV.out];refine jK (KY z HM2 I H y P B A) fun w3 HM3=>?_;go_wp2
 go_end0
 exact⟨rfl,_,by rw[O.out];exact HM3⟩
theorem XT (dp:Dp) (h:MX k m q w) (E:m.p=(j:Int)) (J:k.T.drop j=R) (G:k.T.length≤4611686018427387904) (I:j≤k.T.length) (y:m.buf.length≤900000) (x:m.u.txt.length≤100000000) (s:m.st=10→m.buf.all jW=true) (r:j+1≤4611686018427387904) (H:KB k) (c:k.n≤400000) (d:k.T.length≤1000000) (l:m.u.aF.length≤500000) (t:m.u.bT.length+m.u.bW.length≤100000000) (i:m.st=11):Calls prog 17 #[.pointer (some ⟨k.g,0,none⟩)] w fun e w'=>e=.returned (.tuple #[])∧∃q',MX k (aX k.base m R) q' w':=by
 have f:=hid h;have N:=hid E;have L:=hid J;have B:=hid G;have V:=hid I;have P:=hid i;obtain⟨v,F⟩:∃v,(cc R).toNat=v:=⟨_,rfl⟩;have HV:=hid F;have D:=hid H;have C:=hid c;have z:=hid d;have Q:Hid (aX k.base m R=jh k.base m R):=WA i;clear h E J G I dp y x s r i F H c d l t;go_enter func17,ntmps17;go_wp2_with fail
 refine dP f (yC f N L HV) fun w2 HM2=>?_;have O:=HM2.x2;rw[P.out]at O;go_wp2_with fail
 refine(acr D C z HM2 N L B V).mono ?_;rintro Y W ⟨rfl,X,a⟩;have A:=hid a;clear a;go_wp2
 go_end0
 exact⟨rfl,_,by rw[Q.out];exact A⟩
theorem XW (dp:Dp) (h:MX k m q w) (F:m.p=(j:Int)) (L:k.T.drop j=R) (H:k.T.length≤4611686018427387904) (J:j≤k.T.length) (y:m.buf.length≤900000) (x:m.u.txt.length≤100000000) (s:m.st=10→m.buf.all jW=true) (r:j+1≤4611686018427387904) (I:KB k) (d:k.n≤400000) (f:k.T.length≤1000000) (a:m.u.aF.length≤500000) (t:m.u.bT.length+m.u.bW.length≤100000000) (l:m.st=12):Calls prog 17 #[.pointer (some ⟨k.g,0,none⟩)] w fun e w'=>e=.returned (.tuple #[])∧∃q',MX k (aX k.base m R) q' w':=by
 have i:=hid h;have O:=hid F;have N:=hid L;have C:=hid H;have W:=hid J;have Q:=hid l;obtain⟨v,G⟩:∃v,(cc R).toNat=v:=⟨_,rfl⟩;have HV:=hid G;have E:=hid I;have D:=hid d;have z:=hid f;have A:=hid a;have V:Hid (aX k.base m R=dN k.base m R):=ZF l;clear h F L H J dp y x s r l G I d f a t;go_enter func17,ntmps17;go_wp2_with fail
 refine dP i (yC i O N HV) fun w2 HM2=>?_;have P:=HM2.x2;rw[Q.out]at P;go_wp2_with fail
 refine(LD E D z HM2 O N C W A).mono ?_;rintro Z X ⟨rfl,Y,c⟩;have B:=hid c;clear c;go_wp2
 go_end0
 exact⟨rfl,_,by rw[V.out];exact B⟩
theorem X0 (dp:Dp) (h:MX k m q w) (E:m.p=(j:Int)) (I:k.T.drop j=R) (G:k.T.length≤4611686018427387904) (H:j≤k.T.length) (d:m.buf.length≤900000) (x:m.u.txt.length≤100000000) (s:m.st=10→m.buf.all jW=true) (l:j+1≤4611686018427387904) (N:KB k) (r:k.n≤400000) (y:k.T.length≤1000000) (a:m.u.aF.length≤500000) (t:m.u.bT.length+m.u.bW.length≤100000000) (i:m.st=15):Calls prog 17 #[.pointer (some ⟨k.g,0,none⟩)] w fun e w'=>e=.returned (.tuple #[])∧∃q',MX k (aX k.base m R) q' w':=by
 have f:=hid h;have L:=hid E;have J:=hid I;have C:=hid dp;have B:=hid G;have V:=hid H;have D:=hid d;have P:=hid i;obtain⟨v,F⟩:∃v,(cc R).toNat=v:=⟨_,rfl⟩;have HV:=hid F;have z:=hid a;have Q:Hid (aX k.base m R=iF m R):=ZG i;clear h E I G H dp d x s l i F N r y a t;go_enter func17,ntmps17;go_wp2_with fail
 refine dP f (yC f L J HV) fun w2 HM2=>?_;have O:=HM2.x2;rw[P.out]at O;go_wp2_with fail
 rw[←HV.out];refine(acT C HM2 L J B V D z).mono ?_;rintro Y W ⟨rfl,X,c⟩;have A:=hid c;clear c;go_wp2
 go_end0
 exact⟨rfl,_,by rw[Q.out];exact A⟩
theorem ado (dp:Dp) (h:MX k m q w) (i:m.p=(j:Int)) (s:k.T.drop j=R) (l:k.T.length≤4611686018427387904) (r:j≤k.T.length) (f:m.buf.length≤900000) (d:m.u.txt.length≤100000000) (c:m.st=10→m.buf.all jW=true) (a:j+1≤4611686018427387904) (A:KB k) (v:k.n≤400000) (z:k.T.length≤1000000) (t:m.u.aF.length≤500000) (y:m.u.bT.length+m.u.bW.length≤100000000) (B:m.st<19):Calls prog 17 #[.pointer (some ⟨k.g,0,none⟩)] w fun e w'=>e=.returned (.tuple #[])∧∃q',MX k (aX k.base m R) q' w':=by
 rcases(by omega:m.st=0∨m.st=1∨m.st=2∨m.st=3∨m.st=4∨m.st=5∨m.st=6∨m.st=7∨m.st=8∨m.st=9∨m.st=10∨m.st=11∨m.st=12∨m.st=13∨m.st=14∨m.st=15∨m.st=16∨m.st=17∨m.st=18)with e|e|e|e|e|e|e|e|e|e|e|e|e|e|e|e|e|e|e
 ·exact(aaC dp h i s l r f d c a e).mono fun _ _ x=>⟨x.1,q,x.2.1⟩
 ·exact(aaD dp h i s l r f d c a e).mono fun _ _ x=>⟨x.1,q,x.2.1⟩
 ·exact(aaE dp h i s l r f d c a e).mono fun _ _ x=>⟨x.1,q,x.2.1⟩
 ·exact(aaF dp h i s l r f d c a e).mono fun _ _ x=>⟨x.1,q,x.2.1⟩
 ·exact(aaG dp h i s l r f d c a e).mono fun _ _ x=>⟨x.1,q,x.2.1⟩
 ·exact aaH dp h i s l r f d c a A v z t y e
 ·exact(aaI dp h i s l r f d c a e).mono fun _ _ x=>⟨x.1,q,x.2.1⟩
 ·exact(aaJ dp h i s l r f d c a e).mono fun _ _ x=>⟨x.1,q,x.2.1⟩
 ·exact aaK dp h i s l r f d c a A v z t y e
 ·exact(aaL dp h i s l r f d c a e).mono fun _ _ x=>⟨x.1,q,x.2.1⟩
 ·exact(XR dp h i s l r f d c a e).mono fun _ _ x=>⟨x.1,q,x.2.1⟩
 ·exact XT dp h i s l r f d c a A v z t y e
 ·exact XW dp h i s l r f d c a A v z t y e
 ·exact(XY dp h i s l r f d c a e).mono fun _ _ x=>⟨x.1,q,x.2.1⟩
 ·exact(XZ dp h i s l r f d c a e).mono fun _ _ x=>⟨x.1,q,x.2.1⟩
 ·exact X0 dp h i s l r f d c a A v z t y e
 ·exact(X4 dp h i s l r f d c a e).mono fun _ _ x=>⟨x.1,q,x.2.1⟩
 ·exact(X5 dp h i s l r f d c a e).mono fun _ _ x=>⟨x.1,q,x.2.1⟩
 exact(X6 dp h i s l r f d c a e).mono fun _ _ x=>⟨x.1,q,x.2.1⟩
end aes
namespace aeJ
open Go.RowKit Base RY
def Sz (r:Int):Bool:=decide (xk r)
theorem vS (r:Int) (w:World):Calls prog 145 #[.int .i32 r] w fun e w'=>e=.returned (.bool (Sz r))∧w=w':=by
 go_enter func145,ntmps145;go_wp2;all_goals
  go_ret;exact⟨aH (by unfold Sz xk;rw[Bool.eq_iff_iff];simp;omega),rfl⟩
theorem made (w:World) (a:List Value) (n:Nat) (t:TypeId) (c:a.length=n):dW (w.alloc (.cells a.toArray t)) (some ⟨w.heap.size,0,none⟩) n a:=
 dW.lT c (by simp) (fun j hj=>by
  rw[Nat.zero_add,World.cell?_alloc_mark]
  simp)
theorem ac6 {w:World} {g o n:Nat} {c:List Value} (h:dW w (some ⟨g,o,none⟩) n c):∀j u,c[j]?=some u→w.cell? ((⟨g,o,none⟩:Addr).add j)=some u:=by
 intro j u d;obtain⟨f,e⟩:=List.getElem?_eq_some_iff.1 d;obtain⟨b,off,a,_,i⟩:=h.2 j f;injection a with a
 injection a with e2 e3
 subst e2 e3;have k:(⟨g,o,none⟩:Addr).add j=⟨g,o+j,none⟩:=by
  unfold Addr.add;split<;>simp_all
 rw[k,i,e]
def KH (w:World) (r:Int) (e:Ending) (w':World):Prop:=
 ∃A c,e=.returned (.slice A (Lib.encodeRune r).length c)∧dW w' A (Lib.encodeRune r).length (aU (Lib.encodeRune r))∧(∃g o,A=some ⟨g,o,none⟩)∧(Lib.encodeRune r).length≤c∧Below w.heap.size w w'
theorem fin (w:World) (a:List Value) (n:Nat) (r:Int) (h:aU (Lib.encodeRune r)=a) (c:a.length=n):
  KH w r (.returned (.slice (some ⟨w.heap.size,0,none⟩) n n)) (w.alloc (.cells a.toArray 5)):=by
 have d:(Lib.encodeRune r).length=n:=by rw[←bM,h,c]
 unfold KH;rw[h,d];exact⟨_,n,rfl,made w a n _ c,⟨_,_,rfl⟩,Nat.le_refl _,(Below.refl _ _).alloc (Nat.le_refl _) _⟩
theorem ZO (r:Int) (l:xk r) (w:World):Calls prog 106 #[.int .i32 r] w (KH w r):=by
 have h:Hid (Sz r=true):=by unfold Hid Sz;simpa using l
 obtain⟨m,n,i⟩:=l;by_cases a:r≤127
 ·have v:r<128:=by omega
  have d:=hid (jl r m (by omega));have f:=hid (enc1 r m a);clear i;go_enter func106,ntmps106;go_wp2_with fail
  refine(vS _ _).mono ?_;rintro e j ⟨rfl,rfl⟩;rw[h.out];go_wp2;go_ret;exact fin w [.int .u8 r] 1 r (by
   rw[f.out];simp only[aU,List.map_cons,List.map_nil,d.out]) rfl
 by_cases b:r≤2047
 ·have v:¬r<128:=by omega
  have t:r<2048:=by omega
  have d:=hid (jl (192+r / 64) (by omega) (by omega));have g:=hid (jl (128+r%64) (by omega) (by omega));have f:=hid (enc2 r (by omega) b);clear i a b;go_enter func106,ntmps106;go_wp2_with fail
  refine(vS _ _).mono ?_;rintro e j ⟨rfl,rfl⟩;rw[h.out];go_wp2;go_ret;exact fin w [.int .u8 (192+r / 64),.int .u8 (128+r%64)] 2 r (by
   rw[f.out];simp only[aU,List.map_cons,List.map_nil,d.out,g.out]) rfl
 by_cases c:r≤65535
 ·have t:¬r<2048:=by omega
  have s:r<65536:=by omega
  have d:=hid (jl (224+r / 4096) (by omega) (by omega));have g:=hid (jl (128+r / 64%64) (by omega) (by omega));have k:=hid (jl (128+r%64) (by omega) (by omega));have f:=hid (enc3 r (by omega));clear i a b c;go_enter func106,ntmps106;go_wp2_with fail
  refine(vS _ _).mono ?_;rintro e j ⟨rfl,rfl⟩;rw[h.out];go_wp2;go_ret;exact fin w [.int .u8 (224+r / 4096),.int .u8 (128+r / 64%64),.int .u8 (128+r%64)] 3 r (by
   rw[f.out];simp only[aU,List.map_cons,List.map_nil,d.out,g.out,k.out]) rfl
 have s:¬r<65536:=by omega
 have d:=hid (jl (240+r / 262144) (by omega) (by omega));have g:=hid (jl (128+r / 4096%64) (by omega) (by omega));have k:=hid (jl (128+r / 64%64) (by omega) (by omega));have q:=hid (jl (128+r%64) (by omega) (by omega));have f:=hid (enc4 r (by omega) n);clear i a b c;go_enter func106,ntmps106;go_wp2_with fail
 refine(vS _ _).mono ?_;rintro e j ⟨rfl,rfl⟩;rw[h.out];go_wp2;go_ret;exact fin w [.int .u8 (240+r / 262144),.int .u8 (128+r / 4096%64),.int .u8 (128+r / 64%64),.int .u8 (128+r%64)] 4 r (by
  rw[f.out];simp only[aU,List.map_cons,List.map_nil,d.out,g.out,k.out,q.out]) rfl
theorem ZN (r:Int) (a:¬xk r) (w:World):Calls prog 106 #[.int .i32 r] w (KH w r):=by
 have c:Hid (Sz r=false):=by unfold Hid Sz;simpa using a
 have d:Hid (Lib.encodeRune r=[239,191,189]):=by
  show Lib.encodeRune r=[239,191,189];rw[encBad r a];decide
 clear a;go_enter func106,ntmps106;go_wp2_with fail
 refine(vS _ _).mono ?_;rintro e f ⟨rfl,rfl⟩;rw[c.out];go_wp2;go_ret;exact fin w [.int .u8 239,.int .u8 191,.int .u8 189] 3 r (by rw[d.out];rfl) rfl
theorem one_any (r:Int) (w:World):Calls prog 106 #[.int .i32 r] w (KH w r):=by
 by_cases h:xk r
 ·exact ZO r h w
 exact ZN r h w
theorem iw (A:Option Addr) (n I:Nat) (l:List Int) (w:World) (h:dW w A n (jv .i32 l)) (hm:n≤1073741824):
  Calls prog 41 #[.slice A n I] w fun e w'=>∃v,e=.returned v∧w'.ownsRow w.heap.size 5 1 v (uj.enc l).length (aU (uj.enc l))∧Below w.heap.size w w':=by
 have N:l.length=n:=by rw[←lH .i32];exact h.1
 have B:=hid N;clear N;obtain⟨Q,hi,E,D,C⟩:=info_parts rD;have O:=hid h;clear h;go_enter func41,ntmps41;go_wp2;go_loopw [3,7] (fun v vk wr=>∃(k:Nat),k≤n∧vk=.int .i64 k∧wr.ownsRow w.heap.size 5 1 v (uj.enc (l.take k)).length (aU (uj.enc (l.take k)))∧Below w.heap.size w wr) (fun _ vk _=>n - (intOf vk).toNat)
 case atStart=>exact⟨0,Nat.zero_le _,rfl,World.ownsRow_nil _ _ _ _,Below.refl _ _⟩
 case round =>
  obtain⟨k,hk,rfl,c,d⟩:=hrel;by_cases hlt:k<n
  ·obtain ⟨b,off,rfl,T,_⟩:=(O).spot (by omega);obtain⟨r,hx⟩:∃r,r=l[k]'(by rw[B.out];exact hlt):=⟨_,rfl⟩;have G:wr.cell? ⟨b,off+k,none⟩=some (.int .i32 r):=by
    rw[hx,←O.out.int k (by rw[B.out];exact hlt)];exact d.cell (p:=⟨b,off+k,none⟩) T
   have W:Hid (l.take (k+1)=l.take k++[r]):=by
    rw[hx];exact List.take_succ_eq_append_getElem (by rw[B.out];exact hlt)
   clear hx;have F:=(uj.fE (l.take k)).1;have L:(l.take k).length≤k:=List.length_take_le _ _;have x:=uj.Ak r;obtain⟨m,j⟩:∃m,m=(uj.enc (l.take k)).length:=⟨_,rfl⟩;rw[←j]at F c;have X:=hid j;clear j;obtain⟨q,hq⟩:∃q,q=(Lib.encodeRune r).length:=⟨_,rfl⟩;rw[←hq]at x;have J:=hid hq;clear hq;go_wp2_with fail
   refine(one_any _ _).mono ?_;rintro e Z ⟨A1,V,rfl,t,⟨g,o,rfl⟩,H,z⟩;rw[←J.out]at t H⊢;have f:=aY c z;have a:=d.trans (z.mono d.size);clear c d;go_wp2_with (at_builtin;refine wpList_append_own _ rfl _ _ 55 rfl w.heap.size 5 Q (.int .u8 0) 1 1 underlying55 hi E D C rfl (by decide) _ m _ rfl f ⟨g,o,none⟩ q V (aU (Lib.encodeRune r)) rfl (by rw[bM,←J.out,Nat.mul_one]) (ac6 t) (Oe _) (by unfold maxLen;omega) (by omega) a.size ?_)
   intro v' P i y _;have s:Below w.heap.size w P:=a.grown y a.size (fun g hg=>(f.lt g hg).1);clear f a y;go_wp2;go_roundw
   case rel=>exact⟨k+1,by omega,by go_num,by
     rw[W.out,uj.oL,List.length_append,eG,←X.out,←J.out];exact i,s⟩
   case measure=>simp[intOf];omega
  ·obtain rfl:k=n:=by omega
   have Y:Hid (l.take k=l):=by
    rw[←B.out];exact List.take_length
   go_wp2;go_ret;exact⟨_,rfl,by rw[Y.out]at c;exact c,d⟩
end aeJ
