/- Lemmas. -/
import Derived.Test.YtaeohdlnidnofaaGreatDoorPRAAS
set_option linter.unusedSimpArgs false
set_option linter.unusedVariables false
set_option maxRecDepth 100000
set_option maxHeartbeats 64000000
namespace Go.Proofs.YtaeohdlnidnofaaGreatDoor
open Tryz
namespace TU
open Go.RowKit Base eU aJ jy jX fJ vW yw
variable {k:K} {m:M} {q:Value} {w:World} {j:Nat} {R:List UInt8}
def JY (m:M) (b:U) (x0 x1 x2 x3 x4:Bool):M:={m with u:={m.u with bU:=if x0=true then b.bU else m.u.bU,bW:=if x1=true then b.bW else m.u.bW,hh:=if x2=true then b.hh else m.u.hh,aU:=if x3=true then b.aU else m.u.aU,port:=if x4=true then b.port else m.u.port}}
def JZ (k:K) (m:M) (q:Value) (L:Nat→Bool) (_:Nat→Value) (w:World):Prop:=MX k (JY m k.b (L 33) (L 37) (L 41) (L 45) (L 49)) q w
section
variable {L:Nat→Bool} {t:Nat→Value} {v:Value}
theorem Po (i:Nat) (hi:(i==33||i==37||i==41||i==45||i==49)=false) {w':World} (c:Below w.heap.size w w') (a:JZ k m q L t w):JZ k m q (did L i) (upd t i v) w':=by
 simp only[Bool.or_eq_false_iff,beq_eq_false_iff_ne]at hi;obtain⟨⟨⟨⟨h,g⟩,f⟩,e⟩,d⟩:=hi;have a:MX k (JY m k.b (L 33) (L 37) (L 41) (L 45) (L 49)) q w:=a;unfold JZ;rw[aK L (Ne.symm h),aK L (Ne.symm g),aK L (Ne.symm f),aK L (Ne.symm e),aK L (Ne.symm d)];exact a.below c
theorem ad9 (a:JZ k m q L t w):JZ k m q (did L 33) (upd t 33 v) (w.setCell ⟨k.g,5,none⟩ (.string (ah k.b.bU))):=by
 have a:MX k (JY m k.b (L 33) (L 37) (L 41) (L 45) (L 49)) q w:=a;unfold JZ;rw[dK,aK L (i:=33) (k:=37) (by decide),aK L (i:=33) (k:=41) (by decide),aK L (i:=33) (k:=45) (by decide),aK L (i:=33) (k:=49) (by decide)];exact a.aai k.b.bU
theorem aea (a:JZ k m q L t w):JZ k m q (did L 37) (upd t 37 v) (w.setCell ⟨k.g,6,none⟩ (.string (ah k.b.bW))):=by
 have a:MX k (JY m k.b (L 33) (L 37) (L 41) (L 45) (L 49)) q w:=a;unfold JZ;rw[aK L (i:=37) (k:=33) (by decide),dK,aK L (i:=37) (k:=41) (by decide),aK L (i:=37) (k:=45) (by decide),aK L (i:=37) (k:=49) (by decide)];exact a.aah k.b.bW
theorem aeb (a:JZ k m q L t w):JZ k m q (did L 41) (upd t 41 v) (w.setCell ⟨k.g,8,none⟩ (.bool k.b.hh)):=by
 have a:MX k (JY m k.b (L 33) (L 37) (L 41) (L 45) (L 49)) q w:=a;unfold JZ;rw[aK L (i:=41) (k:=33) (by decide),aK L (i:=41) (k:=37) (by decide),dK,aK L (i:=41) (k:=45) (by decide),aK L (i:=41) (k:=49) (by decide)];exact a.TF k.b.hh
theorem aec (a:JZ k m q L t w):JZ k m q (did L 45) (upd t 45 v) (w.setCell ⟨k.g,7,none⟩ (.string (ah k.b.aU))):=by
 have a:MX k (JY m k.b (L 33) (L 37) (L 41) (L 45) (L 49)) q w:=a;unfold JZ;rw[aK L (i:=45) (k:=33) (by decide),aK L (i:=45) (k:=37) (by decide),aK L (i:=45) (k:=41) (by decide),dK,aK L (i:=45) (k:=49) (by decide)];exact a.rJ k.b.aU
theorem aed (a:JZ k m q L t w):JZ k m q (did L 49) (upd t 49 v) (w.setCell ⟨k.g,9,none⟩ (.int .i64 k.b.port)):=by
 have a:MX k (JY m k.b (L 33) (L 37) (L 41) (L 45) (L 49)) q w:=a;unfold JZ;rw[aK L (i:=49) (k:=33) (by decide),aK L (i:=49) (k:=37) (by decide),aK L (i:=49) (k:=41) (by decide),aK L (i:=49) (k:=45) (by decide),dK];exact a.JR k.b.port
end
theorem J3 (h:MX k m q w):Calls prog 82 #[.pointer (some ⟨k.g,0,none⟩)] w fun e w'=>e=.returned (.tuple #[])∧MX k (lJ k.b m) q w'∧True:=by
 have n:=hid h;clear h;go_enter func82,ntmps82;go_wp2_with fail
 refine iH (by kernel_rfl) (JZ k m q) [pg k.g 0,pg k.g 0,pg k.g 0,pg k.g 0,pg k.g 0,pg k.g 0,pg k.g 0,pg k.g 17,pg k.g 18,is (.string (ah k.b.bU)),pg k.g 0,pg k.g 0,pg k.g 17,pg k.g 19,is (.string (ah k.b.bW)),pg k.g 0,pg k.g 0,pg k.g 17,pg k.g 21,is (.bool k.b.hh),pg k.g 0,pg k.g 0,pg k.g 17,pg k.g 20,is (.string (ah k.b.aU)),pg k.g 0,pg k.g 0,pg k.g 17,pg k.g 22,is (.int .i64 k.b.port),pg k.g 0,pg k.g 4,pg k.g 5,any,pg k.g 0,pg k.g 4,pg k.g 6,any,pg k.g 0,pg k.g 4,pg k.g 8,any,pg k.g 0,pg k.g 4,pg k.g 7,any,pg k.g 0,pg k.g 4,pg k.g 9,any] [[],[],[],[],[],[],[5],[6],[7],[8],[],[10],[11],[12],[13],[],[15],[16],[17],[18],[],[20],[21],[22],[23],[],[25],[26],[27],[28],[0],[30],[31],[9,32],[1],[34],[35],[14,36],[2],[38],[39],[19,40],[3],[42],[43],[24,44],[4],[46],[47],[29,48]] (by kernel_rfl) (by repeat (first|exact oJ|refine qV _ ?_|refine oI ?_)) ?_ ?_ ?_
 ·exact fun t=>(show MX k (JY m k.b false false false false false) q _ from(n).out.below ⟨rfl,rfl,rfl,Nat.le_refl _,fun _ _=>rfl⟩)
 ·refine ⟨?_,?_,?_,?_,?_,?_,?_,?_,?_,?_,?_,?_,?_,?_,?_,?_,?_,?_,?_,?_,?_,?_,?_,?_,?_,?_,?_,?_,?_,?_,?_,?_,?_,?_,?_,?_,?_,?_,?_,?_,?_,?_,?_,?_,?_,?_,?_,?_,?_,?_,trivial⟩;all_goals(intro L t i a F G E hh K d;simp only[iG,Act.put,Nat.reduceAdd,Nat.reduceEqDiff,reduceIte]at hh d⊢;(try simp only[hh]at d⊢);clear hh)
  iterate 9
   ·go_simp;exact d _ _ rfl (Po _ (by decide) aV a)
  ·have c:MX k (JY m k.b (L 33) (L 37) (L 41) (L 45) (L 49)) q i:=a;have y:=c.x18;go_simp;exact d _ _ rfl (Po 9 (by decide) aV a)
  iterate 4
   ·go_simp;exact d _ _ rfl (Po _ (by decide) aV a)
  ·have c:MX k (JY m k.b (L 33) (L 37) (L 41) (L 45) (L 49)) q i:=a;have x:=c.x19;go_simp;exact d _ _ rfl (Po 14 (by decide) aV a)
  iterate 4
   ·go_simp;exact d _ _ rfl (Po _ (by decide) aV a)
  ·have c:MX k (JY m k.b (L 33) (L 37) (L 41) (L 45) (L 49)) q i:=a;have s:=c.x21;go_simp;exact d _ _ rfl (Po 19 (by decide) aV a)
  iterate 4
   ·go_simp;exact d _ _ rfl (Po _ (by decide) aV a)
  ·have c:MX k (JY m k.b (L 33) (L 37) (L 41) (L 45) (L 49)) q i:=a;have v:=c.x20;go_simp;exact d _ _ rfl (Po 24 (by decide) aV a)
  iterate 4
   ·go_simp;exact d _ _ rfl (Po _ (by decide) aV a)
  ·have c:MX k (JY m k.b (L 33) (L 37) (L 41) (L 45) (L 49)) q i:=a;have r:=c.x22;go_simp;exact d _ _ rfl (Po 29 (by decide) aV a)
  iterate 3
   ·go_simp;exact d _ _ rfl (Po _ (by decide) aV a)
  ·have c:MX k (JY m k.b (L 33) (L 37) (L 41) (L 45) (L 49)) q i:=a;have O:=c.x5;have D:=c.thaw 5;go_simp;exact d undef _ trivial (ad9 a)
  iterate 3
   ·go_simp;exact d _ _ rfl (Po _ (by decide) aV a)
  ·have c:MX k (JY m k.b (L 33) (L 37) (L 41) (L 45) (L 49)) q i:=a;have N:=c.x6;have C:=c.thaw 6;go_simp;exact d undef _ trivial (aea a)
  iterate 3
   ·go_simp;exact d _ _ rfl (Po _ (by decide) aV a)
  ·have c:MX k (JY m k.b (L 33) (L 37) (L 41) (L 45) (L 49)) q i:=a;have I:=c.x8;have A:=c.thaw 8;go_simp;exact d undef _ trivial (aeb a)
  iterate 3
   ·go_simp;exact d _ _ rfl (Po _ (by decide) aV a)
  ·have c:MX k (JY m k.b (L 33) (L 37) (L 41) (L 45) (L 49)) q i:=a;have J:=c.x7;have B:=c.thaw 7;go_simp;exact d undef _ trivial (aec a)
  iterate 3
   ·go_simp;exact d _ _ rfl (Po _ (by decide) aV a)
  have c:MX k (JY m k.b (L 33) (L 37) (L 41) (L 45) (L 49)) q i:=a;have H:=c.x9;have z:=c.thaw 9;go_simp;exact d undef _ trivial (aed a)
 intro j t i a f hh;clear hh;simp only[iG,Act.put,Nat.reduceAdd,Nat.reduceEqDiff,reduceIte];have c:MX k (JY m k.b (j 33) (j 37) (j 41) (j 45) (j 49)) q i:=a;rw[f 33 (by decide),f 37 (by decide),f 41 (by decide),f 45 (by decide),f 49 (by decide)]at c;have l:=hid c;clear c a f;go_wp2
 go_end0
 first|exact⟨rfl,l,trivial⟩|exact⟨rfl,l⟩
def J5 (m:M) (b:U) (x0 x1 x2 x3 x4:Bool):M:={m with u:={m.u with au:=if x0=true then b.au else m.u.au,dF:=if x1=true then true else m.u.dF,txt:=if x2=true then b.txt else m.u.txt,hq:=if x3=true then b.hq else m.u.hq,bQ:=if x4=true then b.bQ else m.u.bQ}}
def Jm (k:K) (m:M) (q:Value) (L:Nat→Bool) (_:Nat→Value) (w:World):Prop:=MX k (J5 m k.b (L 28) (L 32) (L 36) (L 40) (L 44)) q w
section
variable {L:Nat→Bool} {t:Nat→Value} {v:Value}
theorem Sl (i:Nat) (hi:(i==28||i==32||i==36||i==40||i==44)=false) {w':World} (c:Below w.heap.size w w') (a:Jm k m q L t w):Jm k m q (did L i) (upd t i v) w':=by
 simp only[Bool.or_eq_false_iff,beq_eq_false_iff_ne]at hi;obtain⟨⟨⟨⟨h,g⟩,f⟩,e⟩,d⟩:=hi;have a:MX k (J5 m k.b (L 28) (L 32) (L 36) (L 40) (L 44)) q w:=a;unfold Jm;rw[aK L (Ne.symm h),aK L (Ne.symm g),aK L (Ne.symm f),aK L (Ne.symm e),aK L (Ne.symm d)];exact a.below c
theorem adJ (a:Jm k m q L t w):Jm k m q (did L 28) (upd t 28 v) (w.setCell ⟨k.g,4,none⟩ (.string (ah k.b.au))):=by
 have a:MX k (J5 m k.b (L 28) (L 32) (L 36) (L 40) (L 44)) q w:=a;unfold Jm;rw[dK,aK L (i:=28) (k:=32) (by decide),aK L (i:=28) (k:=36) (by decide),aK L (i:=28) (k:=40) (by decide),aK L (i:=28) (k:=44) (by decide)];exact a.Bc k.b.au
theorem adK (a:Jm k m q L t w):Jm k m q (did L 32) (upd t 32 v) (w.setCell ⟨k.g,10,none⟩ (.bool true)):=by
 have a:MX k (J5 m k.b (L 28) (L 32) (L 36) (L 40) (L 44)) q w:=a;unfold Jm;rw[aK L (i:=32) (k:=28) (by decide),dK,aK L (i:=32) (k:=36) (by decide),aK L (i:=32) (k:=40) (by decide),aK L (i:=32) (k:=44) (by decide)];exact a.Xa true
theorem adL (a:Jm k m q L t w):Jm k m q (did L 36) (upd t 36 v) (w.setCell ⟨k.g,11,none⟩ (.string (ah k.b.txt))):=by
 have a:MX k (J5 m k.b (L 28) (L 32) (L 36) (L 40) (L 44)) q w:=a;unfold Jm;rw[aK L (i:=36) (k:=28) (by decide),aK L (i:=36) (k:=32) (by decide),dK,aK L (i:=36) (k:=40) (by decide),aK L (i:=36) (k:=44) (by decide)];exact a.Xb k.b.txt
theorem adM (a:Jm k m q L t w):Jm k m q (did L 40) (upd t 40 v) (w.setCell ⟨k.g,13,none⟩ (.bool k.b.hq)):=by
 have a:MX k (J5 m k.b (L 28) (L 32) (L 36) (L 40) (L 44)) q w:=a;unfold Jm;rw[aK L (i:=40) (k:=28) (by decide),aK L (i:=40) (k:=32) (by decide),aK L (i:=40) (k:=36) (by decide),dK,aK L (i:=40) (k:=44) (by decide)];exact a.Nl k.b.hq
theorem adN (a:Jm k m q L t w):Jm k m q (did L 44) (upd t 44 v) (w.setCell ⟨k.g,15,none⟩ (.string (ah k.b.bQ))):=by
 have a:MX k (J5 m k.b (L 28) (L 32) (L 36) (L 40) (L 44)) q w:=a;unfold Jm;rw[aK L (i:=44) (k:=28) (by decide),aK L (i:=44) (k:=32) (by decide),aK L (i:=44) (k:=36) (by decide),aK L (i:=44) (k:=40) (by decide),dK];exact a.vM k.b.bQ
end
theorem SN (hh:k.has=false):wY k.base m R=fail m:=by
 unfold K.has at hh;cases h:k.base with
 |none=>rfl
 |some b=>rw[h]at hh;cases hh
theorem tJ (hh:k.has=true):wY k.base m R=if k.b.dF=true∧(R=[]∨cc R≠35)then fail m else if k.b.dF=true then tail {m with u:={m.u with au:=k.b.au,dF:=true,txt:=k.b.txt,hq:=k.b.hq,bQ:=k.b.bQ}} R else if k.b.au≠ay then mv m 5 true else mv m 11 true:=by
 unfold K.has at hh;unfold K.b;cases h:k.base with
 |none=>rw[h]at hh;cases hh
 |some b=>rfl
theorem Oz (h:MX k m q w) (I:m.p=(j:Int)) (O:k.T.drop j=R) (J:k.T.length≤4611686018427387904) (N:j≤k.T.length):Calls prog 76 #[.pointer (some ⟨k.g,0,none⟩)] w fun e w'=>e=.returned (.tuple #[])∧MX k (wY k.base m R) q w'∧True:=by
 have a:=hid h;have X:=hid I;have W:=hid O;have HZ:Hid (-4611686018427387904≤m.p∧m.p≤4611686018427387904):=⟨by omega,by omega⟩;have a5:=hid J;have HJ:=hid N;obtain⟨bh,hh⟩:∃x,k.has=x:=⟨_,rfl⟩;have H:=hid hh;obtain⟨bo,l⟩:∃x,k.b.dF=x:=⟨_,rfl⟩;have A:=hid l;obtain⟨v,E⟩:∃v,(cc R).toNat=v:=⟨_,rfl⟩;have HV:=hid E;obtain⟨S,F⟩:∃S,k.b.au=S:=⟨_,rfl⟩;have a0:=hid F;rcases bh with _|_
 ·have C:Hid (wY k.base m R=fail m):=SN hh;clear hh l E F;clear h I O J N;go_enter func76,ntmps76;have c:=a.x30;rw[H.out]at c;have c2:=a.x2;have z2:=a.thaw 2;have d:=hid (a.st 19);go_wp2
  go_end0
  exact⟨rfl,by rw[C.out];exact d,trivial⟩
 rcases bo with _|_
 ·by_cases hf:S=ay
  ·have D:Hid (((ah S).toList==[102,105,108,101])=true):=by show _=_;rw[mF.eF];exact decide_eq_true hf
   have P:Hid (((ah S).toList !=[102,105,108,101])=false):=by show _=_;rw[bne,D.out];rfl
   have C:Hid (wY k.base m R=mv m 11 true):=by
    show _=_;rw[tJ hh,if_neg (fun x=>by rw[l]at x;exact absurd x.1 (by decide)),if_neg (by rw[l];decide),if_neg (fun x=>x (F.trans hf))]
   clear hh l E F hf;clear h I O J N;go_enter func76,ntmps76;have c:=a.x30;rw[H.out]at c;have f:=a.x23;rw[A.out]at f;have G:=a.x17;rw[a0.out]at G;have a2:=D.out;have a1:=P.out;go_wp2_with fail
   refine jw (iy a HZ 11 true) fun w2 d=>?_;go_wp2
   go_end0
   exact⟨rfl,by rw[C.out];exact d,trivial⟩
  have D:Hid (((ah S).toList==[102,105,108,101])=false):=by show _=_;rw[mF.eF];exact decide_eq_false hf
  have P:Hid (((ah S).toList !=[102,105,108,101])=true):=by show _=_;rw[bne,D.out];rfl
  have C:Hid (wY k.base m R=mv m 5 true):=by
   show _=_;rw[tJ hh,if_neg (fun x=>by rw[l]at x;exact absurd x.1 (by decide)),if_neg (by rw[l];decide),if_pos (fun x=>hf (F.symm.trans x))]
  clear hh l E F hf;clear h I O J N;go_enter func76,ntmps76;have c:=a.x30;rw[H.out]at c;have f:=a.x23;rw[A.out]at f;have G:=a.x17;rw[a0.out]at G;have a2:=D.out;have a1:=P.out;go_wp2_with fail
  refine jw (iy a HZ 5 true) fun w2 d=>?_;go_wp2
  go_end0
  exact⟨rfl,by rw[C.out];exact d,trivial⟩
 obtain⟨b,V⟩:∃b,decide (R=[])=b:=⟨_,rfl⟩;have HB:=hid V;rcases b with _|_
 ·by_cases h35:v=35
  ·have Q:Hid (((v:Int) !=35)=false):=by subst h35;rfl
   have C:Hid (wY k.base m R=tail {m with u:={m.u with au:=k.b.au,dF:=true,txt:=k.b.txt,hq:=k.b.hq,bQ:=k.b.bQ}} R):=by
    show _=_;rw[tJ hh,if_neg (fun x=>by rcases x.2 with y|y;exact absurd y (of_decide_eq_false V);exact y (UInt8.toNat_inj.1 (E.trans h35))),if_pos l]
   clear hh l E F V h35;clear h I O J N;go_enter func76,ntmps76;have c:=a.x30;rw[H.out]at c;have f:=a.x23;rw[A.out]at f;go_wp2_with fail
   refine dQ a (lC a X W HB) fun w2 d=>?_;clear c;have c:=d.x30;clear f;have f:=d.x23;rw[H.out]at c;rw[A.out]at f;go_wp2_with fail
   refine dQ d (yQ d X W HV) fun w3 z=>?_;clear c;have c:=z.x30;clear f;have f:=z.x23;rw[H.out]at c;rw[A.out]at f;have Y:=Q.out;go_wp2_with fail
   clear Y;try generalize ((v:Int) !=35)=g35
   clear f c;refine iH (by kernel_rfl) (Jm k m q) [pg k.g 0,pg k.g 0,pg k.g 0,pg k.g 0,pg k.g 0,pg k.g 0,pg k.g 0,pg k.g 17,pg k.g 17,is (.string (ah k.b.au)),pg k.g 0,pg k.g 0,pg k.g 17,pg k.g 24,is (.string (ah k.b.txt)),pg k.g 0,pg k.g 0,pg k.g 17,pg k.g 26,is (.bool k.b.hq),pg k.g 0,pg k.g 0,pg k.g 17,pg k.g 28,is (.string (ah k.b.bQ)),pg k.g 0,pg k.g 4,pg k.g 4,any,pg k.g 0,pg k.g 4,pg k.g 10,any,pg k.g 0,pg k.g 4,pg k.g 11,any,pg k.g 0,pg k.g 4,pg k.g 13,any,pg k.g 0,pg k.g 4,pg k.g 15,any] [[],[],[],[],[],[],[5],[6],[7],[8],[],[10],[11],[12],[13],[],[15],[16],[17],[18],[],[20],[21],[22],[23],[0],[25],[26],[9,27],[1],[29],[30],[31],[2],[33],[34],[14,35],[3],[37],[38],[19,39],[4],[41],[42],[24,43]] (by kernel_rfl) (by repeat (first|exact oJ|refine qV _ ?_|refine oI ?_)) ?_ ?_ ?_
   ·exact fun t=>(show MX k (J5 m k.b false false false false false) q _ from(z).out.below ⟨rfl,rfl,rfl,Nat.le_refl _,fun _ _=>rfl⟩)
   ·refine ⟨?_,?_,?_,?_,?_,?_,?_,?_,?_,?_,?_,?_,?_,?_,?_,?_,?_,?_,?_,?_,?_,?_,?_,?_,?_,?_,?_,?_,?_,?_,?_,?_,?_,?_,?_,?_,?_,?_,?_,?_,?_,?_,?_,?_,?_,trivial⟩;all_goals(intro L t B i hL hC hN hh K s;simp only[iG,Act.put,Nat.reduceAdd,Nat.reduceEqDiff,reduceIte]at hh s⊢;(try simp only[hh]at s⊢);clear hh)
    iterate 9
     ·go_simp;exact s _ _ rfl (Sl _ (by decide) aV i)
    ·have n:MX k (J5 m k.b (L 28) (L 32) (L 36) (L 40) (L 44)) q B:=i;have G:=n.x17;go_simp;exact s _ _ rfl (Sl 9 (by decide) aV i)
    iterate 4
     ·go_simp;exact s _ _ rfl (Sl _ (by decide) aV i)
    ·have n:MX k (J5 m k.b (L 28) (L 32) (L 36) (L 40) (L 44)) q B:=i;have b5:=n.x24;go_simp;exact s _ _ rfl (Sl 14 (by decide) aV i)
    iterate 4
     ·go_simp;exact s _ _ rfl (Sl _ (by decide) aV i)
    ·have n:MX k (J5 m k.b (L 28) (L 32) (L 36) (L 40) (L 44)) q B:=i;have b3:=n.x26;go_simp;exact s _ _ rfl (Sl 19 (by decide) aV i)
    iterate 4
     ·go_simp;exact s _ _ rfl (Sl _ (by decide) aV i)
    ·have n:MX k (J5 m k.b (L 28) (L 32) (L 36) (L 40) (L 44)) q B:=i;have b0:=n.x28;go_simp;exact s _ _ rfl (Sl 24 (by decide) aV i)
    iterate 3
     ·go_simp;exact s _ _ rfl (Sl _ (by decide) aV i)
    ·have n:MX k (J5 m k.b (L 28) (L 32) (L 36) (L 40) (L 44)) q B:=i;have c4:=n.x4;have z4:=n.thaw 4;go_simp;exact s undef _ trivial (adJ i)
    iterate 3
     ·go_simp;exact s _ _ rfl (Sl _ (by decide) aV i)
    ·have n:MX k (J5 m k.b (L 28) (L 32) (L 36) (L 40) (L 44)) q B:=i;have b9:=n.x10;have a9:=n.thaw 10;go_simp;exact s undef _ trivial (adK i)
    iterate 3
     ·go_simp;exact s _ _ rfl (Sl _ (by decide) aV i)
    ·have n:MX k (J5 m k.b (L 28) (L 32) (L 36) (L 40) (L 44)) q B:=i;have b8:=n.x11;have a8:=n.thaw 11;go_simp;exact s undef _ trivial (adL i)
    iterate 3
     ·go_simp;exact s _ _ rfl (Sl _ (by decide) aV i)
    ·have n:MX k (J5 m k.b (L 28) (L 32) (L 36) (L 40) (L 44)) q B:=i;have b7:=n.x13;have a7:=n.thaw 13;go_simp;exact s undef _ trivial (adM i)
    iterate 3
     ·go_simp;exact s _ _ rfl (Sl _ (by decide) aV i)
    have n:MX k (J5 m k.b (L 28) (L 32) (L 36) (L 40) (L 44)) q B:=i;have b6:=n.x15;have a6:=n.thaw 15;go_simp;exact s undef _ trivial (adN i)
   intro Z t B i r hh;clear hh;simp only[iG,Act.put,Nat.reduceAdd,Nat.reduceEqDiff,reduceIte];have n:MX k (J5 m k.b (Z 28) (Z 32) (Z 36) (Z 40) (Z 44)) q B:=i;rw[r 28 (by decide),r 32 (by decide),r 36 (by decide),r 40 (by decide),r 44 (by decide)]at n;have a3:=hid n;clear n i r;go_wp2_with fail
   refine jw (mZ a3 X W a5 HJ) fun w21 HM21=>?_;go_wp2
   go_end0
   exact⟨rfl,by rw[C.out];exact HM21,trivial⟩
  have Q:Hid (((v:Int) !=35)=true):=by show _=_;exact bne_iff_ne.2 (fun x=>h35 (by omega))
  have C:Hid (wY k.base m R=fail m):=by
   show _=_;rw[tJ hh,if_pos ⟨l,.inr (fun x=>h35 (by rw[←E,x];rfl))⟩]
  clear hh l E F V h35;clear h I O J N;go_enter func76,ntmps76;have c:=a.x30;rw[H.out]at c;have f:=a.x23;rw[A.out]at f;go_wp2_with fail
  refine dQ a (lC a X W HB) fun w2 d=>?_;go_wp2_with fail
  refine dQ d (yQ d X W HV) fun w3 z=>?_;have Y:=Q.out;have c2:=z.x2;have z2:=z.thaw 2;have a4:=hid (z.st 19);go_wp2
  go_end0
  exact⟨rfl,by rw[C.out];exact a4,trivial⟩
 skip
 have C:Hid (wY k.base m R=fail m):=by
  show _=_;rw[tJ hh,if_pos ⟨l,.inl (of_decide_eq_true V)⟩]
 clear hh l E F V;clear h I O J N;go_enter func76,ntmps76;have c:=a.x30;rw[H.out]at c;have f:=a.x23;rw[A.out]at f;go_wp2_with fail
 refine dQ a (lC a X W HB) fun w2 d=>?_;have c2:=d.x2;have z2:=d.thaw 2;have z:=hid (d.st 19);go_wp2
 go_end0
 exact⟨rfl,by rw[C.out];exact z,trivial⟩
end TU
namespace aam
open Go.RowKit Base bC eU dJ gJ aJ gV jX fJ vW yw yK Dv
variable {k:K} {m:M} {q:Value} {w:World} {j:Nat} {R:List UInt8}
theorem KI {c:UInt8} (n:Nat) (h:n<256) {d:Bool} (e:decide (c=UInt8.ofNat n)=d):Hid (((c.toNat:Int)==(n:Int))=d):=by
 subst e;show _=_;by_cases g:c=UInt8.ofNat n
 ·rw[ZH h g,decide_eq_true g]
 rw[ZI h g,decide_eq_false g]
theorem adq (a b c d e:Bool):(a=true∨(a=false∧b=true)∨(a=false∧b=false∧c=true)∨(a=false∧b=false∧c=false∧d=true)∨(a=false∧b=false∧c=false∧d=false∧e=true))∨(a=false∧b=false∧c=false∧d=false∧e=false):=by
 revert a b c d e;decide
theorem aaI (S:List UInt8):(k.base.elim false fun b=>decide (b.au=S))=(k.has&&decide (k.b.au=S)):=by
 unfold K.has K.b;cases k.base<;>rfl
theorem Ws (dp : Dp) (h : MX k m q w) (hz : m.p = (j : Int)) (hR : k.T.drop j = R) (hl : k.T.length ≤ 4611686018427387904) (hj : j ≤ k.T.length) (c5 : j + 1 ≤ 4611686018427387904) (c8 : m.buf.length ≤ 900000) : Calls prog 75 #[.pointer (some ⟨k.g, 0, none⟩), .int .u8 ((cc R).toNat : Int)] w fun e w' => e = .returned (.tuple #[]) ∧ MX k (fD k.base m R) q w' ∧ True := by
 have d3:=hid h;have HP:=hid hz;have HR:=hid hR;have HZ:Hid (-4611686018427387904≤m.p∧m.p≤4611686018427387904):=⟨by omega,by omega⟩;obtain⟨B,hB⟩:∃B,m.buf=B:=⟨_,rfl⟩;have d5:=hid hB;have g0:Hid (B.length≤900000):=by show _≤_;rw[←hB];exact c8
 obtain⟨c,hc⟩:∃c,c=cc R:=⟨_,rfl⟩;rw[←hc];have a5:(j:Int)≤4611686018427387904:=by omega
 have f4:=hid a5;have d0:Hid (-4611686018427387904≤(j:Int)+1∧(j:Int)+1≤4611686018427387904):=⟨by omega,by omega⟩;clear a5;obtain⟨E,hE⟩:∃E,lower [c]=E:=⟨_,rfl⟩;have f6:=hid hE;have f5:Hid (E.length≤3):=by show _≤_;rw[←hE];exact(by decide:(1:Nat)≤3)
 obtain⟨b,hb⟩:∃b,decide (R=[])=b:=⟨_,rfl⟩;have HB:=hid hb;obtain⟨lt,a4⟩:∃x,letter (c.toNat:Int)=x:=⟨_,rfl⟩;have f3:=hid a4;obtain⟨dg,a6⟩:∃x,digit (c.toNat:Int)=x:=⟨_,rfl⟩;have d4:=hid a6;have c0:ny (cc R)=(lt||(dg||(decide (c=43)||(decide (c=45)||decide (c=46))))):=by rw[←hc];unfold ny;rw[a4,a6]
 obtain⟨N,a9⟩:∃x,decide (c=43)=x:=⟨_,rfl⟩;have d9:Hid (((c.toNat:Int)==43)=N):=KI 43 (by decide) a9;obtain⟨J,a8⟩:∃x,decide (c=45)=x:=⟨_,rfl⟩;have d8:Hid (((c.toNat:Int)==45)=J):=KI 45 (by decide) a8;obtain⟨I,a7⟩:∃x,decide (c=46)=x:=⟨_,rfl⟩;have d7:Hid (((c.toNat:Int)==46)=I):=KI 46 (by decide) a7;obtain⟨a0,Y⟩:∃x,decide (c=58)=x:=⟨_,rfl⟩;have d6:Hid (((c.toNat:Int)==58)=a0):=KI 58 (by decide) Y;have H:ny (cc R)=(lt||(dg||(N||(J||I)))):=by rw[c0,a9,a8,a7]
 obtain⟨s,hs⟩:∃s,aj B=s:=⟨_,rfl⟩;have O:=hid hs;obtain⟨bh,hh⟩:∃x,k.has=x:=⟨_,rfl⟩;have HH:=hid hh;obtain⟨bs,rX⟩:∃x,k.b.au=x:=⟨_,rfl⟩;have f8:=hid rX;obtain⟨D,hD⟩:∃D,R.drop 1=D:=⟨_,rfl⟩;obtain⟨X,hX⟩:∃X,X=ah D:=⟨_,rfl⟩;have b7:=hid hX;have HX:Hid (ah (k.T.drop (j+1))=X):=by show _=_;rw[hX,←hD,←hR,List.drop_drop]
 have f1:Hid (b=false→(lt||(dg||(N||(J||I))))=true→fD k.base m R={m with buf:=B++E}):=by
  intro x y;subst x;unfold fD;rw[if_pos ⟨of_decide_eq_false hb,H.trans y⟩,hB,←hc,hE]
 have d1:Hid (b=true∨((lt||(dg||(N||(J||I))))=false∧a0=false)→fD k.base m R={m with buf:=[],p:= -1,st:=2}):=by
  intro x;unfold fD;rcases x with x|⟨x,y⟩
  ·rw[if_neg (fun z=>z.1 (of_decide_eq_true (hb.trans x))),if_pos (.inl (of_decide_eq_true (hb.trans x)))]
  rw[if_neg (fun z=>by rw[H,x]at z;exact absurd z.2 (by decide)),if_pos (.inr (fun z=>of_decide_eq_false (Y.trans y) (hc.trans z)))]
 have G:Hid (b=false→(lt||(dg||(N||(J||I))))=false→a0=true→fD k.base m R=if B=ay then mv {m with u:={m.u with au:=B},buf:=[]} 11 false else if s=true∧(bh&&decide (bs=B))=true then mv {m with u:={m.u with au:=B},buf:=[]} 3 false else if s=true then mv {m with u:={m.u with au:=B},buf:=[]} 7 false else if D.head?=some 47 then mv {({m with u:={m.u with au:=B},buf:=[]}:M)with p:=m.p+1} 4 false else mv {({m with u:={m.u with au:=B},buf:=[]}:M)with u:={({m with u:={m.u with au:=B},buf:=[]}:M).u with dF:=true}} 16 false):=by
  intro x y z;subst x;unfold fD;rw[if_neg (fun a=>by rw[H,y]at a;exact absurd a.2 (by decide)),if_neg (fun a=>by rcases a with a|a;exact of_decide_eq_false hb a;exact a (hc.symm.trans (of_decide_eq_true (Y.trans z))))];dsimp only;rw[hB,aaI,hh,rX,hs,hD]
 clear hB hc hb c8 dp a4 a6 c0 H hE c5 a9 a8 a7 Y hs hh rX hD hX;clear h hz hR hl hj;go_enter func75,ntmps75;go_wp2_with fail
 refine dQ d3 (lC d3 HP HR HB) fun w2 HM2=>?_;rcases b with _|_
 ·go_wp2_with fail
  refine(iD.dO (c.toNat:Int) _).mono ?_;rintro e7 w7 ⟨rfl,rfl⟩;rw[f3.out];rcases adq lt dg N J I with(rfl|⟨rfl,rfl⟩|⟨rfl,rfl,rfl⟩|⟨rfl,rfl,rfl,rfl⟩|⟨rfl,rfl,rfl,rfl,rfl⟩)|⟨rfl,rfl,rfl,rfl,rfl⟩
  iterate 5
   ·go_wp2_with fail
    try
     refine(iD.fB (c.toNat:Int) _).mono ?_;rintro e8 w8 ⟨rfl,rfl⟩;rw[d4.out];have b5:=d9.out;have b3:=d8.out;have b0:=d7.out;go_wp2_with fail
     clear b5 b3 b0
    try generalize ((c.toNat:Int)==43)=g43
    try generalize ((c.toNat:Int)==45)=g45
    try generalize ((c.toNat:Int)==46)=g46
    refine aW (by kernel_rfl) 12 [pg k.g 0,pg k.g 0,pg k.g 0,pg k.g 3,is (.string (ah B)),is (.int .u8 (c.toNat:Int)),row 1 (aQ [c]),is (.string (ah [c])),is (.string (ah E)),is (.string (ah (B++E))),pg k.g 0,pg k.g 3] [[],[],[1],[1,2],[1,2,3],[],[5],[5,6],[5,6,7],[1,2,3,4,5,6,7,8],[0],[0,10],[0,1,2,3,4,5,6,7,8,9,10,11]] (by kernel_rfl) ?_ ?_
    ·refine ⟨?_,?_,?_,?_,?_,?_,?_,?_,?_,?_,?_,?_,trivial⟩;all_goals(intro t P i hh K f;simp only[iG,oV,Act.put,Nat.reduceAdd,Nat.reduceEqDiff,reduceIte]at hh f⊢)
     iterate 4
      ·try simp only[hh]at f⊢
       clear hh;go_simp;exact f _ _ aV rfl
     ·try simp only[hh]at f⊢
      clear hh;have c3:=(HM2.below i).x3;rw[d5.out]at c3;go_simp;exact f _ _ aV rfl
     ·try simp only[hh]at f⊢
      clear hh;go_simp;exact f _ _ aV rfl
     ·try simp only[hh]at f⊢
      clear hh;go_simp;exact f _ _ ((Below.refl _ _).alloc (Nat.le_refl _) _) ⟨_,_,rfl,Nat.le_refl _,by decide,iR P [c] 5 (0,0)⟩
     ·have e6:=hh.2.1;clear hh;obtain⟨A6,c6,e6,g7,g6,e3⟩:=e6;simp only[e6]at f⊢;have hs:=aT 45 9 5 underlying45 underlying5 underlying9 _ c6 e3;go_simp;exact f _ _ aV rfl
     ·try simp only[hh]at f⊢
      clear hh;go_simp;refine(iD.jP (ah [c]) _ (by rw[ak];exact(by decide:(1:Nat)≤1073741824))).mono ?_;rintro e w5 ⟨rfl,F⟩;rw[show lower (ah [c]).data.toList=E from f6.out];exact f _ _ F rfl
     ·try simp only[hh]at f⊢
      clear hh;have g1:(Op.stringOp .add (ah B) (ah E)).run prog P=.ok (.string (ah (B++E))) P:=bJ _ _ P (by have:=g0.out;have:=f5.out;simp;omega);go_simp;exact f _ _ aV rfl
     iterate 2
      ·try simp only[hh]at f⊢
       clear hh;go_simp;exact f _ _ aV rfl
    ·intro t P i hh;have f9:=aO hh 9 (by decide);simp only[pick]at f9;replace f9:t 9=(.string (ah (B++E))):=f9;have Z:=aO hh 11 (by decide);simp only[pick]at Z;replace Z:t 11=(.pointer (some ⟨k.g,3,none⟩)):=Z;clear hh;simp only[iG,oV,Act.put,Nat.reduceAdd,Nat.reduceEqDiff,reduceIte];simp only[f9,Z];have b8:=hid (HM2.below i);have f2:=hid (b8.buf (B++E));have z3:=b8.thaw 3;have c3:=b8.x3;go_wp2;first|go_end0|((try simp only[Exit.inBlock,Exit.then]);refine fA rfl rfl ?_)
     exact⟨rfl,by rw[f1.out (by simp) (by simp)];exact f2,trivial⟩
  go_wp2_with fail
  refine(iD.fB (c.toNat:Int) _).mono ?_;rintro e8 w8 ⟨rfl,rfl⟩;rw[d4.out];have b5:=d9.out;have b3:=d8.out;have b0:=d7.out;go_wp2_with fail
  refine dQ HM2 (lC HM2 HP HR HB) fun w3 HM3=>?_;rcases a0 with _|_
  ·have c9:((c.toNat:Int) !=58)=true:=by rw[bne,d6.out];rfl
   have c3:=HM3.x3;have c1:=HM3.x1;have c2:=HM3.x2;have z3:=HM3.thaw 3;have z1:=HM3.thaw 1;have z2:=HM3.thaw 2;have W:=hid (HM3.buf []);have r:=hid (W.p (-1));have Q:=hid (r.st 2);go_wp2;first|go_end0|((try simp only[Exit.inBlock,Exit.then]);refine fA rfl rfl ?_)
   exact⟨rfl,by rw[d1.out (by simp)];exact Q,trivial⟩
  have c9:((c.toNat:Int) !=58)=false:=by rw[bne,d6.out];rfl
  have c3:=HM3.x3;have c4:=HM3.x4;have z3:=HM3.thaw 3;have z4:=HM3.thaw 4;rw[d5.out]at c3;have W:=hid (HM3.Bc B);have r:=hid (W.buf []);by_cases hf:B=ay
  ·have c7:((ah B).toList==[102,105,108,101])=true:=by rw[mF.eF];exact decide_eq_true hf
   have HF:=hid hf;clear hf;go_wp2_with fail
   refine jw (iy r HZ 11 false) fun w6 Q=>?_;go_wp2;first|go_end0|((try simp only[Exit.inBlock,Exit.then]);refine fA rfl rfl ?_)
   exact⟨rfl,by rw[G.out (by simp) (by simp) (by simp),if_pos HF.out];exact Q,trivial⟩
  have c7:((ah B).toList==[102,105,108,101])=false:=by rw[mF.eF];exact decide_eq_false hf
  have HF:=hid hf;clear hf;go_wp2_with fail
  clear b5 b3 b0 c9 c7;try generalize ((c.toNat:Int) !=58)=g58
  try generalize ((c.toNat:Int)==43)=g43
  try generalize ((c.toNat:Int)==45)=g45
  try generalize ((c.toNat:Int)==46)=g46
  try generalize ((ah B).toList==[102,105,108,101])=gf
  clear c3 c4 z3 z4;rcases s with _|_
  ·skip
   refine dH (by kernel_rfl) [pg k.g 0,is (.bool false),is (.bool false),any,any,any,any,is (.bool false),is (.bool false),any,any,any,any,any,any,any,any,any,any,any,is (.bool false),is (.bool false)] [[],[0],[1],[2],[2,3],[2,4],[2,5],[2,6],[7],[8],[8,9],[8,10],[8,11],[8,12],[8],[8,14],[8,15],[8,16],[8,17],[8,13,18],[8,19],[20]] (by kernel_rfl) ?_ ?_
   ·refine⟨?_,?_,?_,?_,?_,?_,?_,?_,?_,?_,?_,?_,?_,?_,?_,?_,?_,?_,?_,?_,?_,?_,trivial⟩;all_goals(intro t P i hh K f;simp only[iG,Act.put,Nat.reduceAdd,Nat.reduceEqDiff,reduceIte]at hh f⊢;(try simp only[hh]at f⊢);clear hh;go_simp)
    ·exact f _ _ aV rfl
    ·refine(dX (r.below i) (show sp _=false from O)).mono ?_;rintro e w5 ⟨rfl,F⟩;exact f _ _ F rfl
    ·exact f _ _ aV rfl
    iterate 4 · exact f undef _ aV trivial
    iterate 2 · exact f _ _ aV rfl
    iterate 11 · exact f undef _ aV trivial
    iterate 2 · exact f _ _ aV rfl
   intro t P i hh;have v:=aO hh 21 (by decide);simp only[pick]at v;replace v:t 21=(.bool false):=v;clear hh;simp only[iG,Act.put,Nat.reduceAdd,Nat.reduceEqDiff,reduceIte];simp only[v];have C:=hid (r.below i);go_wp2_with fail
   refine dQ C (dX C (show sp _=false from O)) fun w31 HM31=>?_;have c1:w31.cell? ⟨k.g,1,none⟩=some (.int .i64 (j:Int)):=by have:=HM31.x1;rw[show({m with u:={m.u with au:=B},buf:=[]}:M).p=(j:Int)from HP.out]at this;exact this
   have a5:=f4.out;go_wp2_with fail
   refine(qJ HM31 (j+1)).mono ?_;rintro g9 a3 ⟨rfl,a2⟩;rw[HX.out];have l:=hid (HM31.below a2);clear a2 c1;have c1:a3.cell? ⟨k.g,1,none⟩=some (.int .i64 (j:Int)):=by have:=l.x1;rw[show({m with u:={m.u with au:=B},buf:=[]}:M).p=(j:Int)from HP.out]at this;exact this
   rcases D with _|⟨x,L⟩
   ·have e4:X.toList.isEmpty=true:=by rw[b7.out];exact EG
    have f0:=l.x10;have e0:=l.thaw 10;have V:=hid (l.Xa true);go_wp2_with fail
    refine jw (iy V HZ 16 false) fun w41 HM41=>?_;go_wp2;first|go_end0|((try simp only[Exit.inBlock,Exit.then]);refine fA rfl rfl ?_)
    exact⟨rfl,by rw[G.out (by simp) (by simp) (by simp),if_neg HF.out,if_neg (by simp),if_neg (by simp),if_neg (by decide)];exact HM41,trivial⟩
   have e4:X.toList.isEmpty=false:=by rw[b7.out];exact CU (fun e=>by cases e)
   obtain⟨sN,g5⟩:∃h:0<X.size,X[0]=x:=by have:=b7;subst this;exact⟨by rw[ak];exact Nat.succ_pos _,rfl⟩
   have g4:(0:Int)<(X.size:Int):=by omega
   have g3:¬(X.size:Int)≤0:=by omega
   go_wp2_with fail
   refine(qJ l (j+1)).mono ?_;rintro g8 e2 ⟨rfl,a1⟩;rw[HX.out];have A:=hid (l.below a1);clear a1 c1;have c1:e2.cell? ⟨k.g,1,none⟩=some (.int .i64 (j:Int)):=by have:=A.x1;rw[show({m with u:={m.u with au:=B},buf:=[]}:M).p=(j:Int)from HP.out]at this;exact this
   by_cases h47:x=47
   ·have e5:((x.toNat:Int)==47)=true:=ZH (n:=47) (by decide) h47;have b9:=hid h47;clear h47;have z1:=A.thaw 1;have d2:Hid (MX k {({m with u:={m.u with au:=B},buf:=[]}:M)with p:=(j:Int)+1} q _):=hid (A.p ((j:Int)+1));have g2:=d0.out;go_wp2_with fail
    refine jw (iy d2 d0 4 false) fun w35 HM35=>?_;have HO:=G (by simp) (by simp) (by simp);rw[if_neg HF.out,if_neg (by simp),if_neg (by simp),if_pos (by rw[b9.out];rfl),show m.p=(j:Int)from HP.out]at HO;go_wp2;first|go_end0|((try simp only[Exit.inBlock,Exit.then]);refine fA rfl rfl ?_)
    exact⟨rfl,by rw[HO];exact HM35,trivial⟩
   have e5:((x.toNat:Int)==47)=false:=ZI (n:=47) (by decide) h47;have b9:=hid h47;clear h47;have f0:=A.x10;have e0:=A.thaw 10;have V:=hid (A.Xa true);go_wp2_with fail
   refine jw (iy V HZ 16 false) fun w41 HM41=>?_;go_wp2;first|go_end0|((try simp only[Exit.inBlock,Exit.then]);refine fA rfl rfl ?_)
   exact⟨rfl,by rw[G.out (by simp) (by simp) (by simp),if_neg HF.out,if_neg (by simp),if_neg (by simp),if_neg (show ¬(x::L).head?=some 47 from fun e=>b9.out (Option.some.inj e))];exact HM41,trivial⟩
  rcases bh with _|_
  ·skip
   refine dH (by kernel_rfl) [pg k.g 0,is (.bool true),is (.bool true),pg k.g 0,pg k.g 0,pg k.g 30,is (.bool false),is (.bool false),is (.bool false),any,any,any,any,any,any,any,any,any,any,any,is (.bool false),is (.bool false)] [[],[0],[1],[2],[2,3],[2,4],[2,5],[2,6],[7],[8],[8,9],[8,10],[8,11],[8,12],[8],[8,14],[8,15],[8,16],[8,17],[8,13,18],[8,19],[20]] (by kernel_rfl) ?_ ?_
   ·refine ⟨?_,?_,?_,?_,?_,?_,?_,?_,?_,?_,?_,?_,?_,?_,?_,?_,?_,?_,?_,?_,?_,?_,trivial⟩;all_goals(intro t P i hh K f;simp only[iG,Act.put,Nat.reduceAdd,Nat.reduceEqDiff,reduceIte]at hh f⊢;(try simp only[hh]at f⊢);clear hh)
    ·go_simp;exact f _ _ aV rfl
    ·go_simp;refine(dX (r.below i) (show sp _=true from O)).mono ?_;rintro e w5 ⟨rfl,F⟩;exact f _ _ F rfl
    iterate 4
     ·go_simp;exact f _ _ aV rfl
    ·have b6:=(r.below i).x30;rw[HH.out]at b6;go_simp;exact f _ _ aV rfl
    iterate 2
     ·go_simp;exact f _ _ aV rfl
    iterate 11
     ·go_simp;exact f undef _ aV trivial
    iterate 2
     ·go_simp;exact f _ _ aV rfl
   intro t P i hh;have v:=aO hh 21 (by decide);simp only[pick]at v;replace v:t 21=(.bool false):=v;clear hh;simp only[iG,Act.put,Nat.reduceAdd,Nat.reduceEqDiff,reduceIte];simp only[v];have C:=hid (r.below i);go_wp2_with fail
   refine dQ C (dX C (show sp _=true from O)) fun w31 HM31=>?_;go_wp2_with fail
   refine jw (iy HM31 HZ 7 false) fun a3 l=>?_;go_wp2;first|go_end0|((try simp only[Exit.inBlock,Exit.then]);refine fA rfl rfl ?_)
   exact⟨rfl,by rw[G.out (by simp) (by simp) (by simp),if_neg HF.out,if_neg (by simp),if_pos (by simp)];exact l,trivial⟩
  obtain⟨d,hd⟩:∃x,decide (bs=B)=x:=⟨_,rfl⟩;have HE:Hid (decide (bs=B)=d):=hid hd;have f7:Hid (((ah bs).toList==(ah B).toList)=d):=by show _=_;rw[←hd];by_cases e:bs=B;(rw[e,decide_eq_true rfl];exact beq_self_eq_true _);(rw[decide_eq_false e,mF.tl,mF.tl];exact beq_false_of_ne e)
  clear hd;refine dH (by kernel_rfl) [pg k.g 0,is (.bool true),is (.bool true),pg k.g 0,pg k.g 0,pg k.g 30,is (.bool true),is (.bool true),is (.bool true),pg k.g 0,pg k.g 0,pg k.g 17,pg k.g 17,is (.string (ah bs)),pg k.g 0,pg k.g 0,pg k.g 4,pg k.g 4,is (.string (ah B)),is (.bool d),is (.bool d),is (.bool d)] [[],[0],[1],[2],[2,3],[2,4],[2,5],[2,6],[7],[8],[8,9],[8,10],[8,11],[8,12],[8],[8,14],[8,15],[8,16],[8,17],[8,13,18],[8,19],[20]] (by kernel_rfl) ?_ ?_
  ·refine ⟨?_,?_,?_,?_,?_,?_,?_,?_,?_,?_,?_,?_,?_,?_,?_,?_,?_,?_,?_,?_,?_,?_,trivial⟩;all_goals(intro t P i hh K f;simp only[iG,Act.put,Nat.reduceAdd,Nat.reduceEqDiff,reduceIte]at hh f⊢;(try simp only[hh]at f⊢);clear hh)
   ·go_simp;exact f _ _ aV rfl
   ·go_simp;refine(dX (r.below i) (show sp _=true from O)).mono ?_;rintro e w5 ⟨rfl,F⟩;exact f _ _ F rfl
   iterate 4
    ·go_simp;exact f _ _ aV rfl
   ·have b6:=(r.below i).x30;rw[HH.out]at b6;go_simp;exact f _ _ aV rfl
   iterate 6
    ·go_simp;exact f _ _ aV rfl
   ·have e9:=(r.below i).x17;rw[f8.out]at e9;go_simp;exact f _ _ aV rfl
   iterate 4
    ·go_simp;exact f _ _ aV rfl
   ·have c4:=(r.below i).x4;go_simp;exact f _ _ aV rfl
   ·have e1:=f7.out;go_simp;exact f _ _ aV rfl
   iterate 2
    ·go_simp;exact f _ _ aV rfl
  intro t P i hh;have v:=aO hh 21 (by decide);simp only[pick]at v;replace v:t 21=(.bool d):=v;clear hh;simp only[iG,Act.put,Nat.reduceAdd,Nat.reduceEqDiff,reduceIte];simp only[v];have C:=hid (r.below i);rcases d with _|_
  ·skip
   go_wp2_with fail
   refine dQ C (dX C (show sp _=true from O)) fun w31 HM31=>?_;go_wp2_with fail
   refine jw (iy HM31 HZ 7 false) fun a3 l=>?_;go_wp2;first|go_end0|((try simp only[Exit.inBlock,Exit.then]);refine fA rfl rfl ?_)
   exact⟨rfl,by rw[G.out (by simp) (by simp) (by simp),if_neg HF.out,if_neg (by simp[HE.out]),if_pos (by simp)];exact l,trivial⟩
  go_wp2_with fail
  refine jw (iy C HZ 3 false) fun w31 HM31=>?_;go_wp2;first|go_end0|((try simp only[Exit.inBlock,Exit.then]);refine fA rfl rfl ?_)
  exact⟨rfl,by rw[G.out (by simp) (by simp) (by simp),if_neg HF.out,if_pos (by simp[HE.out])];exact HM31,trivial⟩
 go_wp2_with fail
 refine dQ HM2 (lC HM2 HP HR HB) fun w3 HM3=>?_;have c3:=HM3.x3;have c1:=HM3.x1;have c2:=HM3.x2;have z3:=HM3.thaw 3;have z1:=HM3.thaw 1;have z2:=HM3.thaw 2;have W:=hid (HM3.buf []);have r:=hid (W.p (-1));have Q:=hid (r.st 2);go_wp2;first|go_end0|((try simp only[Exit.inBlock,Exit.then]);refine fA rfl rfl ?_)
 exact⟨rfl,by rw[d1.out (by simp)];exact Q,trivial⟩
end aam
namespace aan
open Go.RowKit Base bC eU iJ dJ aJ qP gV jX fJ vW yw yK Dv
variable {k:K} {m:M} {q:Value} {w:World} {j:Nat} {R:List UInt8}
theorem LU:∀(C A:List UInt8),65535<jU A→65535<jU (A++C)
 |[],A,h=>by rw[List.append_nil];exact h
 |c::C,A,h=>by
  rw[show A++c::C=(A++[c])++C by simp]
  exact LU C _ (by rw[xY];omega)
theorem SC {B:List UInt8} (i:Nat) (h:65535<jU (B.take i)):65535<jU B:=by
 have:=LU (B.drop i) _ h
 rwa[List.take_append_drop]at this
theorem ad3 {s:Bool} (h:kM s R=true):nZ (cc R)=false:=by
 match R,h with
 |c::L,h=>
  have h:bZ s c=true:=h;show nZ c=false;by_cases h47:c=47
  ·subst h47;rfl
  by_cases h92:c=92
  ·subst h92;rfl
  unfold bZ at h;simp[h47,h92]at h
theorem p3 (o g l:Bool):(o=false∧g=false∧l=false)∨((o=false∧g=false∧l=true)∨o=true)∨(o=false∧g=true):=by
 revert o g l;decide
theorem abg (dp:Dp) (h:MX k m q w) (O:m.p=(j:Int)) (hR:k.T.drop j=R) (hl:k.T.length≤4611686018427387904) (hj:j≤k.T.length) (J:m.buf.length≤900000) (G:m.buf.all nZ=true):Calls prog 85 #[.pointer (some ⟨k.g,0,none⟩),.int .u8 ((cc R).toNat:Int)] w fun e w'=>e=.returned (.tuple #[])∧MX k (gZ m R) q w'∧True:=by
 have s:=hid h;have HP:=hid O;have Z:=hid hR;have HZ:Hid (-4611686018427387904≤m.p∧m.p≤4611686018427387904):=⟨by omega,by omega⟩;obtain⟨B,v⟩:∃B,m.buf=B:=⟨_,rfl⟩;have a9:=hid v;have a8:Hid (B.length≤900000):=by show _≤_;rw[←v];exact J
 obtain⟨c,I⟩:∃c,c=cc R:=⟨_,rfl⟩;rw[←I];obtain⟨l,f⟩:∃l,kM (sp m) R=l:=⟨_,rfl⟩;have HL:=hid f;obtain⟨o,P⟩:∃o,bV R=o:=⟨_,rfl⟩;have HE:=hid P;obtain⟨g,Q⟩:∃g,nZ c=g:=⟨_,rfl⟩;have HG:Hid (digit (c.toNat:Int)=g):=Q;have d4:Hid (B.all nZ=true):=by show _=_;rw[←v];exact G
 obtain⟨X,hX⟩:∃X,ah B=X:=⟨_,rfl⟩;have HX:=hid hX;have Y:Hid (X.size=B.length):=by show _=_;rw[←hX];exact ak _
 obtain⟨S,hS⟩:∃S,S=ah m.u.au:=⟨_,rfl⟩;have c1:=hid hS;obtain⟨D,hD⟩:∃D,D=jo m.u.au:=⟨_,rfl⟩;have d2:Hid (jo S.data.toList=D):=by show _=_;rw[hS,hD];rfl
 obtain⟨E,hE⟩:∃E,E=aj m.u.au:=⟨_,rfl⟩;have d3:Hid (aj S.data.toList=E):=by show _=_;rw[hS,hE];rfl
 rcases p3 o g l with⟨rfl,rfl,rfl⟩|(⟨rfl,rfl,rfl⟩|rfl)|⟨rfl,rfl⟩
 ·skip
  have y:Hid (gZ m R=fail m):=by
   show _=_;unfold gZ;rw[if_neg (fun x=>by rw[←I,Q]at x;exact absurd x.2 (by decide)),if_pos ⟨P,f⟩]
  clear v I f P J dp Q G hX hS hD hE;clear h O hR hl hj;go_enter func85,ntmps85;go_wp2_with fail
  refine dQ s (eu s HP Z HE) fun w2 HM2=>?_;go_wp2_with fail
  refine(iD.fB (c.toNat:Int) _).mono ?_;rintro e7 w7 ⟨rfl,rfl⟩;rw[HG.out];go_wp2_with fail
  refine dQ HM2 (eu HM2 HP Z HE) fun w3 HM3=>?_;go_wp2_with fail
  refine dQ HM3 (bM HM3 HP Z HL) fun w4 a=>?_;have c2:=a.x2;have z2:=a.thaw 2;have a3:=hid (a.st 19);go_wp2;first|go_end0|((try simp only[Exit.inBlock,Exit.then]);refine fA rfl rfl ?_)
  exact⟨rfl,by rw[y.out];exact a3,trivial⟩
 iterate 2
  ·have A1:¬(bV R=false∧nZ (cc R)=true):=by rw[P,←I,Q];first|decide|simp
   have A2:¬(bV R=false∧kM (sp m) R=false):=by rw[P,f];first|decide|simp
   have c8:Hid (B=[]→gZ m R=mv m 14 true):=by
    intro x;unfold gZ;rw[if_neg A1,if_neg A2,if_pos (v.trans x)]
   have c7:Hid (B≠[]→65535<jU B→gZ m R=fail m):=by
    intro C hb;unfold gZ;rw[if_neg A1,if_neg A2,if_neg (fun x=>C (v.symm.trans x)),v,if_pos hb]
   have c5:Hid (B≠[]→¬65535<jU B→gZ m R=mv {m with u:={m.u with port:=if (jU B:Int)=D then -1 else jU B},buf:=[]} 14 true):=by
    intro C hb;unfold gZ;rw[if_neg A1,if_neg A2,if_neg (fun x=>C (v.symm.trans x)),v,if_neg hb,hD]
   clear v I f P J dp Q G hX hS hD hE;clear h O hR hl hj;go_enter func85,ntmps85;go_wp2_with fail
   refine dQ s (eu s HP Z HE) fun w2 HM2=>?_;go_wp2_with fail
   try
    refine(iD.fB (c.toNat:Int) _).mono ?_;rintro e7 w7 ⟨rfl,rfl⟩;rw[HG.out];go_wp2_with fail
   refine dQ HM2 (eu HM2 HP Z HE) fun w3 HM3=>?_;first
   |go_wp2_with fail
    refine dQ HM3 (bM HM3 HP Z HL) fun w4 a=>?_
   |obtain⟨w4,b5⟩:∃w4,w4=w3:=⟨_,rfl⟩
    subst b5;have a:=HM3
   have c3:=a.x3;rw[a9.out,HX.out]at c3;by_cases C:B=[]
   ·have b8:X.toList.isEmpty=true:=by rw[←HX.out,C];exact EG
    go_wp2_with fail
    refine jw (iy a HZ 14 true) fun w5 a3=>?_;go_wp2;first|go_end0|((try simp only[Exit.inBlock,Exit.then]);refine fA rfl rfl ?_)
    exact⟨rfl,by rw[c8.out C];exact a3,trivial⟩
   ·have b8 : X.toList.isEmpty = false := by rw [← HX.out]; exact CU C
    have d0:Hid (65535<jU B→gZ m R=fail m):=c7 C;have a6:Hid (¬65535<jU B→gZ m R=mv {m with u:={m.u with port:=if (jU B:Int)=D then -1 else jU B},buf:=[]} 14 true):=c5 C;clear C;go_wp2;go_loopw [4,5,47] (fun vn _ vk wr=>∃(i n:Nat),i≤X.size∧vk=.int .i64 (i:Int)∧vn=.int .i64 (n:Int)∧n≤65535∧wr=w4∧Hid (n=jU (B.take i))) (fun _ _ vk _=>X.size - (intOf vk).toNat)
    case atStart=>exact⟨0,0,Nat.zero_le _,rfl,rfl,by omega,rfl,rfl⟩
    case round =>
     obtain⟨i,n,hi,rfl,rfl,hn,b3,HN⟩:=hrel;subst b3;have sN:X.size≤900000:=by rw[Y.out];exact a8
     by_cases hlt:i<X.size
     ·obtain⟨d,hd⟩:∃d,X[i]=d:=⟨_,rfl⟩;have F:i<B.length:=by rw[←Y.out];exact hlt
      have H:B[i]=d:=by have:=HX.out;subst this;exact hd
      have V:nZ d=true:=by rw[←H];exact List.all_eq_true.1 d4 _ (List.getElem_mem F)
      obtain⟨v1,v2⟩:=PS d V;have d9:48≤(d.toNat:Int):=by omega
      have d8:(d.toNat:Int)≤57:=by omega
      obtain⟨z,O⟩:∃z,z=n*10+(d.toNat - 48):=⟨_,rfl⟩;have a4:Hid ((n:Int)*10+((d.toNat:Int) - 48)=(z:Int)):=by show _=_;omega
      have a5:Hid (jU (B.take (i+1))=min z 65536):=by show _=_;rw[wV _ _ F,H,←HN.out,O]
      by_cases hbig:65535<z
      ·have c0:65535<(n:Int)*10+((d.toNat:Int) - 48):=by omega
       have y:Hid (gZ m R=fail m):=d0 (SC (i+1) (by rw[a5.out];omega));clear F H V v1 v2 O hbig;have c2:=a.x2;have z2:=a.thaw 2;have a7:=hid (a.st 19);go_wp2;first|go_end0|((try simp only[Exit.inBlock,Exit.then]);refine fA rfl rfl ?_)
       first|exact⟨rfl,by rw[y.out];exact a7,trivial⟩|exact⟨rfl,by rw[y.out];exact a7⟩
      ·have c0:¬65535<(n:Int)*10+((d.toNat:Int) - 48):=by omega
       have b0:z≤65535:=by omega
       have d1:Hid (z=jU (B.take (i+1))):=by show _=_;rw[a5.out];omega
       clear F H V v1 v2 O hbig;go_wp2;go_roundw
       case rel=>exact⟨i+1,z,by omega,by go_num,by first|exact congrArg (Value.int .i64) a4|(simp;have:=a4.out;omega),b0,by first|rfl|trivial,d1⟩
       case measure=>simp[intOf];omega
     ·have b9:i=X.size:=by omega
      subst b9;have A:Hid (n=jU B):=by show _=_;rw[HN.out,Y.out,List.take_length]
      have c4:=a.x4;rw[←c1.out]at c4;go_wp2_with fail
      refine(Df S _).mono ?_;rintro e8 w8 ⟨rfl,rfl⟩;rw[d2.out,d3.out];have c9:=a.x9;have e0:=a.x3;have z9:=a.thaw 9;have z3:=a.thaw 3;by_cases hq:(n:Int)=D
      ·have q3:((n:Int)==D)=true:=by rw[beq_iff_eq];exact hq
       have y:Hid (gZ m R=mv {m with u:={m.u with port:= -1},buf:=[]} 14 true):=by
        show _=_;rw[a6.out (by rw[←A.out];omega),if_pos (by rw[←A.out];exact hq)]
       clear hq;have a2:=hid (a.JR (n:Int));have N:=hid (a2.JR (-1));have a1:=hid (N.buf []);go_wp2_with fail
       refine jw (iy a1 HZ 14 true) fun w9 HM9=>?_;go_wp2;first|go_end0|((try simp only[Exit.inBlock,Exit.then]);refine fA rfl rfl ?_)
       exact⟨rfl,by rw[y.out];exact HM9,trivial⟩
      ·have q3:((n:Int)==D)=false:=by rw[beq_eq_false_iff_ne];exact hq
       have y:Hid (gZ m R=mv {m with u:={m.u with port:=(n:Int)},buf:=[]} 14 true):=by
        show _=_;rw[a6.out (by rw[←A.out];omega),if_neg (by rw[←A.out];exact hq),←A.out]
       clear hq;have a2:=hid (a.JR (n:Int));have a1:=hid (a2.buf []);go_wp2_with fail
       refine jw (iy a1 HZ 14 true) fun w9 HM9=>?_;go_wp2;first|go_end0|((try simp only[Exit.inBlock,Exit.then]);refine fA rfl rfl ?_)
       exact⟨rfl,by rw[y.out];exact HM9,trivial⟩
 have b7:l=false:=by cases l with|false=>rfl|true=>exact absurd (ad3 f) (by rw[←I,Q];decide)
 have y:Hid (gZ m R={m with buf:=B++[c]}):=by
  show _=_;unfold gZ;rw[if_pos ⟨P,by rw[←I];exact Q⟩,v,I]
 clear v I f P J dp Q G hX hS hD hE b7;clear h O hR hl hj;go_enter func85,ntmps85;go_wp2_with fail
 refine dQ s (eu s HP Z HE) fun w2 HM2=>?_;go_wp2_with fail
 refine(iD.fB (c.toNat:Int) _).mono ?_;rintro e7 w7 ⟨rfl,rfl⟩;rw[HG.out];go_wp2_with fail
 refine aW (by kernel_rfl) 11 [pg k.g 0,pg k.g 0,pg k.g 0,pg k.g 3,is (.string (ah B)),is (.int .u8 (c.toNat:Int)),row 1 (aQ [c]),is (.string (ah [c])),is (.string (ah (B++[c]))),pg k.g 0,pg k.g 3] [[],[],[1],[1,2],[1,2,3],[],[5],[5,6],[1,2,3,4,5,6,7],[0],[0,9],[0,1,2,3,4,5,6,7,8,9,10]] (by kernel_rfl) ?_ ?_
 ·refine ⟨?_,?_,?_,?_,?_,?_,?_,?_,?_,?_,?_,trivial⟩;all_goals(intro t wq W hh K r;simp only[iG,oV,Act.put,Nat.reduceAdd,Nat.reduceEqDiff,reduceIte]at hh r⊢)
  iterate 4
   ·try simp only[hh]at r⊢
    clear hh;go_simp;exact r _ _ aV rfl
  ·try simp only[hh]at r⊢
   clear hh;have c3:=(HM2.below W).x3;rw[a9.out]at c3;go_simp;exact r _ _ aV rfl
  ·try simp only[hh]at r⊢
   clear hh;go_simp;exact r _ _ aV rfl
  ·try simp only[hh]at r⊢
   clear hh;go_simp;exact r _ _ ((Below.refl _ _).alloc (Nat.le_refl _) _) ⟨_,_,rfl,Nat.le_refl _,by decide,iR wq [c] 5 (0,0)⟩
  ·have e6:=hh.2.1;clear hh;obtain⟨A6,c6,e6,d7,d6,b6⟩:=e6;simp only[e6]at r⊢;have hs:=aT 45 9 5 underlying45 underlying5 underlying9 _ c6 b6;go_simp;exact r _ _ aV rfl
  ·try simp only[hh]at r⊢
   clear hh;have d5:(Op.stringOp .add (ah B) (ah [c])).run prog wq=.ok (.string (ah (B++[c]))) wq:=bJ _ _ wq (by have:=a8.out;simp;omega);go_simp;exact r _ _ aV rfl
  iterate 2
   ·try simp only[hh]at r⊢
    clear hh;go_simp;exact r _ _ aV rfl
 intro t wq W hh;have f8:=aO hh 8 (by decide);simp only[pick]at f8;replace f8:t 8=(.string (ah (B++[c]))):=f8;have L:=aO hh 10 (by decide);simp only[pick]at L;replace L:t 10=(.pointer (some ⟨k.g,3,none⟩)):=L;clear hh;simp only[iG,oV,Act.put,Nat.reduceAdd,Nat.reduceEqDiff,reduceIte];simp only[f8,L];have a0:=hid (HM2.below W);have N:=hid (a0.buf (B++[c]));have z3:=a0.thaw 3;have c3:=a0.x3;go_wp2;first|go_end0|((try simp only[Exit.inBlock,Exit.then]);refine fA rfl rfl ?_)
 first|exact⟨rfl,by rw[y.out];exact N,trivial⟩|exact⟨rfl,by rw[y.out];exact N⟩
end aan
namespace acG
open Go.RowKit Base bC eU aJ jy jX fJ vW yw yK Ea Dv Xm TU aam aan
variable {k:K} {m:M} {q:Value} {w:World} {j:Nat} {R:List UInt8}
theorem Za (dp:Dp) (h:MX k m q w) (x:m.p=(j:Int)) (B:k.T.drop j=R) (z:k.T.length≤4611686018427387904) (A:j≤k.T.length) (c:m.buf.length≤900000) (l:m.u.txt.length≤100000000) (i:m.st=10→m.buf.all nZ=true) (a:j+1≤4611686018427387904) (f:m.st=1):Calls prog 29 #[.pointer (some ⟨k.g,0,none⟩)] w fun e w'=>e=.returned (.tuple #[])∧MX k (aY k.base m R) q w'∧True:=by
 have d:=hid h;have D:=hid x;have C:=hid B;have s:=hid dp;have n:=hid z;have H:=hid A;have t:=hid c;have r:=hid a;have F:=hid f;obtain⟨v,y⟩:∃v,(cc R).toNat=v:=⟨_,rfl⟩;have HV:=hid y;have G:Hid (aY k.base m R=fD k.base m R):=ms1 f;clear h x B z A dp c l i a f y;go_enter func29,ntmps29;go_wp2_with fail
 refine dQ d (yQ d D C HV) fun w2 HM2=>?_;have E:=HM2.x2;rw[F.out]at E;go_wp2_with fail
 rw[←HV.out];refine jw (Ws s HM2 D C n H r t) fun w3 HM3=>?_;go_wp2
 go_end0
 exact⟨rfl,by rw[G.out];exact HM3,trivial⟩
theorem Zb (dp:Dp) (h:MX k m q w) (r:m.p=(j:Int)) (y:k.T.drop j=R) (t:k.T.length≤4611686018427387904) (x:j≤k.T.length) (l:m.buf.length≤900000) (i:m.u.txt.length≤100000000) (f:m.st=10→m.buf.all nZ=true) (d:j+1≤4611686018427387904) (c:m.st=2):Calls prog 29 #[.pointer (some ⟨k.g,0,none⟩)] w fun e w'=>e=.returned (.tuple #[])∧MX k (aY k.base m R) q w'∧True:=by
 have a:=hid h;have A:=hid r;have z:=hid y;have n:=hid t;have E:=hid x;have C:=hid c;obtain⟨v,s⟩:∃v,(cc R).toNat=v:=⟨_,rfl⟩;have HV:=hid s;have D:Hid (aY k.base m R=wY k.base m R):=ms2 c;clear h r y t x dp l i f d c s;go_enter func29,ntmps29;go_wp2_with fail
 refine dQ a (yQ a A z HV) fun w2 HM2=>?_;have B:=HM2.x2;rw[C.out]at B;go_wp2_with fail
 refine jw (Oz HM2 A z n E) fun w3 HM3=>?_;go_wp2
 go_end0
 exact⟨rfl,by rw[D.out];exact HM3,trivial⟩
theorem Zi (dp:Dp) (h:MX k m q w) (t:m.p=(j:Int)) (A:k.T.drop j=R) (y:k.T.length≤4611686018427387904) (z:j≤k.T.length) (a:m.buf.length≤900000) (l:m.u.txt.length≤100000000) (i:m.st=10→m.buf.all nZ=true) (f:j+1≤4611686018427387904) (d:m.st=9):Calls prog 29 #[.pointer (some ⟨k.g,0,none⟩)] w fun e w'=>e=.returned (.tuple #[])∧MX k (aY k.base m R) q w'∧True:=by
 have c:=hid h;have C:=hid t;have B:=hid A;have r:=hid dp;have n:=hid y;have G:=hid z;have s:=hid a;have E:=hid d;obtain⟨v,x⟩:∃v,(cc R).toNat=v:=⟨_,rfl⟩;have HV:=hid x;have F:Hid (aY k.base m R=kH m R):=ms9 d;clear h t A y z dp a l i f d x;go_enter func29,ntmps29;go_wp2_with fail
 refine dQ c (yQ c C B HV) fun w2 HM2=>?_;have D:=HM2.x2;rw[E.out]at D;go_wp2_with fail
 rw[←HV.out];refine jw (aaW r HM2 C B n G s) fun w3 HM3=>?_;go_wp2
 go_end0
 exact⟨rfl,by rw[F.out];exact HM3,trivial⟩
theorem WC (dp:Dp) (h:MX k m q w) (x:m.p=(j:Int)) (B:k.T.drop j=R) (z:k.T.length≤4611686018427387904) (A:j≤k.T.length) (c:m.buf.length≤900000) (l:m.u.txt.length≤100000000) (a:m.st=10→m.buf.all nZ=true) (i:j+1≤4611686018427387904) (f:m.st=10):Calls prog 29 #[.pointer (some ⟨k.g,0,none⟩)] w fun e w'=>e=.returned (.tuple #[])∧MX k (aY k.base m R) q w'∧True:=by
 have d:=hid h;have E:=hid x;have D:=hid B;have r:=hid dp;have n:=hid z;have H:=hid A;have t:=hid c;have s:=hid a;have C:=hid f;obtain⟨v,y⟩:∃v,(cc R).toNat=v:=⟨_,rfl⟩;have HV:=hid y;have G:Hid (aY k.base m R=gZ m R):=Yn f;clear h x B z A dp c l a i f y;go_enter func29,ntmps29;go_wp2_with fail
 refine dQ d (yQ d E D HV) fun w2 HM2=>?_;have F:=HM2.x2;rw[C.out]at F;go_wp2_with fail
 rw[←HV.out];refine jw (abg r HM2 E D n H t (s C)) fun w3 HM3=>?_;go_wp2
 go_end0
 exact⟨rfl,by rw[G.out];exact HM3,trivial⟩
theorem WH (dp:Dp) (h:MX k m q w) (t:m.p=(j:Int)) (A:k.T.drop j=R) (y:k.T.length≤4611686018427387904) (z:j≤k.T.length) (a:m.buf.length≤900000) (l:m.u.txt.length≤100000000) (i:m.st=10→m.buf.all nZ=true) (f:j+1≤4611686018427387904) (d:m.st=13):Calls prog 29 #[.pointer (some ⟨k.g,0,none⟩)] w fun e w'=>e=.returned (.tuple #[])∧MX k (aY k.base m R) q w'∧True:=by
 have c:=hid h;have C:=hid t;have B:=hid A;have r:=hid dp;have n:=hid y;have G:=hid z;have s:=hid a;have E:=hid d;obtain⟨v,x⟩:∃v,(cc R).toNat=v:=⟨_,rfl⟩;have HV:=hid x;have F:Hid (aY k.base m R=dA m R):=aa2 d;clear h t A y z dp a l i f d x;go_enter func29,ntmps29;go_wp2_with fail
 refine dQ c (yQ c C B HV) fun w2 HM2=>?_;have D:=HM2.x2;rw[E.out]at D;go_wp2_with fail
 rw[←HV.out];refine jw (NZ r HM2 C B n G s) fun w3 HM3=>?_;go_wp2
 go_end0
 exact⟨rfl,by rw[F.out];exact HM3,trivial⟩
theorem WI (dp:Dp) (h:MX k m q w) (r:m.p=(j:Int)) (y:k.T.drop j=R) (t:k.T.length≤4611686018427387904) (x:j≤k.T.length) (l:m.buf.length≤900000) (i:m.u.txt.length≤100000000) (f:m.st=10→m.buf.all nZ=true) (d:j+1≤4611686018427387904) (c:m.st=14):Calls prog 29 #[.pointer (some ⟨k.g,0,none⟩)] w fun e w'=>e=.returned (.tuple #[])∧MX k (aY k.base m R) q w'∧True:=by
 have a:=hid h;have A:=hid r;have z:=hid y;have n:=hid t;have E:=hid x;have C:=hid c;obtain⟨v,s⟩:∃v,(cc R).toNat=v:=⟨_,rfl⟩;have HV:=hid s;have D:Hid (aY k.base m R=eH m R):=adG c;clear h r y t x dp l i f d c s;go_enter func29,ntmps29;go_wp2_with fail
 refine dQ a (yQ a A z HV) fun w2 HM2=>?_;have B:=HM2.x2;rw[C.out]at B;go_wp2_with fail
 refine jw (LP HM2 A z n E) fun w3 HM3=>?_;go_wp2
 go_end0
 exact⟨rfl,by rw[D.out];exact HM3,trivial⟩
theorem WL (dp:Dp) (h:MX k m q w) (t:m.p=(j:Int)) (A:k.T.drop j=R) (y:k.T.length≤4611686018427387904) (z:j≤k.T.length) (l:m.buf.length≤900000) (a:m.u.txt.length≤100000000) (i:m.st=10→m.buf.all nZ=true) (f:j+1≤4611686018427387904) (d:m.st=16):Calls prog 29 #[.pointer (some ⟨k.g,0,none⟩)] w fun e w'=>e=.returned (.tuple #[])∧MX k (aY k.base m R) q w'∧True:=by
 have c:=hid h;have C:=hid t;have B:=hid A;have s:=hid dp;have r:=hid y;have G:=hid z;have n:=hid a;have E:=hid d;obtain⟨v,x⟩:∃v,(cc R).toNat=v:=⟨_,rfl⟩;have HV:=hid x;have F:Hid (aY k.base m R=qH m R):=aa3 d;clear h t A y z dp l a i f d x;go_enter func29,ntmps29;go_wp2_with fail
 refine dQ c (yQ c C B HV) fun w2 HM2=>?_;have D:=HM2.x2;rw[E.out]at D;go_wp2_with fail
 rw[←HV.out];refine jw (VA s HM2 C B r G n) fun w3 HM3=>?_;go_wp2
 go_end0
 exact⟨rfl,by rw[F.out];exact HM3,trivial⟩
theorem WM (dp:Dp) (h:MX k m q w) (t:m.p=(j:Int)) (A:k.T.drop j=R) (y:k.T.length≤4611686018427387904) (z:j≤k.T.length) (a:m.buf.length≤900000) (l:m.u.txt.length≤100000000) (i:m.st=10→m.buf.all nZ=true) (f:j+1≤4611686018427387904) (d:m.st=17):Calls prog 29 #[.pointer (some ⟨k.g,0,none⟩)] w fun e w'=>e=.returned (.tuple #[])∧MX k (aY k.base m R) q w'∧True:=by
 have c:=hid h;have C:=hid t;have B:=hid A;have r:=hid dp;have n:=hid y;have G:=hid z;have s:=hid a;have E:=hid d;obtain⟨v,x⟩:∃v,(cc R).toNat=v:=⟨_,rfl⟩;have HV:=hid x;have F:Hid (aY k.base m R=pG m R):=Yq d;clear h t A y z dp a l i f d x;go_enter func29,ntmps29;go_wp2_with fail
 refine dQ c (yQ c C B HV) fun w2 HM2=>?_;have D:=HM2.x2;rw[E.out]at D;go_wp2_with fail
 rw[←HV.out];refine jw (YN r HM2 C B n G s) fun w3 HM3=>?_;go_wp2
 go_end0
 exact⟨rfl,by rw[F.out];exact HM3,trivial⟩
theorem Zg (dp:Dp) (h:MX k m q w) (H:m.p=(j:Int)) (J:k.T.drop j=R) (L:k.T.length≤4611686018427387904) (N:j≤k.T.length) (B:m.buf.length≤900000) (A:m.u.txt.length≤100000000) (z:m.st=10→m.buf.all nZ=true) (y:j+1≤4611686018427387904) (t:m.st=7):Calls prog 29 #[.pointer (some ⟨k.g,0,none⟩)] w fun e w'=>e=.returned (.tuple #[])∧MX k (aY k.base m R) q w'∧True:=by
 have d:=hid h;have f:=hid H;have F:=hid J;have E:Hid (-4611686018427387904≤m.p∧m.p≤4611686018427387904):=⟨by omega,by omega⟩;have P:=hid t;obtain⟨v,I⟩:∃v,(cc R).toNat=v:=⟨_,rfl⟩;have HV:=hid I;obtain⟨s,a⟩:∃s,sp m=s:=⟨_,rfl⟩;have G:=hid a;obtain⟨l,c⟩:∃l,kM (sp m) R=l:=⟨_,rfl⟩;have V:=hid c;rcases l with _|_
 ·skip
  have D:Hid (aY k.base m R={begin' m with p:=m.p - 1}):=by
   show _=_;rw[ms7 t];unfold DI;rw[if_pos (.inl c)]
  clear h H J L N dp B A z y t I a c;go_enter func29,ntmps29;go_wp2_with fail
  refine dQ d (yQ d f F HV) fun w2 HM2=>?_;have C:=HM2.x2;rw[P.out]at C;go_wp2_with fail
  refine dQ HM2 (bM HM2 f F V) fun w3 HM3=>?_;go_wp2_with fail
  refine jw (DK HM3 E) fun w4 HM4=>?_;clear C;have O:=HM4.x1;rw[show(begin' m).p=(j:Int)from f.out]at O;have r:=E.1;have n:=E.2;rw[f.out]at r n;have W:=HM4.thaw 1;have i:=hid (HM4.p ((j:Int) - 1));rw[show m.p=(j:Int)from f.out]at D;go_wp2
  go_end0
  exact⟨rfl,by rw[D.out];exact i,trivial⟩
 rcases s with _|_
 ·skip
  have D:Hid (aY k.base m R={begin' m with p:=m.p - 1}):=by
   show _=_;rw[ms7 t];unfold DI;rw[if_pos (.inr a)]
  clear h H J L N dp B A z y t I a c;go_enter func29,ntmps29;go_wp2_with fail
  refine dQ d (yQ d f F HV) fun w2 HM2=>?_;have C:=HM2.x2;rw[P.out]at C;go_wp2_with fail
  refine dQ HM2 (bM HM2 f F V) fun w3 HM3=>?_;go_wp2_with fail
  refine dQ HM3 (dX HM3 G) fun w4 HM4=>?_;go_wp2_with fail
  refine jw (DK HM4 E) fun w5 i=>?_;clear C;have O:=i.x1;rw[show(begin' m).p=(j:Int)from f.out]at O;have r:=E.1;have n:=E.2;rw[f.out]at r n;have W:=i.thaw 1;have Q:=hid (i.p ((j:Int) - 1));rw[show m.p=(j:Int)from f.out]at D;go_wp2
  go_end0
  exact⟨rfl,by rw[D.out];exact Q,trivial⟩
 skip
 have D:Hid (aY k.base m R=m):=by
  show _=_;rw[ms7 t];unfold DI;rw[if_neg (fun x=>by rcases x with x|x;(rw[c]at x;cases x);(rw[a]at x;cases x))]
 clear h H J L N dp B A z y t I a c;go_enter func29,ntmps29;go_wp2_with fail
 refine dQ d (yQ d f F HV) fun w2 HM2=>?_;have C:=HM2.x2;rw[P.out]at C;go_wp2_with fail
 refine dQ HM2 (bM HM2 f F V) fun w3 HM3=>?_;go_wp2_with fail
 refine dQ HM3 (dX HM3 G) fun w4 HM4=>?_;go_wp2
 go_end0
 exact⟨rfl,by rw[D.out];exact HM4,trivial⟩
theorem Zd (dp:Dp) (h:MX k m q w) (s:m.p=(j:Int)) (t:k.T.drop j=R) (C:k.T.length≤4611686018427387904) (D:j≤k.T.length) (r:m.buf.length≤900000) (n:m.u.txt.length≤100000000) (l:m.st=10→m.buf.all nZ=true) (i:j+1≤4611686018427387904) (f:m.st=4):Calls prog 29 #[.pointer (some ⟨k.g,0,none⟩)] w fun e w'=>e=.returned (.tuple #[])∧MX k (aY k.base m R) q w'∧True:=by
 have a:=hid h;have A:=hid s;have z:=hid t;have E:Hid (-4611686018427387904≤m.p∧m.p≤4611686018427387904):=⟨by omega,by omega⟩;have F:=hid f;obtain⟨v,d⟩:∃v,(cc R).toNat=v:=⟨_,rfl⟩;have HV:=hid d;by_cases h47:v=47
 ·subst h47;have c:R≠[]:=by rintro rfl;cases d
  have H:Hid (decide (R=[])=false):=decide_eq_false c;have B:Hid (aY k.base m R=begin' m):=by
   show _=_;rw[ms4 f];unfold kR;rw[if_pos ⟨UInt8.toNat_inj.1 d,c⟩]
  clear h s t C D dp r n l i f d c;go_enter func29,ntmps29;go_wp2_with fail
  refine dQ a (yQ a A z HV) fun w2 HM2=>?_;have y:=HM2.x2;rw[F.out]at y;go_wp2_with fail
  refine dQ HM2 (lC HM2 A z H) fun w3 HM3=>?_;go_wp2_with fail
  refine jw (DK HM3 E) fun w4 HM4=>?_;go_wp2
  go_end0
  exact⟨rfl,by rw[B.out];exact HM4,trivial⟩
 have G:¬(v:Int)=47:=by omega
 have B:Hid (aY k.base m R=mv m 15 true):=by
  show _=_;rw[ms4 f];unfold kR;rw[if_neg (fun x=>h47 (by rw[←d,x.1];rfl))]
 clear h s t C D dp r n l i f d h47;go_enter func29,ntmps29;go_wp2_with fail
 refine dQ a (yQ a A z HV) fun w2 HM2=>?_;have y:=HM2.x2;rw[F.out]at y;go_wp2_with fail
 refine jw (iy HM2 E 15 true) fun w3 HM3=>?_;go_wp2
 go_end0
 exact⟨rfl,by rw[B.out];exact HM3,trivial⟩
theorem WO (dp:Dp) (h:MX k m q w) (Z:m.p=(j:Int)) (hR:k.T.drop j=R) (hl:k.T.length≤4611686018427387904) (hj:j≤k.T.length) (f:m.buf.length≤900000) (F:m.u.txt.length≤100000000) (E:m.st=10→m.buf.all nZ=true) (D:j+1≤4611686018427387904) (y:m.st=18):Calls prog 29 #[.pointer (some ⟨k.g,0,none⟩)] w fun e w'=>e=.returned (.tuple #[])∧MX k (aY k.base m R) q w'∧True:=by
 have l:=hid h;have X:=hid Z;have W:=hid hR;have a1:=hid dp;have s:=hid f;have HS:=hid y;obtain⟨v,hv⟩:∃v,(cc R).toNat=v:=⟨_,rfl⟩;obtain⟨B,z⟩:∃B,m.buf=B:=⟨_,rfl⟩;have P:=hid z;have s:Hid (B.length≤900000):=by show _≤_;rw[←z];exact f
 obtain⟨c,Q⟩:∃c,cc R=c:=⟨_,rfl⟩;have O:=hid Q;obtain⟨b,H⟩:∃b,decide (R=[])=b:=⟨_,rfl⟩;have HB:=hid H;rcases b with _|_
 ·have Y:Hid (aY k.base m R={m with buf:=B++[c]}):=by
   show _=_;rw[Yr y];unfold wW;rw[if_pos (of_decide_eq_false H),z,Q]
  clear h Z hR hl hj dp f F E D y hv z Q H;go_enter func29,ntmps29;go_wp2_with fail
  refine dQ l (ZG l X W) fun w2 HM2=>?_;rw[O.out];have I:=HM2.x2;rw[HS.out]at I;go_wp2_with fail
  refine dQ HM2 (lC HM2 X W HB) fun w3 HM3=>?_;go_wp2_with fail
  clear I;refine aW (by kernel_rfl) 11 [pg k.g 0,pg k.g 0,pg k.g 0,pg k.g 3,is (.string (ah B)),is (.int .u8 (c.toNat:Int)),row 1 (aQ [c]),is (.string (ah [c])),is (.string (ah (B++[c]))),pg k.g 0,pg k.g 3] [[],[],[1],[1,2],[1,2,3],[],[5],[5,6],[1,2,3,4,5,6,7],[0],[0,9],[0,1,2,3,4,5,6,7,8,9,10]] (by kernel_rfl) ?_ ?_
  ·refine ⟨?_,?_,?_,?_,?_,?_,?_,?_,?_,?_,?_,trivial⟩;all_goals(intro t C n hh K a;simp only[iG,oV,Act.put,Nat.reduceAdd,Nat.reduceEqDiff,reduceIte]at hh a⊢)
   iterate 4
    ·try simp only[hh]at a⊢
     clear hh;go_simp;exact a _ _ aV rfl
   ·try simp only[hh]at a⊢
    clear hh;have A:=(HM3.below n).x3;rw[P.out]at A;go_simp;exact a _ _ aV rfl
   ·try simp only[hh]at a⊢
    clear hh;go_simp;exact a _ _ aV rfl
   ·try simp only[hh]at a⊢
    clear hh;go_simp;exact a _ _ ((Below.refl _ _).alloc (Nat.le_refl _) _) ⟨_,_,rfl,Nat.le_refl _,by decide,iR C [c] 5 (0,0)⟩
   ·have e6:=hh.2.1;clear hh;obtain⟨A6,c6,e6,a5,a4,a0⟩:=e6;simp only[e6]at a⊢;have y:=aT 45 9 5 underlying45 underlying5 underlying9 _ c6 a0;go_simp;exact a _ _ aV rfl
   ·try simp only[hh]at a⊢
    clear hh;have a2:(Op.stringOp .add (ah B) (ah [c])).run prog C=.ok (.string (ah (B++[c]))) C:=bJ _ _ C (by have:=s.out;simp;omega);go_simp;exact a _ _ aV rfl
   iterate 2
    ·try simp only[hh]at a⊢
     clear hh;go_simp;exact a _ _ aV rfl
  intro t C n hh;have V:=aO hh 8 (by decide);simp only[pick]at V;replace V:t 8=(.string (ah (B++[c]))):=V;have i:=aO hh 10 (by decide);simp only[pick]at i;replace i:t 10=(.pointer (some ⟨k.g,3,none⟩)):=i;clear hh;simp only[iG,oV,Act.put,Nat.reduceAdd,Nat.reduceEqDiff,reduceIte];simp only[V,i];have r:=hid (HM3.below n);have J:=hid (r.buf (B++[c]));have z3:=r.thaw 3;have A:=r.x3;go_wp2
  go_end0
  first|exact⟨rfl,by rw[Y.out];exact J,trivial⟩|exact⟨rfl,by rw[Y.out];exact J⟩
 have Y:Hid (aY k.base m R={m with u:={m.u with eX:=aG.enc 1 B},buf:=[]}):=by
  show _=_;rw[Yr y];unfold wW;rw[if_neg (fun x=>x (of_decide_eq_true H)),z]
 clear h Z hR hl hj dp f F E D y hv z Q H;go_enter func29,ntmps29;go_wp2_with fail
 refine dQ l (ZG l X W) fun w2 HM2=>?_;rw[O.out];have I:=HM2.x2;rw[HS.out]at I;go_wp2_with fail
 refine dQ HM2 (lC HM2 X W HB) fun w3 HM3=>?_;have A:=HM3.x3;rw[P.out]at A;go_wp2_with fail
 refine(Bl.gI 1 (ah B) _ (by have:=s.out;rw[ak];omega) (fun c w=>a1.inn _ c w)).mono ?_;rintro e9 w9 ⟨rfl,G⟩;have d:=hid (HM3.below G);clear G I A;have A:=d.x3;have a6:=d.x16;have z3:=d.thaw 3;have a3:=d.thaw 16;have N:=hid (d.aag (aG.enc 1 B));have L:=hid (N.buf []);go_wp2
 go_end0
 exact⟨rfl,by rw[Y.out];exact L,trivial⟩
end acG
