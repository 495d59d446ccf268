/- Lemmas. -/
import Derived.Test.YtgockiomacchoaaGreatDoorPRBAT
set_option linter.unusedSimpArgs false
set_option linter.unusedVariables false
set_option maxRecDepth 100000
set_option maxHeartbeats 64000000
namespace Go.Proofs.YtgockiomacchoaaGreatDoor
open Tryz
namespace Xc
open Go.RowKit aJ jW Xa
inductive F5 (S:List UInt8) (base:Option U):Nat→M→Option U→Prop
 |stop {m:M} {o:Option U} (h:Hr S base m=.stop o):F5 S base 0 m o
 |go {i:Nat} {m n:M} {o:Option U} (h:Hr S base m=.go n) (r:F5 S base i n o):F5 S base (i+1) m o
variable {S:List UInt8} {base:Option U} {m n:M} {o:Option U} {R:List UInt8}
theorem Ia (h:Run S base m o):∃i,F5 S base i m o:=by
 induction h with
 |stop h=>exact⟨0,.stop h⟩
 |go h r ih=>obtain⟨i,hi⟩:=ih;exact⟨i+1,.go h hi⟩
theorem VY {i:Nat} (h:F5 S base i m o) (e:Hr S base m=.go n):∃j,j<i∧F5 S base j n o:=by
 cases h with
 |stop h=>rw[h]at e;cases e
 |go h r=>rw[h]at e;cases e;exact⟨_,Nat.lt_succ_self _,r⟩
theorem run_end {i:Nat} {x:Option U} (h:F5 S base i m o) (e:Hr S base m=.stop x):x=o:=by
 cases h with
 |stop h=>rw[h]at e;cases e;rfl
 |go h r=>rw[h]at e;cases e
theorem xw (m:M) (R:List UInt8):(tail m R).p=m.p:=by
 unfold tail;split
 ·rfl
 split
 ·rfl
 split<;>rfl
theorem vO (m:M) (s:Nat) (b:Bool):(mv m s b).p≤m.p:=by
 unfold mv;cases b
 ·exact Int.le_refl _
 show m.p - 1≤m.p;omega
theorem O6 (L:List UInt8) (m:M):(gY L m).p=m.p:=(nC L m).1
theorem DT (h:two R=true):2≤R.length:=by
 unfold two Lib.hasPrefix at h
 match R,h with
 |[],h=>exact absurd h (by decide)
 |[c],h=>simp at h
 |_::_::_,_=>exact Nat.le_add_left 2 _
theorem Us (h:(R.drop 1).head?=some 47):2≤R.length:=by
 match R,h with
 |[],h=>cases h
 |[c],h=>cases h
 |_::_::_,_=>exact Nat.le_add_left 2 _
theorem Ot (a:0≤m.p):(fB base m R).p≤m.p∨(2≤R.length∧(fB base m R).p=m.p+1):=by
 unfold fB;split
 ·exact .inl (Int.le_refl _)
 split
 ·exact .inl (by show(-1:Int)≤m.p;omega)
 dsimp only;split
 ·exact .inl (Int.le_refl _)
 split
 ·exact .inl (Int.le_refl _)
 split
 ·exact .inl (Int.le_refl _)
 split
 ·rename_i h;exact .inr ⟨Us h,rfl⟩
 exact .inl (Int.le_refl _)
theorem WC (a:0≤m.p):(aX base m R).p≤m.p∨(2≤R.length∧(aX base m R).p=m.p+1):=by
 unfold aX;split
 ·unfold kR;split<;>exact .inl (vO _ _ _)
 ·exact Ot a
 ·refine .inl ?_;unfold wR;split
  ·exact Int.le_refl _
  split
  ·exact Int.le_refl _
  split
  ·rw[xw];exact Int.le_refl _
  split<;>exact vO _ _ _
 ·unfold jo;split
  ·rename_i h;exact .inr ⟨DT h,rfl⟩
  exact .inl (vO _ _ _)
 ·refine .inl ?_;unfold kQ;split
  ·exact vO m 8 false
  exact vO _ _ _
 ·refine .inl ?_;unfold lG;dsimp only;split
  ·exact vO _ _ _
  split
  ·rw[xw];exact Int.le_refl _
  exact vO _ _ _
 ·refine .inl ?_;unfold iV;split
  ·exact vO _ _ _
  split
  ·exact vO m 8 false
  exact vO _ _ _
 ·refine .inl ?_;unfold Dn;split
  ·show m.p - 1≤m.p;omega
  exact Int.le_refl _
 ·refine .inl ?_;unfold kF;split
  ·show(gY _ _).p≤_;rw[O6];exact Int.le_refl _
  split
  ·split
   ·exact Int.le_refl _
   show m.p - (m.buf.length:Int) - 1≤m.p;omega
  exact Int.le_refl _
 ·refine .inl ?_;unfold kG
  repeat' split
  all_goals first|exact Int.le_refl _|exact vO (meet m) _ _
 ·refine .inl ?_;unfold gW
  repeat' split
  all_goals first|exact Int.le_refl _|exact vO m _ _|exact vO {m with u:={m.u with port:=_},buf:=[]} _ _
 ·refine .inl ?_;unfold jc;dsimp only
  repeat' split
  all_goals first|(rw[xw];exact Int.le_refl _)|exact vO _ _ _
 ·refine .inl ?_;unfold dR
  repeat' split
  all_goals exact vO _ _ _
 ·refine .inl ?_;unfold dA
  repeat' split
  all_goals first|exact Int.le_refl _|exact vO m _ _|exact vO {meet m with u:=_} _ _
 ·refine .inl ?_;unfold eF
  repeat' split
  all_goals first|(rw[xw];exact Int.le_refl _)|exact vO _ _ _
 ·refine .inl ?_;unfold iy;split
  ·exact Int.le_refl _
  rw[xw];exact Int.le_refl _
 ·refine .inl ?_;unfold qE
  repeat' split
  all_goals first|(rw[xw];exact Int.le_refl _)|exact Int.le_refl _
 ·refine .inl ?_;unfold oW;split
  ·exact Int.le_refl _
  rw[xw];exact Int.le_refl _
 ·refine .inl ?_;unfold wQ;split<;>exact Int.le_refl _
 exact .inl (Int.le_refl _)
theorem Qv (h:m.st≤19):(tail m R).st≤19:=by
 unfold tail;split
 ·exact h
 split
 ·exact(by decide:(17:Nat)≤19)
 split
 ·exact(by decide:(18:Nat)≤19)
 exact h
theorem zu (L:List UInt8) (m:M):(gY L m).st=m.st:=(nC L m).2.1
theorem Y9 (h:m.st≤19):(aX base m R).st≤19:=by
 unfold aX;split
 all_goals(first|unfold kR|unfold fB|unfold wR|unfold jo|unfold kQ|unfold lG|unfold iV|unfold Dn|unfold kF|unfold kG|unfold gW|unfold jc|unfold dR|unfold dA|unfold eF|unfold iy|unfold qE|unfold oW|unfold wQ|skip)
 all_goals(try dsimp only)
 all_goals repeat' split
 all_goals first|exact h|exact Qv h|(refine Qv ?_;exact h)|(show(_:Nat)≤19;simp[mv,fail,begin',meet,zu];done)|(simp[mv,fail,begin',meet,zu];omega)
theorem Qu (h:m.st≠10):(tail m R).st≠10:=by
 unfold tail;split
 ·exact h
 split
 ·exact(by decide:(17:Nat)≠10)
 split
 ·exact(by decide:(18:Nat)≠10)
 exact h
theorem Y8 (a:m.st≠9) (h:m.st≠10):(aX base m R).st≠10:=by
 unfold aX;split
 all_goals(try(rename_i e;first|exact absurd e a|exact absurd e h))
 all_goals(first|unfold kR|unfold fB|unfold wR|unfold jo|unfold kQ|unfold lG|unfold iV|unfold Dn|unfold kF|unfold jc|unfold dR|unfold dA|unfold eF|unfold iy|unfold qE|unfold oW|unfold wQ|skip)
 all_goals(try dsimp only)
 all_goals repeat' split
 all_goals first|exact h|exact Qu h|(refine Qu ?_;exact h)|(simp[mv,fail,begin',meet,zu];done)|(simp[mv,fail,begin',meet,zu];omega)
theorem abk (h:m.st=10→m.buf.all nU=true) (e:(aX base m R).st=10):(aX base m R).buf.all nU=true:=by
 by_cases h9:m.st=9
 ·rw [ms9 h9] at e ⊢;unfold kG at e⊢;split
  ·rename_i a;rw[if_pos a]at e;split
   ·rename_i b;rw[if_pos b]at e;cases e
   rename_i b;rw[if_neg b]at e;split
   ·rename_i c;rw[if_pos c]at e;cases e
   rfl
  rename_i a;rw[if_neg a]at e;split
  ·rename_i b;rw[if_pos b]at e;split
   ·rename_i c;rw[if_pos c]at e;cases e
   rename_i c;rw[if_neg c]at e;split
   ·rename_i d;rw[if_pos d]at e;cases e
   rename_i d;rw[if_neg d]at e;cases e
  rename_i b;rw[if_neg b]at e;have e:m.st=10:=e;omega
 by_cases h10:m.st=10
 ·have f:=h h10;rw[Yc h10]at e⊢;unfold gW at e⊢;split
  ·rename_i a;show(m.buf++[cc R]).all nU=true;rw[List.all_append,f];simp[a.2]
  rename_i a;rw[if_neg a]at e;split
  ·exact f
  rename_i b;rw[if_neg b]at e;split
  ·exact f
  rename_i c;rw[if_neg c]at e;split
  ·exact f
  rfl
 exact absurd e (Y8 h9 h10)
def Inv (s:Bs) (S:List UInt8) (m:M):Prop:=m.st≤19∧(m.st=19∨(-1≤m.p∧m.p≤S.length∧Bq s m (m.p+1)∧(m.st=10→m.buf.all nU=true)))
theorem UR {s:Bs} (v:∀b,base=some b→Qz s b) (h:Inv s S m) (e:Hr S base m=.go n):Inv s S n:=by
 unfold Hr at e;split at e
 ·cases e
 rename_i h19;obtain⟨q,l⟩:=h;rcases l with l|⟨a,b,c,d⟩
 ·exact absurd l h19
 split at e
 ·rename_i hp;cases e;have i:=c.more (y:=m.p+1+1) (by omega);exact⟨q,.inr ⟨by show -1≤m.p+1;omega,by show m.p+1≤_;omega,⟨i.p0,i.buf,i.cr,i.tx,i.pt,i.lo,i.lp⟩,d⟩⟩
 rename_i hp;obtain⟨R,t⟩:∃R,S.drop m.p.toNat=R:=⟨_,rfl⟩;rw[t]at e;obtain⟨g,k⟩:∃g,aX base m R=g:=⟨_,rfl⟩;have f:=abl (R:=R) base v (show Bd s S.length m from⟨c,b⟩) (by omega) q;have j:=WC (m:=m) (base:=base) (R:=R) (by omega);have q3:=Y9 (base:=base) (R:=R) q;have r:=abk (base:=base) (R:=R) d;rw[k]at e f j q3 r;have A:R.length=S.length - m.p.toNat:=by rw[←t,List.length_drop]
 unfold out at e;split at e
 ·cases e
 rename_i hn;cases e;refine⟨q3,?_⟩;rcases f with f|⟨f,q5⟩|f
 ·exact .inl f
 ·have:R.length=0:=by rw[f];rfl
  exact absurd ⟨decide_eq_true (by omega),by omega⟩ hn
 have z:=f.p0;have w:g.p+1+1=g.p+2:=by omega
 refine .inr ⟨by show -1≤g.p+1;omega,?_,?_,r⟩
 ·show g.p+1≤_;by_cases hlen:(S.length:Int)≤m.p
  ·have:¬(S.length:Int)≤g.p:=fun x=>hn ⟨decide_eq_true hlen,x⟩;omega
  rcases j with j|⟨j,q6⟩<;>omega
 show Bq s _ (g.p+1+1);rw[w];exact⟨f.p0,f.buf,f.cr,f.tx,f.pt,f.lo,f.lp⟩
theorem exists_least {P:Nat→Prop} (h:∃i,P i):∃i,P i∧∀j,P j→i≤j:=by
 obtain⟨i,hi⟩:=h;induction i using Nat.strongRecOn with
 |ind i ih=>
  by_cases hx:∃j,j<i∧P j
  ·obtain⟨j,a,c⟩:=hx;exact ih j a c
  exact⟨i,hi,fun j a=>Nat.le_of_not_lt fun hlt=>hx ⟨j,hlt,a⟩⟩
open Classical in
noncomputable def least (P:Nat→Prop):Nat:=if h:∃i,P i then Classical.choose (exists_least h)else 0
theorem U3 {P:Nat→Prop} (h:∃i,P i):P (least P):=by
 unfold least;rw[dif_pos h];exact(Classical.choose_spec (exists_least h)).1
theorem least_le {P:Nat→Prop} {i:Nat} (h:P i):least P≤i:=by
 unfold least;rw[dif_pos ⟨i,h⟩];exact(Classical.choose_spec (exists_least ⟨i,h⟩)).2 i h
end Xc
namespace acr
open Go.RowKit Base aJ jW fG vT yc yF Xc
variable {k:K} {m:M} {q:Value} {w:World} {j:Nat} {R:List UInt8}
theorem abw (a b:UInt8) (L:List UInt8):two (a::b::L)=decide ([a,b]=[47,47]):=by
 unfold two Lib.hasPrefix;rw[Bool.eq_iff_iff];simp[List.isPrefixOf];constructor<;>(rintro⟨rfl,rfl⟩;exact⟨rfl,rfl⟩)
theorem J5 (h:MX k m q w) (s:m.p=(j:Int)) (y:k.T.drop j=R):Calls prog 46 #[.pointer (some ⟨k.g,0,none⟩),.string (ah [47,47])] w fun e w'=>e=.returned (.bool (two R))∧Below w.heap.size w w':=by
 have d:=hid h;have E:=hid s;obtain⟨X,r⟩:∃X,X=ah R:=⟨_,rfl⟩;have D:Hid (ah (k.T.drop j)=X):=by show _=_;rw[r,y]
 have sH:X.size=R.length:=by rw[r];exact ak _
 obtain⟨Z,l⟩:∃Z,Z=ah [47,47]:=⟨_,rfl⟩;have H:Z.size=2:=by rw[l];rfl
 have A:Hid (Z.toList=[47,47]):=by show _=_;rw[l,mg.tl];rfl
 rw[←l];by_cases hl:R.length<2
 ·have B:Hid (two R=false):=by
   show _=_;cases h2:two R with
   |false=>rfl
   |true=>exact absurd (DT h2) (by omega)
  have G:¬(2:Int)≤(X.size:Int):=by omega
  clear h s y r sH l hl;go_enter func46,ntmps46;have z:=d.x1;rw[E.out]at z;go_wp2_with fail
  refine(qG d j).mono ?_;rintro J F ⟨rfl,c⟩;rw[D.out];have i:=hid c;clear c;go_wp2;go_ret;exact⟨by rw[B.out];rfl,i⟩
 obtain⟨a,b,L,f⟩:∃a b L,R=a::b::L:=by
  match R,hl with
  |[],hl=>exact absurd (by decide) hl
  |[a],hl=>exact absurd (by decide:(1:Nat)<2) hl
  |a::b::L,_=>exact⟨a,b,L,rfl⟩
 have G:(2:Int)≤(X.size:Int):=by omega
 have N:2≤X.size:=by omega
 obtain⟨Y,x⟩:∃Y,Y=X.extract 0 2:=⟨_,rfl⟩;have n:Y.toList=[a,b]:=by rw[x,r,f,mg.tl];simp[ah,Array.toList_extract,List.extract_eq_take_drop]
 obtain⟨v,t⟩:∃v,v=decide ([a,b]=[47,47]):=⟨_,rfl⟩;have B:Hid (two R=v):=by show _=_;rw[f,abw,t]
 have C:Hid ((Y.toList==Z.toList)=v):=by show _=_;rw[n,A.out,t,Bool.eq_iff_iff];simp
 have I:X.extract 0 2=Y:=x.symm;clear h s y r sH l hl x n t f;go_enter func46,ntmps46;have z:=d.x1;rw[E.out]at z;go_wp2_with fail
 refine(qG d j).mono ?_;rintro J F ⟨rfl,c⟩;rw[D.out];have i:=hid c;clear c;have O:=C.out;go_wp2;go_ret;exact⟨by rw[B.out];rfl,i⟩
theorem Y0 (dp:Dp) (h:MX k m q w) (z:m.p=(j:Int)) (B:k.T.drop j=R) (E:k.T.length≤4611686018427387904) (F:j≤k.T.length) (r:m.buf.length≤900000) (n:m.u.txt.length≤100000000) (l:m.st=10→m.buf.all nU=true) (i:j+1≤4611686018427387904) (f:m.st=3):Calls prog 16 #[.pointer (some ⟨k.g,0,none⟩)] w fun e w'=>e=.returned (.tuple #[])∧MX k (aX k.base m R) q w'∧True:=by
 have a:=hid h;have d:=hid z;have x:=hid B;have L:Hid (-4611686018427387904≤m.p∧m.p≤4611686018427387904):=⟨by omega,by omega⟩;have G:=hid f;obtain⟨v,A⟩:∃v,(cc R).toNat=v:=⟨_,rfl⟩;have HV:=hid A;obtain⟨b,s⟩:∃b,two R=b:=⟨_,rfl⟩;have H:=hid s;have C:Hid (-4611686018427387904≤(j:Int)+1∧(j:Int)+1≤4611686018427387904):=⟨by omega,by omega⟩;have D:Hid ((j:Int)≤4611686018427387904):=by show _≤_;omega
 rcases b with _|_
 ·have y:Hid (aX k.base m R=mv m 5 true):=by
   show _=_;rw[ms3 f];unfold jo;rw[if_neg (by rw[s];decide)]
  clear h z B E F dp r n l i f A s;go_enter func16,ntmps16;go_wp2_with fail
  refine dO a (yL a d x HV) fun w2 HM2=>?_;have t:=HM2.x2;rw[G.out]at t;go_wp2_with fail
  refine dO HM2 (J5 HM2 d x) fun w3 HM3=>?_;rw[H.out];clear t;go_wp2_with fail
  refine jv (iq HM3 L 5 true) fun w4 c=>?_;go_wp2
  go_end0
  exact⟨rfl,by rw[y.out];exact c,trivial⟩
 have y:Hid (aX k.base m R=mv {m with p:=m.p+1} 7 false):=by
  show _=_;rw[ms3 f];unfold jo;rw[if_pos s]
 clear h z B E F dp r n l i f A s;go_enter func16,ntmps16;go_wp2_with fail
 refine dO a (yL a d x HV) fun w2 HM2=>?_;have t:=HM2.x2;rw[G.out]at t;go_wp2_with fail
 refine dO HM2 (J5 HM2 d x) fun w3 HM3=>?_;rw[H.out];clear t;have J:=HM3.x1;have N:=HM3.thaw 1;rw[d.out]at J;have I:=D.out;have c:=hid (HM3.p ((j:Int)+1));rw[show m.p=(j:Int)from d.out]at y;go_wp2_with fail
 refine jv (iq c C 7 false) fun w5 HM5=>?_;go_wp2
 go_end0
 exact⟨rfl,by rw[y.out];exact HM5,trivial⟩
end acr
namespace acs
open Go.RowKit Base dI gB aJ jw jW fG vT yc yF Tq
variable {k:K} {m:M} {q:Value} {w:World} {j:Nat} {R:List UInt8}
theorem YW (dp:Dp) (h:MX k m q w) (I:m.p=(j:Int)) (J:k.T.drop j=R) (N:k.T.length≤4611686018427387904) (O:j≤k.T.length) (t:m.buf.length≤900000) (s:m.u.txt.length≤100000000) (n:m.st=10→m.buf.all nU=true) (l:j+1≤4611686018427387904) (i:m.st=0):Calls prog 16 #[.pointer (some ⟨k.g,0,none⟩)] w fun e w'=>e=.returned (.tuple #[])∧MX k (aX k.base m R) q w'∧True:=by
 have d:=hid h;have G:=hid I;have F:=hid J;have Q:Hid (-4611686018427387904≤m.p∧m.p≤4611686018427387904):=⟨by omega,by omega⟩;have W:=hid i;obtain⟨v,L⟩:∃v,(cc R).toNat=v:=⟨_,rfl⟩;obtain⟨c,r⟩:∃c,cc R=c:=⟨_,rfl⟩;have z:=hid r;obtain⟨b,A⟩:∃b,decide (R=[])=b:=⟨_,rfl⟩;have HB:=hid A;obtain⟨lt,a⟩:∃x,letter (c.toNat:Int)=x:=⟨_,rfl⟩;have y:=hid a;obtain⟨E,D⟩:∃E,lower [c]=E:=⟨_,rfl⟩;have Y:=hid D;have aU:=fun w:World=>bI (P:=prog) (w:=w.alloc (.cells #[.int .u8 (c.toNat:Int)] 5)) 50 9 5 underlying50 underlying5 underlying9 [c] 1 (acT.one_row c w);have V:=hid aU;clear aU;rcases lt with _|_
 ·skip
  have H:Hid (aX k.base m R=mv m 2 true):=by
   show _=_;refine(ms0 i).trans ?_;unfold kR;rw[if_neg (fun x=>by rw[r,a]at x;exact absurd x.1 (by decide))]
  clear h I J N O dp t s n l i L r A a D;go_enter func16,ntmps16;go_wp2_with fail
  refine dO d (Zq d G F) fun w2 HM2=>?_;rw[z.out];have B:=HM2.x2;rw[W.out]at B;go_wp2_with fail
  refine(jf.gZ (c.toNat:Int) _).mono ?_;rintro e7 Z ⟨rfl,rfl⟩;rw[y.out];go_wp2_with fail
  refine jv (iq HM2 Q 2 true) fun w3 HM3=>?_;go_wp2
  go_end0
  exact⟨rfl,by rw[H.out];exact HM3,trivial⟩
 rcases b with _|_
 ·skip
  have H:Hid (aX k.base m R=mv {m with buf:=E} 1 false):=by
   show _=_;refine(ms0 i).trans ?_;unfold kR;rw[if_pos ⟨by rw[r,a],of_decide_eq_false A⟩,r,D]
  clear h I J N O dp t s n l i L r A a D;go_enter func16,ntmps16;go_wp2_with fail
  refine dO d (Zq d G F) fun w2 HM2=>?_;rw[z.out];have B:=HM2.x2;rw[W.out]at B;go_wp2_with fail
  refine(jf.gZ (c.toNat:Int) _).mono ?_;rintro e7 Z ⟨rfl,rfl⟩;rw[y.out];go_wp2_with fail
  refine dO HM2 (lu HM2 G F HB) fun w3 HM3=>?_;have aU:=V.out;clear B;go_wp2_with fail
  clear aU;refine(jf.jM (ah [c]) _ (by rw[ak];exact(by decide:(1:Nat)≤1073741824))).mono ?_;rintro e4 w4 ⟨rfl,C⟩;rw[show lower (ah [c]).data.toList=E from Y.out];have f:=hid ((HM3.below ((Below.refl _ _).alloc (Nat.le_refl _) _)).below C);clear C;have c3:=f.x3;have z3:=f.thaw 3;have X:=hid (f.buf E);go_wp2_with fail
  refine jv (iq X Q 1 false) fun w6 HM6=>?_;go_wp2
  go_end0
  exact⟨rfl,by rw[H.out];exact HM6,trivial⟩
 skip
 have H:Hid (aX k.base m R=mv m 2 true):=by
  show _=_;refine(ms0 i).trans ?_;unfold kR;rw[if_neg (fun x=>x.2 (of_decide_eq_true A))]
 clear h I J N O dp t s n l i L r A a D;go_enter func16,ntmps16;go_wp2_with fail
 refine dO d (Zq d G F) fun w2 HM2=>?_;rw[z.out];have B:=HM2.x2;rw[W.out]at B;go_wp2_with fail
 refine(jf.gZ (c.toNat:Int) _).mono ?_;rintro e7 Z ⟨rfl,rfl⟩;rw[y.out];go_wp2_with fail
 refine dO HM2 (lu HM2 G F HB) fun w3 HM3=>?_;go_wp2_with fail
 refine jv (iq HM3 Q 2 true) fun w4 f=>?_;go_wp2
 go_end0
 exact⟨rfl,by rw[H.out];exact f,trivial⟩
theorem Y3 (dp:Dp) (h:MX k m q w) (D:m.p=(j:Int)) (F:k.T.drop j=R) (H:k.T.length≤4611686018427387904) (I:j≤k.T.length) (t:m.buf.length≤900000) (r:m.u.txt.length≤100000000) (n:m.st=10→m.buf.all nU=true) (i:j+1≤4611686018427387904) (f:m.st=6):Calls prog 16 #[.pointer (some ⟨k.g,0,none⟩)] w fun e w'=>e=.returned (.tuple #[])∧MX k (aX k.base m R) q w'∧True:=by
 have d:=hid h;have B:=hid D;have A:=hid F;have J:Hid (-4611686018427387904≤m.p∧m.p≤4611686018427387904):=⟨by omega,by omega⟩;have L:=hid f;obtain⟨v,E⟩:∃v,(cc R).toNat=v:=⟨_,rfl⟩;have HV:=hid E;obtain⟨s,c⟩:∃s,sp m=s:=⟨_,rfl⟩;have z:=hid c;obtain⟨l,a⟩:∃l,kL (sp m) R=l:=⟨_,rfl⟩;have G:=hid a;rcases s with _|_
 ·rcases l with _|_
  ·have C:Hid (aX k.base m R=mv (lI k.b m) 15 true):=by
    show _=_;refine(ms6 f).trans ?_;unfold iV;rw[if_neg (fun x=>by rw[c]at x;exact absurd x.1 (by decide)),if_neg (by rw[a];decide)];try rfl
   clear h D F H I dp t r n i f E c a;go_enter func16,ntmps16;go_wp2_with fail
   refine dO d (yL d B A HV) fun w2 HM2=>?_;have y:=HM2.x2;rw[L.out]at y;go_wp2_with fail
   refine dO HM2 (dU HM2 z) fun w3 HM3=>?_;go_wp2_with fail
   refine dO HM3 (bK HM3 B A G) fun w4 HM4=>?_;go_wp2_with fail
   refine jv (JG HM4) fun w5 HM5=>?_;clear y;go_wp2_with fail
   refine jv (iq HM5 J 15 true) fun w6 HM6=>?_;go_wp2
   go_end0
   exact⟨rfl,by rw[C.out];exact HM6,trivial⟩
  have C:Hid (aX k.base m R=begin' m):=by
   show _=_;refine(ms6 f).trans ?_;unfold iV;rw[if_neg (fun x=>by rw[c]at x;exact absurd x.1 (by decide)),if_pos a];try rfl
  clear h D F H I dp t r n i f E c a;go_enter func16,ntmps16;go_wp2_with fail
  refine dO d (yL d B A HV) fun w2 HM2=>?_;have y:=HM2.x2;rw[L.out]at y;go_wp2_with fail
  refine dO HM2 (dU HM2 z) fun w3 HM3=>?_;go_wp2_with fail
  refine dO HM3 (bK HM3 B A G) fun w4 HM4=>?_;go_wp2_with fail
  refine jv (Dt HM4 J) fun w5 HM5=>?_;go_wp2
  go_end0
  exact⟨rfl,by rw[C.out];exact HM5,trivial⟩
 rcases l with _|_
 ·have C:Hid (aX k.base m R=mv (lI k.b m) 15 true):=by
   show _=_;refine(ms6 f).trans ?_;unfold iV;rw[if_neg (fun x=>by rw[a]at x;exact absurd x.2 (by decide)),if_neg (by rw[a];decide)];try rfl
  clear h D F H I dp t r n i f E c a;go_enter func16,ntmps16;go_wp2_with fail
  refine dO d (yL d B A HV) fun w2 HM2=>?_;have y:=HM2.x2;rw[L.out]at y;go_wp2_with fail
  refine dO HM2 (dU HM2 z) fun w3 HM3=>?_;go_wp2_with fail
  refine dO HM3 (bK HM3 B A G) fun w4 HM4=>?_;go_wp2_with fail
  refine dO HM4 (bK HM4 B A G) fun w5 HM5=>?_;go_wp2_with fail
  refine jv (JG HM5) fun w6 HM6=>?_;clear y;go_wp2_with fail
  refine jv (iq HM6 J 15 true) fun w7 HM7=>?_;go_wp2
  go_end0
  exact⟨rfl,by rw[C.out];exact HM7,trivial⟩
 have C:Hid (aX k.base m R=mv m 7 false):=by
  show _=_;refine(ms6 f).trans ?_;unfold iV;rw[if_pos ⟨c,a⟩];try rfl
 clear h D F H I dp t r n i f E c a;go_enter func16,ntmps16;go_wp2_with fail
 refine dO d (yL d B A HV) fun w2 HM2=>?_;have y:=HM2.x2;rw[L.out]at y;go_wp2_with fail
 refine dO HM2 (dU HM2 z) fun w3 HM3=>?_;go_wp2_with fail
 refine dO HM3 (bK HM3 B A G) fun w4 HM4=>?_;go_wp2_with fail
 refine jv (iq HM4 J 7 false) fun w5 HM5=>?_;go_wp2
 go_end0
 exact⟨rfl,by rw[C.out];exact HM5,trivial⟩
end acs
namespace fG
open Go.RowKit Base bf vP jW
variable {k:K} {m:M} {q:Value} {w w':World}
theorem MX.tY (h:MX k m q w) {v:Value} {P:List ByteArray} (a:w.ownsRow k.B 9 1 v P.length (P.map Value.string)):MX k {m with u:={m.u with aF:=P}} v (w.setCell ⟨k.g,12,none⟩ v):=⟨heap_setCell_same w k.g 12 _ _ _ h.row,gI a (iM h.row a),h.bD.setCell h.le _,h.le⟩
structure MQ (k:K) (m:M) (q:Value) (w:World):Prop where
 row:w.heap[k.g]?=some (.cells (NW k m q) 45 (0,0))
 bD:Below k.B k.w0 w
 le:k.B≤k.g
theorem MQ.thaw (h:MQ k m q w) (i:Nat):w.frozen? ⟨k.g,i,none⟩=false:=frozen_of_row w k.g i _ _ h.row
theorem MQ.tY (h:MQ k m q w) {v:Value} {P:List ByteArray} (a:w.ownsRow k.B 9 1 v P.length (P.map Value.string)):MX k {m with u:={m.u with aF:=P}} v (w.setCell ⟨k.g,12,none⟩ v):=⟨heap_setCell_same w k.g 12 _ _ _ h.row,gI a (iM h.row a),h.bD.setCell h.le _,h.le⟩
theorem MX.grown (h:MX k m q w) (a:w.grownBy w' q.ownBlock):MQ k m q w':=
 ⟨(a.block _ h.lt (fun e=>iM h.row h.own e.symm)).trans h.row,h.bD.grown a h.size (fun g' hg'=>(h.own.lt g' hg').1),h.le⟩
theorem MQ.x12 (h:MQ k m q w):w.cell? ⟨k.g,12,none⟩=some q:=cell_of_row w k.g 12 _ _ _ h.row
theorem MQ.x3 (h:MQ k m q w):w.cell? ⟨k.g,3,none⟩=some (.string (ah m.buf)):=cell_of_row w k.g 3 _ _ _ h.row
theorem MX.BA (h:MX k m q w) {P:List ByteArray} {N:Nat} (a:m.u.aF=P) (c:P.length=N):w.ownsRow k.B 9 1 q N (P.map Value.string):=by
 have:=h.own;rw[a,c]at this;exact this
theorem Ae {w:World} {B N:Nat} {v:Value} {P:List ByteArray} {x:ByteArray} (a:P.length=N) (h:w.ownsRow B 9 1 v (N+1) (P.map Value.string++[Value.string x])):w.ownsRow B 9 1 v (P++[x]).length ((P++[x]).map Value.string):=by
 rw[List.length_append,a,List.map_append];exact h
end fG
namespace eH
open Go.RowKit
section
variable {P:Program} {md:Region.Mode} {ops:Array Oper} {Q:Exit→Act→World→Prop}
def Jv (md:Region.Mode) (ops:Array Oper) (ns:List (List Nat)) (n:Nat) (pre:List Nat):Bool:=
 decide (n<ops.size)&&wI md ops ns&&((List.range n).all fun k=>pre.contains k||(ns.getD n []).contains k)&&
 ((List.range ops.size).all fun i=>decide (i≤n)||match ops[i]? with
  |none=>false
  |some o=>o.after.any fun e=>Region.binds md e&&decide (n≤e.on))&&
 Region.seqB md ops (ops.size - n) n (List.replicate n true++List.replicate (ops.size - n) false).toArray
theorem FQ {A:(Nat→Value)→Act} {w0:World} {R:List Keep} {ns:List (List Nat)} {n:Nat} {pre:List Nat} (I:Jv md ops ns n pre=true) (r:Steps P ops Q A w0 R 0 (ops.toList.take n) ns)
  (fin:∀t w,Below w0.heap.size w0 w→Have R t w (List.range n)→wpList P ops Q (ops.toList.drop n) (A t) w):
  ∀(c:Nat) (a:Array Bool) (t:Nat→Value) (w:World),W9 ops w0 R ns n a t w→(∀k ∈ pre,a.getD k false=true)→JJ ops a=c→wpAny P md ops Q c a (A t) w:=by
 unfold Jv at I;simp only[Bool.and_eq_true,decide_eq_true_eq]at I;obtain⟨⟨⟨⟨Y,N⟩,F⟩,H⟩,C⟩:=I
 -- all of the head is a:the tail,in its order
 have done : ∀ (c : Nat) (a : Array Bool) (t : Nat → Value) (w : World), W9 ops w0 R ns n a t w → JJ ops a = c → (∀ i, i < n → a.getD i false = true) → wpAny P md ops Q c a (A t) w := by
  intro c a t w h B s;have z:a=(List.replicate n true++List.replicate (ops.size - n) false).toArray:=by
   apply Array.ext
   ·simp[h.size];omega
   ·intro i l J;have W:=h.size;simp only[List.getElem_toArray];by_cases hi:i<n
    ·have:=s i hi;simp[Array.getD,l]at this;rw[List.getElem_append_left (by simpa using hi)];simpa using this
    ·have:=h.tail i (by omega);simp[Array.getD,l]at this;rw[List.getElem_append_right (by simpa using hi)];simpa using this
  have hf:c=(ops.toList.drop n).length:=by
   rw[←B];unfold JJ;have e:ops.size=n+(ops.size - n):=by omega
   rw[e,List.range_add,List.countP_append];have T:(List.range n).countP (fun i=> !a.getD i true)=0:=by
    rw[List.countP_eq_zero];intro i hi;have x:=List.mem_range.1 hi;rw[qR (by rw[h.size];omega) true false,s i x];decide
   have O:((List.range (ops.size - n)).map (n+·)).countP (fun i=> !a.getD i true)=((List.range (ops.size - n)).map (n+·)).length:=by
    rw[List.countP_eq_length];intro i hi;obtain⟨j,y,rfl⟩:=List.mem_map.1 hi;have X:=List.mem_range.1 y;rw[qR (by rw[h.size];omega) true false,h.tail (n+j) (by omega)];rfl
   rw[T,O];simp
  have V:=fin t w h.below (mM _ fun k f=>(h.held k (s k (by simpa using f))).1);rw[hf];refine wpAny_of_seq (md:=md) (ops.toList.drop n) n a (A t) w (fun j=>by simp[List.getElem?_drop]) ?_ V;rw[z];simpa using C
 intro c;induction c with
 |zero=>
  intro a t w h _ B;refine done 0 a t w h B fun i hi=>?_;cases e:a.getD i false with
  |true=>rfl
  |false=>
   have:=nT h.size (show i<ops.size by omega) (by rw[qR (by rw[h.size];omega) true false];exact e);omega
 | succ c ih=>
  intro a t w h q B;by_cases s:∀i,i<n→a.getD i false=true
  ·exact done (c+1) a t w h B s
  have G:Region.ready md ops a≠[]:=fun hr=>s fun i hi=>pY N h.size hr (i+1) i (by omega) (by omega);refine⟨fun L=>absurd L G,fun i hi=>?_⟩;obtain⟨L,o,D,d⟩:=mem_ready.1 hi;have E:=(Array.getElem?_eq_some_iff.1 D).1;have g:∀k ∈ ns.getD i [],a.getD k false=true:=fun k f=>by
   obtain⟨e,z,m,f⟩:=(qw N D).2 k f;rcases f with rfl|f
   ·exact d e z m
   ·exact(h.held e.on (d e z m)).2 k f
  have x:i<n:=by
   rcases Nat.lt_trichotomy i n with hlt'|rfl|hgt
   ·exact hlt'
   ·exact absurd (fun k f=>by
     have l:=List.all_eq_true.1 F k (List.mem_range.2 f);simp only[Bool.or_eq_true,List.contains_iff_mem]at l;exact l.elim (fun l=>q k l) (fun l=>g k l)) s
   ·have l:=List.all_eq_true.1 H i (List.mem_range.2 E);simp only[D,Bool.or_eq_true,decide_eq_true_eq]at l;rcases l with l|l
    ·omega
    ·obtain⟨e,z,m⟩:=Array.any_eq_true'.1 l;simp only[Bool.and_eq_true,decide_eq_true_eq]at m;have J:=d e z m.1;rw[h.tail e.on m.2]at J;cases J
  have aU:=Steps.at (ops.toList.take n) 0 ns r i o (by rw[List.getElem?_take,if_pos x];simpa using D);rw[Nat.zero_add]at aU;refine wpOp_step D fun K hK=>aU t w h.below (mM _ fun k f=>(h.held k (g k f)).1) K fun v w' m hv=>hK _ _ (ih _ _ _ ⟨⟨h.below.trans (m.mono h.below.size),by simpa using h.size,fun j y=>?_⟩,fun j y=>?_⟩ (fun k f=>getD_set_true (q k f)) ?_)
  ·by_cases hji:j=i
   ·subst hji;refine⟨by simpa[upd]using hv,fun k f=>getD_set_true (g k f)⟩
   ·rw[getD_set_ne false (Ne.symm hji)]at y;have:=h.held j y;refine⟨by simp only[upd,if_neg hji];exact(pick R j).stays _ _ _ m this.1,fun k f=>getD_set_true (this.2 k f)⟩
  ·rw[getD_set_ne false (by omega)];exact h.tail j y
  ·have:=nT h.size E L;omega
def V9 (k:Nat) (listed:Array Bool) (ns:List (List Nat)) (n:Nat) (pre:List Nat):Bool:=
 decide (listed.size=k)&&((List.range k).all fun i=>listed.getD i false==pre.contains i)&&(pre.all fun i=>decide (i<n)&&(ns.getD i []).all fun j=>pre.contains j)
theorem FP {l:List Oper} {a:Act} {w:World} (n:Nat) (R:List Keep) (ns:List (List Nat)) (pre:List Nat) {c:Array Bool} {d:Nat} (q:Jv .any l.toArray ns n pre=true) (s:V9 l.length c ns n pre=true) (z:JJ l.toArray c=d)
  (D:∀k ∈ pre,(pick R k).says (now (l.take n) a k) w)
  (g:Steps P l.toArray Q (fun t=>dP t n l 0 a) w R 0 (l.take n) ns)
  (fin:∀t w',Below w.heap.size w w'→Have R t w' (List.range n)→wpList P l.toArray Q (l.drop n) (dP t n l 0 a) w'):wpAny P .any l.toArray Q d c a w:=by
 unfold V9 at s;simp only[Bool.and_eq_true,decide_eq_true_eq]at s;obtain⟨⟨m,y⟩,r⟩:=s;have f:∀i,c.getD i false=pre.contains i:=fun i=>by
  by_cases hi:i<l.length
  ·have:=List.all_eq_true.1 y i (List.mem_range.2 hi);simpa using this
  ·have C:c.getD i false=false:=by simp[Array.getD,m,hi]
   have B:pre.contains i=false:=by
    cases e:pre.contains i with
    |false=>rfl
    |true=>
     have:=List.all_eq_true.1 r i (by simpa using e);simp only[Bool.and_eq_true,decide_eq_true_eq]at this;have x:n<l.toArray.size:=by
      unfold Jv at q;simp only[Bool.and_eq_true,decide_eq_true_eq]at q;exact q.1.1.1.1
     simp at x;omega
   rw[C,B]
 have h := FQ (P := P) (Q := Q) (md := .any) (ops := l.toArray) (A := fun t => dP t n l 0 a) (w0 := w) (R := R) (ns := ns) (n := n) (pre := pre) q (by simpa using g) (by simpa using fin) d c (now (l.take n) a) w
  ⟨⟨Below.refl _ _,by simpa using m,fun i hi=>by
   rw[f]at hi;have v:i ∈ pre:=by simpa using hi
   have:=List.all_eq_true.1 r i v;simp only[Bool.and_eq_true,decide_eq_true_eq]at this;exact⟨D i v,fun k hk=>by rw[f];exact List.all_eq_true.1 this.2 k hk⟩⟩,fun i hi=>by
    rw[f];cases e:pre.contains i with
    |false=>rfl
    |true=>
     have:=List.all_eq_true.1 r i (by simpa using e);simp only[Bool.and_eq_true,decide_eq_true_eq]at this;omega⟩ (fun k hk=>by rw[f];simpa using hk) z
 have e:dP (now (l.take n) a) n l 0 a=a:=by rw[uG];exact ql a (l.take n) (l.take n) 0 (fun j=>by simp)
 have E:wpAny P .any l.toArray Q d c (dP (now (l.take n) a) n l 0 a) w:=h
 rwa[e]at E
end
end eH
namespace Xd
open Go.RowKit Base bf iw eH dI iH iI mD JQ jR ug aae aJ jW fG yc yF
variable {k:K} {m:M} {q:Value} {w:World} {j:Nat} {R:List UInt8}
def _root_.Go.Proofs.YtgockiomacchoaaGreatDoor.eH.aeU (B:Nat) (l:List ByteArray):Keep:=⟨fun v w=>∃A n c,v=.slice A n c∧w.ownsRow B 9 1 (.slice A n c) l.length (l.map Value.string),fun _ _ _ hb ⟨A,n,c,h1,h2⟩=>⟨A,n,c,h1,aZ h2 hb⟩⟩
theorem made1 (w:World) (x:ByteArray):dV (w.alloc (.cells #[Value.string x] 9)) (some ⟨w.heap.size,0,none⟩) 1 [Value.string x]:=
 dV.lJ rfl (by simp) fun j hj=>by rw[Nat.zero_add,World.cell?_alloc_mark];match j,hj with|0,_=>rfl
theorem yY {s:Bool} (h:bU R=true):kL s R=false:=by
 match R,h with
 |[],_=>rfl
 |c::L,h=>
  have h:(decide (c=63)||decide (c=35))=true:=h;show bW s c=false;simp only[Bool.or_eq_true,decide_eq_true_eq]at h;rcases h with rfl|rfl<;>cases s<;>decide
theorem I9 (c:UInt8) (h:letter (c.toNat:Int)=true):jX.iJ 4 c.toNat=false:=by
 have H:∀n:Fin 256,letter (n.val:Int)=true→jX.iJ 4 (n.val:Int)=false:=by decide+kernel
 exact H ⟨c.toNat,c.toNat_lt⟩ h
theorem QY (b:List UInt8) (h:lq b=true):aG.enc 4 (b.take 1++[58])=b.take 1++[58]:=by
 match b,h with
 |[x,y],h=>
  have hx:letter (x.toNat:Int)=true:=by
   simp only[lq,Bool.and_eq_true]at h;exact h.1
  have c:=I9 x hx;have a:jX.iJ 4 ((58:UInt8).toNat:Int)=false:=by decide+kernel
  simp only[List.take_succ_cons,List.take_zero,List.cons_append,List.nil_append,aG.enc,List.flatMap_cons,List.flatMap_nil,aG.one,c,a];rfl
theorem Js (file e:Bool) (l:List ByteArray) (b:List UInt8) (h:qh b=true):rW file e l b=if e then iW file l++[ah []]else iW file l:=by unfold rW;rw[if_pos h]
theorem DR (file e:Bool) (l:List ByteArray) (b:List UInt8) (h:qh b=false) (a:rD b=true):rW file e l b=if e then l++[ah []]else l:=by unfold rW;rw[h,if_neg (by decide),if_pos a]
theorem Az (file e:Bool) (l:List ByteArray) (b:List UInt8) (h:qh b=false) (a:rD b=false):rW file e l b=l++[ah (wr (file&&l.isEmpty) b)]:=by unfold rW;rw[h,if_neg (by decide),a,if_neg (by decide)]
theorem F9 (file:Bool) (l:List ByteArray):(iW file l).length≤l.length:=by rw[nI];split<;>omega
theorem Oa {w:World} {B N:Nat} {A:Option Addr} {n c:Nat} {l:List ByteArray} (h:w.ownsRow B 9 1 (.slice A n c) N (l.map Value.string)):dV w A n (l.map Value.string):=by
 obtain⟨f,d,e,_,_,a⟩:=aS h;cases e;exact a
theorem Vx (dp:Dp) (h:MX k m q w) (H:m.p=(j:Int)) (J:k.T.drop j=R) (Q:k.T.length≤4611686018427387904) (V:j≤k.T.length) (r:m.buf.length≤900000) (z:m.u.aF.length≤500000) (W:bU R=false∧kL (sp m) R=false):Calls prog 59 #[.pointer (some ⟨k.g,0,none⟩),.int .u8 ((cc R).toNat:Int)] w fun e w'=>e=.returned (.tuple #[])∧∃q',MX k (iy m R) q' w':=by
 have s:=hid h;have O:=hid H;have N:=hid J;obtain⟨B,v⟩:∃B,m.buf=B:=⟨_,rfl⟩;have G:=hid v;have F:Hid (B.length≤900000):=by show _≤_;rw[←v];exact r
 obtain⟨c,C⟩:∃c,c=cc R:=⟨_,rfl⟩;rw[←C];obtain⟨A,f⟩:=W;have HE:=hid A;have HL:=hid f;have Z:Hid (iy m R={m with buf:=B++[c]}):=by
  show _=_;unfold iy;rw[if_pos ⟨A,f⟩,v,C]
 clear v C A f r dp z;clear h H J Q V;go_enter func59,ntmps59;go_wp2_with fail
 refine dO s (dY s O N HE) fun w2 HM2=>?_;go_wp2_with fail
 refine dO HM2 (bK HM2 O N HL) fun w3 HM3=>?_;go_wp2_with fail
 refine aV (by kernel_rfl) 11 [pg k.g 0,pg k.g 0,pg k.g 0,pg k.g 3,is (.string (ah B)),is (.int .u8 (c.toNat:Int)),row 1 (aQ [c]),is (.string (ah [c])),is (.string (ah (B++[c]))),pg k.g 0,pg k.g 3] [[],[],[1],[1,2],[1,2,3],[],[5],[5,6],[1,2,3,4,5,6,7],[0],[0,9],[0,1,2,3,4,5,6,7,8,9,10]] (by kernel_rfl) ?_ ?_
 ·refine ⟨?_,?_,?_,?_,?_,?_,?_,?_,?_,?_,?_,trivial⟩;all_goals(intro t n i hh K a;simp only[iD,oP,Act.put,Nat.reduceAdd,Nat.reduceEqDiff,reduceIte]at hh a⊢)
  iterate 4
   ·try simp only[hh]at a⊢
    clear hh;go_simp;exact a _ _ aT rfl
  ·try simp only[hh]at a⊢
   clear hh;have L:=(HM3.below i).x3;rw[G.out]at L;go_simp;exact a _ _ aT rfl
  ·try simp only[hh]at a⊢
   clear hh;go_simp;exact a _ _ aT rfl
  ·try simp only[hh]at a⊢
   clear hh;go_simp;exact a _ _ ((Below.refl _ _).alloc (Nat.le_refl _) _) ⟨_,_,rfl,Nat.le_refl _,by decide,iP n [c] 5 (0,0)⟩
  ·have D:=hh.2.1;clear hh;obtain⟨A6,Y,D,X,P,y⟩:=D;simp only[D]at a⊢;have hs:=bI 50 9 5 underlying50 underlying5 underlying9 _ Y y;go_simp;exact a _ _ aT rfl
  ·try simp only[hh]at a⊢
   clear hh;have I:(Op.stringOp .add (ah B) (ah [c])).run prog n=.ok (.string (ah (B++[c]))) n:=bH _ _ n (by have:=F.out;simp;omega);go_simp;exact a _ _ aT rfl
  iterate 2
   ·try simp only[hh]at a⊢
    clear hh;go_simp;exact a _ _ aT rfl
 intro t n i hh;have x:=aO hh 8 (by decide);simp only[pick]at x;replace x:t 8=(.string (ah (B++[c]))):=x;have d:=aO hh 10 (by decide);simp only[pick]at d;replace d:t 10=(.pointer (some ⟨k.g,3,none⟩)):=d;clear hh;simp only[iD,oP,Act.put,Nat.reduceAdd,Nat.reduceEqDiff,reduceIte];simp only[x,d];have l:=hid (HM3.below i);have E:=hid (l.buf (B++[c]));have z3:=l.thaw 3;have L:=l.x3;go_wp2;first|go_end0|((try simp only[Exit.inBlock,Exit.then]);refine eX rfl rfl ?_)
 exact⟨rfl,_,by rw[Z.out];exact E⟩
theorem Vy (dp:Dp) (h:MX k m q w) (hz:m.p=(j:Int)) (hR:k.T.drop j=R) (hl:k.T.length≤4611686018427387904) (hj:j≤k.T.length) (b8:m.buf.length≤900000) (b3:m.u.aF.length≤500000) (hg:¬(bU R=false∧kL (sp m) R=false)) (hd:qh m.buf=true):Calls prog 59 #[.pointer (some ⟨k.g,0,none⟩),.int .u8 ((cc R).toNat:Int)] w fun e w'=>e=.returned (.tuple #[])∧∃q',MX k (iy m R) q' w':=by
 obtain⟨i0,hi,a5,a4,a3⟩:=info_parts iT;have HP:=hid hz;have HR:=hid hR;obtain⟨B,hB⟩:∃B,m.buf=B:=⟨_,rfl⟩;have d0:=hid hB;have c9:Hid (B.length≤900000):=by show _≤_;rw[←hB];exact b8
 obtain⟨c,hc⟩:∃c,c=cc R:=⟨_,rfl⟩;rw[←hc];have c8:=hid hl;have HJ:=hid hj;obtain⟨l,s⟩:∃l,kL (sp m) R=l:=⟨_,rfl⟩;have HL:=hid s;obtain⟨o,ho⟩:∃o,bU R=o:=⟨_,rfl⟩;have HE:=hid ho;obtain⟨P,hP⟩:∃P,m.u.aF=P:=⟨_,rfl⟩;obtain⟨N,hN⟩:∃N,P.length=N:=⟨_,rfl⟩;have e7:=hid hP;have e8:=hid hN;have c7:Hid (N≤500000):=by show _≤_;rw[←hN,←hP];exact b3
 obtain⟨S,hS⟩:∃S,m.u.au=S:=⟨_,rfl⟩;have e2:=hid hS;obtain⟨fl,V⟩:∃x,decide (S=ay)=x:=⟨_,rfl⟩;have e9:Hid (((ah S).toList==[102,105,108,101])=fl):=by show _=_;rw[mg.dZ,←V];rfl
 obtain⟨qA,qc,d7,a9,b0,d6⟩:=aS (h.BA hP hN);subst d7;have e3:=hid a9;have e6:=hid b0;have L:=hid h;have hg:¬(o=false∧l=false):=fun x=>hg ⟨ho.trans x.1,s.trans x.2⟩;have W:(o=true∧l=false)∨(o=false∧l=true):=by
  cases o with
  |true=>exact .inl ⟨rfl,s▸yY ho⟩
  |false=>cases l with
   |true=>exact .inr ⟨rfl,rfl⟩
   |false=>exact absurd ⟨rfl,rfl⟩ hg
 have HD:Hid (qh B=true):=by show _=_;rw[←hB,hd]
 obtain⟨A,G⟩:∃A,iW fl P=A:=⟨_,rfl⟩;have e1:=hid G;obtain⟨O,Y⟩:∃O,A.length=O:=⟨_,rfl⟩;have J:=hid Y;have c6:Hid (O≤500000):=by show _≤_;have:=F9 fl P;have:=c7.out;rw[←Y,←G];omega
 have HO:Hid (iy m R=tail {m with u:={m.u with aF:=if l=false then A++[⟨#[]⟩]else A},buf:=[]} R):=by
  show _=_;unfold iy;rw[if_neg (fun x=>hg ⟨ho▸x.1,s▸x.2⟩),Js _ _ _ _ hd,s,hP,hS,V,G];cases l<;>rfl
 have c2:Hid (m.p=(j:Int)):=hz;clear hg hd G Y;clear hB hc s ho b8 dp b3;clear hP hN hS V a9 b0 d6;clear h hz hR hl hj;have f4:=c6.out;have d9:=c7.out;rcases W with⟨rfl,rfl⟩|⟨rfl,rfl⟩
 focus
  go_enter func59,ntmps59;go_wp2_with fail
  refine dO L (dY L HP HR HE) fun w2 HM2=>?_;go_wp2_with fail
  refine dO HM2 (bK HM2 HP HR HL) fun w3 HM3=>?_;have Z:=HM3.x3;rw[d0.out]at Z;go_wp2_with fail
  clear Z;refine(JM.jP (ah B) _ (by have:=c9.out;rw[ak];omega)).mono ?_;rintro e4 wD ⟨rfl,b9⟩;rw[show qh (ah B).data.toList=true from HD.out];have a0:=hid (HM3.below b9);clear b9
 rotate_left
 focus
  go_enter func59,ntmps59;go_wp2_with fail
  refine dO L (dY L HP HR HE) fun w2 HM2=>?_;go_wp2_with fail
  refine dO HM2 (bK HM2 HP HR HL) fun w3 HM3=>?_;go_wp2_with fail
  refine dO HM3 (bK HM3 HP HR HL) fun w4 HM4=>?_;have Z:=HM4.x3;rw[d0.out]at Z;go_wp2_with fail
  clear Z;refine(JM.jP (ah B) _ (by have:=c9.out;rw[ak];omega)).mono ?_;rintro e5 wD ⟨rfl,F⟩;rw[show qh (ah B).data.toList=true from HD.out];have a0:=hid (HM4.below F);clear F
 rotate_left
 all_goals
  go_wp2_with fail
  have r:=hid (a0.below (w':=wD.drew) ⟨rfl,rfl,rfl,Nat.le_refl _,fun _ _=>rfl⟩);refine wp_region_any (by kernel_rfl) ?_;change wpAny _ _ _ _ _ _ _ (World.drew _);refine wpAny_take (i:=0) (v:=(.pointer (some ⟨k.g,0,none⟩))) rfl (by kernel_rfl) (by kernel_rfl) (by kernel_rfl) (fun _ _ _ h=>h) (Or.inl ⟨by rfl,?yy0⟩) ?_;case yy0=>(intro w;go_simp;try with_reducible rfl)
  simp only[List.getElem_toArray,List.getElem_cons_zero,List.getElem_cons_succ,Act.put,List.setIfInBounds_toArray,List.set_cons_zero,List.set_cons_succ];refine FP 14 [pg k.g 0,aeU wD.heap.size [],pg k.g 0,pg k.g 0,pg k.g 4,pg k.g 4,is (.string (ah S)),is (.bool fl),pg k.g 0,pg k.g 0,pg k.g 4,pg k.g 12,is (.slice qA N qc),row O (A.map Value.string)] [[],[],[],[2],[2,3],[2,3,4],[2,3,4,5],[2,3,4,5,6],[],[8],[8,9],[8,9,10],[8,9,10,11],[2,3,4,5,6,7,8,9,10,11,12],[1,2,3,4,5,6,7,8,9,10,11,12,13]] [0] (by kernel_rfl) (by kernel_rfl) (by kernel_rfl) ?_ ?_ ?_
  ·intro k hk;simp only[List.mem_cons,List.not_mem_nil,or_false]at hk;subst hk;rfl
  ·refine ⟨?_,?_,?_,?_,?_,?_,?_,?_,?_,?_,?_,?_,?_,?_,trivial⟩;all_goals(intro t wq n hh K D;simp only[iD,oP,Act.put,Nat.reduceAdd,Nat.reduceEqDiff,reduceIte]at hh D⊢;(try simp only[hh]at D⊢);clear hh)
   ·go_simp;exact D _ _ aT rfl
   ·go_simp;exact D _ _ ((Below.refl _ _).alloc (Nat.le_refl _) _) ⟨_,_,_,rfl,aH (World.ownsRow_made wq #[] 0 (Nat.le_refl _) (by decide) rfl) n.size⟩
   iterate 4
    ·go_simp;exact D _ _ aT rfl
   ·have c4:=(r.below n).x4;rw[e2.out]at c4;go_simp;exact D _ _ aT rfl
   ·have f8:=e9.out;go_simp;exact D _ _ aT rfl
   iterate 4
    ·go_simp;exact D _ _ aT rfl
   ·have I:=(r.below n).x12;go_simp;exact D _ _ aT rfl
   go_simp;refine(EZ fl qA N qc P _ ((Oa ((r.below n).BA e7 e8))) e3 e6 (by omega)).mono ?_;rintro e w5 ⟨A5,n5,c5,rfl,Q,b6,b7,a7,F⟩;rw[e1.out]at Q a7;rw[J.out]at Q;subst Q;exact D _ _ F ⟨A5,c5,rfl,b6,b7,a7⟩
  intro t wq n hh;have f0:=aO hh 0 (by decide);simp only[pick]at f0;replace f0:t 0=(.pointer (some ⟨k.g,0,none⟩)):=f0;have f1:=aO hh 1 (by decide);simp only[pick]at f1;have H:=aO hh 13 (by decide);simp only[pick]at H;clear hh;simp only[iD,oP,Act.put,Nat.reduceAdd,Nat.reduceEqDiff,reduceIte];obtain⟨A1,n1,c1,f1,d8⟩:=f1;obtain⟨f2,e0,H,f5,f3,a8⟩:=H;simp only[f0,f1,H];show wpList _ _ _ [_,_,_,_,_] _ _;refine gX rfl _ _ 23 rfl wD.heap.size 9 i0 (.string ByteArray.empty) 16 underlying23 hi a5 a4 a3 rfl (.slice A1 n1 c1) 0 [] rfl d8 n n.size f2 O e0 (A.map Value.string) rfl a8 (kK _) (by unfold maxLen;omega) (by omega) ?_;intro v4 w4 a X;replace a:w4.ownsRow wD.heap.size 9 1 v4 O (A.map Value.string):=by simpa using a
  have f:=aH a a0.size;obtain⟨vA,vc,d5,_⟩:=aS f;subst d5;have y:=r.below X;have d:=hid (y.tY (P:=A) (by rw[J.out];exact f));have I:=y.x12;have a2:=y.thaw 12;have c0:=hid y;clear a f y
 focus
  go_upto_region 9 with(fail)
  generalize hw9:World.setCell w4 _ _=w9 at d⊢;clear hw9 I a2;have I:=d.x12;have b5:=d.BA (P:=A) rfl J;go_wp2_with (at_builtin;refine wpList_append_own _ rfl _ _ 23 rfl k.B 9 i0 (.string ByteArray.empty) 1 16 underlying23 hi a5 a4 a3 rfl (by decide) (.slice vA O vc) O (A.map Value.string) rfl (b5.alloc _) ⟨w9.heap.size,0,none⟩ 1 1 [Value.string ⟨#[]⟩] rfl rfl ?d1 (by intro u hu;simp at hu;subst hu;rfl) ?d2 ?d3 ?d4 ?_)
  try case d1=>intro j u hj;rw[Bc,World.cell?_alloc_mark];simpa using hj
  try case d2=>unfold maxLen;omega
  try case d3=>omega
  try case d4=>first|(rw[World.size_alloc];exact Nat.le_succ_of_le d.size)|exact Nat.le_succ_of_le d.size
  intro v6 w6 z E _;have C:=(d.below ((Below.refl _ _).alloc (Nat.le_refl _) _)).grown E;obtain⟨f7,f6,a6,_⟩:=aS z;subst a6;have d:=hid (C.tY (Ae J z));have I:=C.x12;have a2:=C.thaw 12;have Z:=C.x3;have z3:=C.thaw 3;have a1:=hid (d.buf []);go_wp2_with fail
  refine jv (mW a1 c2 HR c8 HJ) fun w9 HM9=>?_;go_wp2
  go_end0
  exact⟨rfl,_,by rw[HO.out];exact HM9⟩
 focus
  have Z:=c0.x3;have z3:=c0.thaw 3;have a1:=hid (d.buf []);go_wp2_with fail
  refine jv (mW a1 c2 HR c8 HJ) fun w9 HM9=>?_;go_wp2
  go_end0
  exact⟨rfl,_,by rw[HO.out];exact HM9⟩
theorem VA (dp:Dp) (h:MX k m q w) (hz:m.p=(j:Int)) (hR:k.T.drop j=R) (hl:k.T.length≤4611686018427387904) (hj:j≤k.T.length) (I:m.buf.length≤900000) (E:m.u.aF.length≤500000) (H:¬(bU R=false∧kL (sp m) R=false)) (hd:qh m.buf=false) (hs:rD m.buf=true):Calls prog 59 #[.pointer (some ⟨k.g,0,none⟩),.int .u8 ((cc R).toNat:Int)] w fun e w'=>e=.returned (.tuple #[])∧∃q',MX k (iy m R) q' w':=by
 obtain⟨i0,hi,a3,a2,a1⟩:=info_parts iT;have Y:=hid hz;have v:=hid hR;obtain⟨B,V⟩:∃B,m.buf=B:=⟨_,rfl⟩;have C:=hid V;have A:Hid (B.length≤900000):=by show _≤_;rw[←V];exact I
 obtain⟨c,hc⟩:∃c,c=cc R:=⟨_,rfl⟩;rw[←hc];have a0:=hid hl;have HJ:=hid hj;obtain⟨l,d⟩:∃l,kL (sp m) R=l:=⟨_,rfl⟩;have HL:=hid d;obtain⟨o,G⟩:∃o,bU R=o:=⟨_,rfl⟩;have HE:=hid G;obtain⟨P,Q⟩:∃P,m.u.aF=P:=⟨_,rfl⟩;obtain⟨N,hN⟩:∃N,P.length=N:=⟨_,rfl⟩;have X:=hid Q;have Z:=hid hN;have b5:Hid (N≤500000):=by show _≤_;rw[←hN,←Q];exact E
 obtain⟨S,hS⟩:∃S,m.u.au=S:=⟨_,rfl⟩;obtain⟨fl,a9⟩:∃x,decide (S=ay)=x:=⟨_,rfl⟩;obtain⟨qA,qc,a7,a5,a6,a4⟩:=aS (h.BA Q hN);subst a7;have s:=hid h;have H:¬(o=false∧l=false):=fun x=>H ⟨G.trans x.1,d.trans x.2⟩;have t:(o=true∧l=false)∨(o=false∧l=true):=by
  cases o with
  |true=>exact .inl ⟨rfl,d▸yY G⟩
  |false=>cases l with
   |true=>exact .inr ⟨rfl,rfl⟩
   |false=>exact absurd ⟨rfl,rfl⟩ H
 have HD:Hid (qh B=false):=by show _=_;rw[←V,hd]
 have b3:Hid (rD B=true):=by show _=_;rw[←V,hs]
 have HO:Hid (iy m R=tail {m with u:={m.u with aF:=if l=false then P++[⟨#[]⟩]else P},buf:=[]} R):=by
  show _=_;unfold iy;rw[if_neg (fun x=>H ⟨G▸x.1,d▸x.2⟩),DR _ _ _ _ hd hs,d,Q];cases l<;>rfl
 have W:Hid (m.p=(j:Int)):=hz;clear H hd hs;clear V hc d G I dp E;clear Q hN hS a9 a5 a6 a4;clear h hz hR hl hj;have a8:=b5.out;rcases t with⟨rfl,rfl⟩|⟨rfl,rfl⟩
 focus
  go_enter func59,ntmps59;go_wp2_with fail
  refine dO s (dY s Y v HE) fun w2 HM2=>?_;go_wp2_with fail
  refine dO HM2 (bK HM2 Y v HL) fun w3 HM3=>?_;have n:=HM3.x3;rw[C.out]at n;go_wp2_with fail
  clear n;refine(JM.jP (ah B) _ (by have:=A.out;rw[ak];omega)).mono ?_;rintro e4 wD ⟨rfl,O⟩;rw[show qh (ah B).data.toList=false from HD.out];have y:=hid (HM3.below O);clear O
 rotate_left
 focus
  go_enter func59,ntmps59;go_wp2_with fail
  refine dO s (dY s Y v HE) fun w2 HM2=>?_;go_wp2_with fail
  refine dO HM2 (bK HM2 Y v HL) fun w3 HM3=>?_;go_wp2_with fail
  refine dO HM3 (bK HM3 Y v HL) fun w4 HM4=>?_;have n:=HM4.x3;rw[C.out]at n;go_wp2_with fail
  clear n;refine(JM.jP (ah B) _ (by have:=A.out;rw[ak];omega)).mono ?_;rintro e5 wD ⟨rfl,L⟩;rw[show qh (ah B).data.toList=false from HD.out];have y:=hid (HM4.below L);clear L
 rotate_left
 all_goals
  have n:=y.x3;rw[C.out]at n;go_wp2_with fail
  clear n;refine(mg.yC (ah B) _ (by have:=A.out;rw[ak];omega)).mono ?_;rintro e7 w7 ⟨rfl,J⟩;rw[show rD (ah B).data.toList=true from b3.out];have a:=hid (y.below J);clear J
 focus
  have b0:=a.x12;have F:=a.BA X Z;go_wp2_with (at_builtin;refine wpList_append_own _ rfl _ _ 23 rfl k.B 9 i0 (.string ByteArray.empty) 1 16 underlying23 hi a3 a2 a1 rfl (by decide) (.slice qA N qc) N (P.map Value.string) rfl (F.alloc _) ⟨w7.heap.size,0,none⟩ 1 1 [Value.string ⟨#[]⟩] rfl rfl ?d1 (by intro u hu;simp at hu;subst hu;rfl) ?d2 ?d3 ?d4 ?_)
  try case d1=>intro j u hj;rw[Bc,World.cell?_alloc_mark];simpa using hj
  try case d2=>unfold maxLen;omega
  try case d3=>omega
  try case d4=>first|(rw[World.size_alloc];exact Nat.le_succ_of_le a.size)|exact Nat.le_succ_of_le a.size
  intro v6 w6 f r _;have i:=(a.below ((Below.refl _ _).alloc (Nat.le_refl _) _)).grown r;obtain⟨b9,b8,D,_⟩:=aS f;subst D;have b6:=hid (i.tY (Ae Z f));have b0:=i.x12;have b7:=i.thaw 12;have n:=i.x3;have z3:=i.thaw 3;have z:=hid (b6.buf []);go_wp2_with fail
  refine jv (mW z W v a0 HJ) fun w9 HM9=>?_;go_wp2
  go_end0
  exact⟨rfl,_,by rw[HO.out];exact HM9⟩
 focus
  have n:=a.x3;have z3:=a.thaw 3;have z:=hid (a.buf []);go_wp2_with fail
  refine jv (mW z W v a0 HJ) fun w9 HM9=>?_;go_wp2
  go_end0
  exact⟨rfl,_,by rw[HO.out,←X.out];exact HM9⟩
theorem Vz (dp:Dp) (h:MX k m q w) (hz:m.p=(j:Int)) (hR:k.T.drop j=R) (hl:k.T.length≤4611686018427387904) (hj:j≤k.T.length) (b7:m.buf.length≤900000) (b5:m.u.aF.length≤500000) (hg:¬(bU R=false∧kL (sp m) R=false)) (hd:qh m.buf=false) (hs:rD m.buf=false):Calls prog 59 #[.pointer (some ⟨k.g,0,none⟩),.int .u8 ((cc R).toNat:Int)] w fun e w'=>e=.returned (.tuple #[])∧∃q',MX k (iy m R) q' w':=by
 obtain⟨i0,hi,d7,d6,d5⟩:=info_parts iT;have HP:=hid hz;have HR:=hid hR;obtain⟨B,hB⟩:∃B,m.buf=B:=⟨_,rfl⟩;have s:=hid hB;have a2:Hid (B.length≤900000):=by show _≤_;rw[←hB];exact b7
 obtain⟨c,hc⟩:∃c,c=cc R:=⟨_,rfl⟩;rw[←hc];have g3:=hid dp;have f9:=hid hl;have HJ:=hid hj;obtain⟨l,G⟩:∃l,kL (sp m) R=l:=⟨_,rfl⟩;have HL:=hid G;obtain⟨o,ho⟩:∃o,bU R=o:=⟨_,rfl⟩;have HE:=hid ho;obtain⟨P,hP⟩:∃P,m.u.aF=P:=⟨_,rfl⟩;obtain⟨N,hN⟩:∃N,P.length=N:=⟨_,rfl⟩;have c8:=hid hN;have f6:Hid (N≤500000):=by show _≤_;rw[←hN,←hP];exact b5
 obtain⟨S,hS⟩:∃S,m.u.au=S:=⟨_,rfl⟩;have f2:=hid hS;obtain⟨fl,a4⟩:∃x,decide (S=ay)=x:=⟨_,rfl⟩;have g0:Hid (((ah S).toList==[102,105,108,101])=fl):=by show _=_;rw[mg.dZ,←a4];rfl
 obtain⟨qA,qc,e2,d9,e0,d8⟩:=aS (h.BA hP hN);subst e2;have a1:=hid h;have hg:¬(o=false∧l=false):=fun x=>hg ⟨ho.trans x.1,G.trans x.2⟩;have a5:(o=true∧l=false)∨(o=false∧l=true):=by
  cases o with
  |true=>exact .inl ⟨rfl,G▸yY ho⟩
  |false=>cases l with
   |true=>exact .inr ⟨rfl,rfl⟩
   |false=>exact absurd ⟨rfl,rfl⟩ hg
 have HD:Hid (qh B=false):=by show _=_;rw[←hB,hd]
 have f1:Hid (rD B=false):=by show _=_;rw[←hB,hs]
 obtain⟨dv,H⟩:∃x,lq B=x:=⟨_,rfl⟩;have g2:=hid H;obtain⟨z,a3⟩:∃x,P.isEmpty=x:=⟨_,rfl⟩;have r:((N:Int)==0)=z:=by
  rw[←a3,←hN];cases P with
  |nil=>rfl
  |cons a b=>simp only[List.length_cons,List.isEmpty_cons,beq_eq_false_iff_ne];omega
 obtain⟨D,I⟩:∃X,X=if fl&&(z&&dv)then B.take 1++[58]else B:=⟨_,rfl⟩
 have c6:D.length≤B.length+1:=by rw[I];split;(rw[List.length_append,List.length_take];simp only[List.length_cons,List.length_nil];omega);omega
 obtain⟨E,hE⟩:∃E,aG.enc 4 D=E:=⟨_,rfl⟩;have g1:=hid hE;have a9:wr (fl&&P.isEmpty) B=E:=by
  rw[←hE,I,a3];unfold wr;rw[H];cases fl<;>cases z<;>cases dv<;>first|rfl|exact(QY B H).symm
 obtain⟨M2,A⟩:∃X,X={m with buf:=D}:=⟨_,rfl⟩;have y:=hid A;have g6:Hid (M2.buf=D):=by show _=_;rw[A]
 have c9:Hid (D.length≤900001):=by show _≤_;have:=a2.out;omega
 have f3:Hid (M2.p=(j:Int)):=by show _=_;rw[A];exact hz
 have f4:Hid (M2.u.aF=P):=by show _=_;rw[A];exact hP
 have HO:Hid (iy m R=tail {M2 with u:={M2.u with aF:=P++[ah E]},buf:=[]} R):=by
  show _=_;unfold iy;rw[if_neg (fun x=>hg ⟨ho▸x.1,G▸x.2⟩),Az _ _ _ _ hd hs,hP,hS,a4,hB,a9,A]
 have c7:=hid r;have c5:lq B=true→B.length=2:=fun h=>by match B,h with|[_,_],_=>rfl
 have g5:Hid (dv=true→B.length=2):=fun h=>c5 (H.trans h);have g4:Hid (fl=true→z=true→dv=true→D=B.take 1++[58]):=fun a b c=>by rw[I,a,b,c];rfl
 have a8:Hid (¬(fl=true∧z=true∧dv=true)→D=B):=fun a=>by
  rw[I,if_neg];intro x;simp only[Bool.and_eq_true]at x;exact a x
 clear hg hd hs H a3 r I c6 hE a9 A c5;clear hB hc G ho b7 dp b5;clear hP hN hS a4 d9 e0 d8;clear h hz hR hl hj;have e3:=f6.out;rcases a5 with⟨rfl,rfl⟩|⟨rfl,rfl⟩
 focus
  go_enter func59,ntmps59;go_wp2_with fail
  refine dO a1 (dY a1 HP HR HE) fun w2 HM2=>?_;go_wp2_with fail
  refine dO HM2 (bK HM2 HP HR HL) fun w3 HM3=>?_;have n:=HM3.x3;rw[s.out]at n;go_wp2_with fail
  clear n;refine(JM.jP (ah B) _ (by have:=a2.out;rw[ak];omega)).mono ?_;rintro e4 wD ⟨rfl,c0⟩;rw[show qh (ah B).data.toList=false from HD.out];have a7:=hid (HM3.below c0);clear c0
 rotate_left
 focus
  go_enter func59,ntmps59;go_wp2_with fail
  refine dO a1 (dY a1 HP HR HE) fun w2 HM2=>?_;go_wp2_with fail
  refine dO HM2 (bK HM2 HP HR HL) fun w3 HM3=>?_;go_wp2_with fail
  refine dO HM3 (bK HM3 HP HR HL) fun w4 HM4=>?_;have n:=HM4.x3;rw[s.out]at n;go_wp2_with fail
  clear n;refine(JM.jP (ah B) _ (by have:=a2.out;rw[ak];omega)).mono ?_;rintro e5 wD ⟨rfl,Y⟩;rw[show qh (ah B).data.toList=false from HD.out];have a7:=hid (HM4.below Y);clear Y
 rotate_left
 all_goals
  have n:=a7.x3;rw[s.out]at n;go_wp2_with fail
  clear n;refine(mg.yC (ah B) _ (by have:=a2.out;rw[ak];omega)).mono ?_;rintro e7 w7 ⟨rfl,b8⟩;rw[show rD (ah B).data.toList=false from f1.out];have d:=hid (a7.below b8);clear b8;have c4:=d.x4;rw[f2.out]at c4;have V:=g0.out
 all_goals
  rcases fl with _|_
  focus
   have J:=a8 (by rintro⟨x,_⟩;cases x);have f:Hid (MX k M2 (.slice qA N qc) w7):=by show MX _ _ _ _;rw[y.out,J,←s.out];exact d
   clear J;go_wp2_with fail
   clear c4 V;generalize w7=wX at f⊢
  rotate_left
  focus
   rcases z with _|_
   focus
    have J:=a8 (by rintro⟨_,x,_⟩;cases x);have f:Hid (MX k M2 (.slice qA N qc) w7):=by show MX _ _ _ _;rw[y.out,J,←s.out];exact d
    clear J;have C:=d.x12;have r:=c7.out;go_wp2_with fail
    clear c4 V C r;generalize w7=wX at f⊢
   rotate_left
   focus
    have C:=d.x12;have r:=c7.out;have n:=d.x3;rw[s.out]at n;go_wp2_with fail
    refine(oQ.bQ (ah B) _).mono ?_;rintro e8 w8 ⟨rfl,rfl⟩;rw[show lq (ah B).data.toList=dv from g2.out];rcases dv with _|_
    focus
     have J:=a8 (by rintro⟨_,_,x⟩;cases x);have f:Hid (MX k M2 (.slice qA N qc) w7):=by show MX _ _ _ _;rw[y.out,J,←s.out];exact d
     clear J;go_wp2_with fail
     clear c4 V C r n;generalize w7=wX at f⊢
    rotate_left
    focus
     have J:=g4 (by first|rfl|trivial) (by first|rfl|trivial) (by first|rfl|trivial);have c1:=g5 (by first|rfl|trivial);have f:Hid (MX k M2 (.slice qA N qc) (w7.setCell ⟨k.g,3,none⟩ (.string (ah D)))):=by show MX _ _ _ _;rw[y.out];exact d.buf D
     obtain⟨Z,hZ⟩:∃Z,Z=ah B:=⟨_,rfl⟩;have d0:Z.size=2:=by rw[hZ,ak,c1]
     have hex:Z.extract 0 1=ah (B.take 1):=by rw[hZ];simp[ah,ByteArray.ext_iff,Array.toList_extract,List.extract_eq_take_drop]
     have c2:∀w:World,(Op.stringOp .add (ah (B.take 1)) ({data:=#[58]}:ByteArray)).run prog w=.ok (.string (ah D)) w:=fun w=>by rw[J];exact bH _ [58] w (by rw[List.length_take];simp;omega)
     rw[←hZ]at n⊢;have z3:=d.thaw 3;clear hZ J c1;go_wp2_with fail
     clear c4 V C r n z3 c2 hex d0;generalize World.setCell w7 _ _=wX at f⊢
 all_goals
  have O:=hid (f.below (w':=wX.drew) ⟨rfl,rfl,rfl,Nat.le_refl _,fun _ _=>rfl⟩);refine wp_region_any (by kernel_rfl) ?_;change wpAny _ _ _ _ _ _ _ (World.drew _);refine wpAny_take (i:=0) (v:=(.pointer (some ⟨k.g,0,none⟩))) rfl (by kernel_rfl) (by kernel_rfl) (by kernel_rfl) (fun _ _ _ h=>h) (Or.inl ⟨by rfl,?yy0⟩) ?_;case yy0=>(intro w;go_simp;try with_reducible rfl)
  simp only[List.getElem_toArray,List.getElem_cons_zero,List.getElem_cons_succ,Act.put,List.setIfInBounds_toArray,List.set_cons_zero,List.set_cons_succ];refine FP 12 [pg k.g 0,pg k.g 0,pg k.g 0,pg k.g 4,pg k.g 12,is (.slice qA N qc),pg k.g 0,pg k.g 0,pg k.g 3,is (.string (ah D)),is (.string (ah E)),row 1 [Value.string (ah E)]] [[],[],[1],[1,2],[1,2,3],[1,2,3,4],[],[6],[6,7],[6,7,8],[6,7,8,9],[6,7,8,9,10],[1,2,3,4,5,6,7,8,9,10,11]] [0] (by kernel_rfl) (by kernel_rfl) (by kernel_rfl) ?_ ?_ ?_
  ·intro k hk;simp only[List.mem_cons,List.not_mem_nil,or_false]at hk;subst hk;rfl
  ·refine ⟨?_,?_,?_,?_,?_,?_,?_,?_,?_,?_,?_,?_,trivial⟩;all_goals(intro t wq W hh K hK;simp only[iD,oP,Act.put,Nat.reduceAdd,Nat.reduceEqDiff,reduceIte]at hh hK⊢;(try simp only[hh]at hK⊢);clear hh)
   iterate 5
    ·go_simp;exact hK _ _ aT rfl
   ·have C:=(O.below W).x12;go_simp;exact hK _ _ aT rfl
   iterate 3
    ·go_simp;exact hK _ _ aT rfl
   ·have n:=(O.below W).x3;rw[g6.out]at n;go_simp;exact hK _ _ aT rfl
   ·go_simp;refine(AY.ig 4 (ah D) _ (by have:=c9.out;rw[ak];omega) (fun c w=>g3.inn _ c w)).mono ?_;rintro e w5 ⟨rfl,Y⟩;rw[show aG.enc 4 (ah D).data.toList=E from g1.out];exact hK _ _ Y rfl
   go_simp;exact hK _ _ ((Below.refl _ _).alloc (Nat.le_refl _) _) ⟨_,_,rfl,Nat.le_refl _,by decide,made1 _ _⟩
  intro t wq W hh;have f0:=aO hh 0 (by decide);simp only[pick]at f0;replace f0:t 0=(.pointer (some ⟨k.g,0,none⟩)):=f0;have f5:=aO hh 5 (by decide);simp only[pick]at f5;replace f5:t 5=(.slice qA N qc):=f5;have a0:=aO hh 11 (by decide);simp only[pick]at a0;clear hh;simp only[iD,oP,Act.put,Nat.reduceAdd,Nat.reduceEqDiff,reduceIte];obtain⟨h3,e9,a0,g8,g7,b3⟩:=a0;simp only[f0,f5,a0];have a6:=hid (O.below W);obtain⟨b9,o9,rfl,h2,e6⟩:=b3.spot (by decide);have b6:=a6.BA f4 c8;show wpList _ _ _ [_,_,_,_,_] _ _;refine wpList_append_own _ rfl _ _ 23 rfl k.B 9 i0 (.string ByteArray.empty) 1 16 underlying23 hi d7 d6 d5 rfl (by decide) (.slice qA N qc) N (P.map Value.string) rfl b6 ⟨b9,o9,none⟩ 1 e9 [Value.string (ah E)] rfl rfl ?d1 (by intro u hu;simp at hu;subst hu;rfl) ?d2 ?d3 ?d4 ?_;case d1=>intro j u hj;match j,hj with|0,hj=>(simp at hj;subst hj;simpa[Addr.add]using e6 0 Nat.zero_lt_one)
  try case d2=>unfold maxLen;omega
  try case d3=>omega
  try case d4=>exact a6.size
  intro v6 w6 F Q _;have L:=a6.grown Q;obtain⟨h1,h0,b0,_⟩:=aS F;subst b0;have f8:=hid (L.tY (Ae c8 F));have C:=L.x12;have g9:=L.thaw 12;have n:=L.x3;have z3:=L.thaw 3;have f7:=hid (f8.buf []);go_wp2_with fail
  refine jv (mW f7 f3 HR f9 HJ) fun w9 HM9=>?_;go_wp2
  go_end0
  exact⟨rfl,_,by rw[HO.out];exact HM9⟩
theorem aaV (dp:Dp) (h:MX k m q w) (d:m.p=(j:Int)) (l:k.T.drop j=R) (f:k.T.length≤4611686018427387904) (i:j≤k.T.length) (c:m.buf.length≤900000) (a:m.u.aF.length≤500000):Calls prog 59 #[.pointer (some ⟨k.g,0,none⟩),.int .u8 ((cc R).toNat:Int)] w fun e w'=>e=.returned (.tuple #[])∧∃q',MX k (iy m R) q' w':=by
 by_cases hg:bU R=false∧kL (sp m) R=false
 ·exact Vx dp h d l f i c a hg
 cases hd:qh m.buf with
 |true=>exact Vy dp h d l f i c a hg hd
 |false=>
  cases hs:rD m.buf with
  |true=>exact VA dp h d l f i c a hg hd hs
  |false=>exact Vz dp h d l f i c a hg hd hs
end Xd
namespace acG
open Go.RowKit Base iw iI oQ mD jR ug
def Mine (w:World) (B:Nat) (l:List ByteArray) (e:Ending) (w':World):Prop:=∃v,e=.returned v∧w'.ownsRow B 9 1 v l.length (l.map Value.string)∧Below w.heap.size w w'
theorem IZ {w w':World} {B:Nat} {l:List ByteArray} {v:Value} {n:Nat} (h:w'.ownsRow w.heap.size 9 1 v n (l.map Value.string)) (d:B≤w.heap.size) (c:Below w.heap.size w w'):Mine w B l (.returned v) w':=by
 have a:l.length=n:=by have:=h.1;rwa[List.length_map,Nat.mul_one]at this
 exact⟨v,rfl,by rw[a];exact aH h d,c⟩
theorem CX (file:Bool) (B:Nat) (A:Option Addr) (n t:Nat) (l:List ByteArray) (w:World) (V:w.ownsRow B 9 1 (.slice A n t) n (l.map Value.string)) (X:B≤w.heap.size) (a1:n≤1000000):
  Calls prog 112 #[.bool file,.slice A n t] w (Mine w B (iW file l)):=by
 obtain⟨A',c',e',a0,O,C⟩:=aS V;cases e';have I:=hid X;obtain⟨Q,hi,H,G,F⟩:=info_parts iT;have W:=O;unfold maxLen at O;have v:l.length=n:=by rw[←C.1,List.length_map]
 have q:=Jd file C;obtain⟨m,z⟩:∃m,m=if keep file l then n else n - 1:=⟨_,rfl⟩
 rw[←z]at q;have E:=hid q;have N:m=(iW file l).length:=by rw[←q.1,List.length_map]
 have a2:m≤t:=by rw[z];split<;>omega
 have k:Hid (keep file l=true→Mine w B (iW file l) (.returned (.slice A n t)) w):=by
  intro h;have e:m=n:=by rw[z,if_pos h]
  rw[e]at q N;have es:iW file l=l:=by unfold iW;rw[if_pos h]
  exact⟨_,rfl,by rw[es,v];exact V,Below.refl _ _⟩
 have a3:m≤1000000:=by rw[z];split<;>omega
 generalize hS:iW file l=S at E k⊢;clear q N hS V X
 match l,v with
 |[],v=>
  obtain rfl:n=0:=by simpa using v.symm
  have D:=hid (k.out rfl);clear z v C k;go_enter func112,ntmps112;go_wp2;go_ret;exact D
 | [x],v=>
  obtain rfl:n=1:=by simpa using v.symm
  obtain⟨g,j,rfl,hg,f⟩:=C.spot (by omega);have T:=f 0 (by simp);rw[Nat.add_zero]at T;replace T:w.cell? ⟨g,j,none⟩=some (.string x):=T;cases file with
  |false=>
   obtain rfl:m=0:=by rw[z];rfl
   clear z v C f k;have c:(w.alloc (.cells #[] 9)).ownsRow w.heap.size 9 1 (.slice (some ⟨w.heap.size,0,none⟩) 0 0) 0 []:=World.ownsRow_made w #[] 0 (Nat.le_refl _) (by decide) rfl;have a:Below w.heap.size w (w.alloc (.cells #[] 9)):=(Below.refl _ _).alloc (Nat.le_refl _) _;have s:Hid (dV (w.alloc (.cells #[] 9)) (some ⟨g,j,none⟩) 0 (S.map Value.string)):=E.below a;go_enter func112,ntmps112;go_wp2_with (at_builtin;refine gX rfl _ _ 23 rfl w.heap.size 9 Q (.string ByteArray.empty) 16 underlying23 hi H G F rfl _ 0 [] rfl c a a.size (some ⟨g,j,none⟩) 0 t (S.map Value.string) rfl s (kK _) (by unfold maxLen;omega) (by omega) ?_)
   intro L J d i;have D:Hid (Mine w B S (.returned L) J):=IZ (by simpa using d) I i;clear c a s d;go_wp2;go_ret;exact D
  |true=>
   obtain⟨b,P⟩:∃b,b=wJ x.data.toList:=⟨_,rfl⟩;have Y:=hid P;cases b with
   |true=>
    have D:=hid (k.out (by show(true&&wJ x.data.toList)=true;rw[←P];rfl));clear z v C f P k;go_enter func112,ntmps112;go_wp2_with fail
    refine(jQ x _).mono ?_;rintro e Z ⟨rfl,rfl⟩;rw[←Y.out];go_wp2;go_ret;exact D
   |false=>
    obtain rfl:m=0:=by rw[z];show(if (true&&wJ x.data.toList)=true then 1 else 1 - 1)=0;rw[←P];rfl
    clear z v C f P k;have c:(w.alloc (.cells #[] 9)).ownsRow w.heap.size 9 1 (.slice (some ⟨w.heap.size,0,none⟩) 0 0) 0 []:=World.ownsRow_made w #[] 0 (Nat.le_refl _) (by decide) rfl;have a:Below w.heap.size w (w.alloc (.cells #[] 9)):=(Below.refl _ _).alloc (Nat.le_refl _) _;have s:Hid (dV (w.alloc (.cells #[] 9)) (some ⟨g,j,none⟩) 0 (S.map Value.string)):=E.below a;go_enter func112,ntmps112;go_wp2_with fail
    refine(jQ x _).mono ?_;rintro e Z ⟨rfl,rfl⟩;rw[←Y.out];go_wp2_with (at_builtin;refine gX rfl _ _ 23 rfl w.heap.size 9 Q (.string ByteArray.empty) 16 underlying23 hi H G F rfl _ 0 [] rfl c a a.size (some ⟨g,j,none⟩) 0 t (S.map Value.string) rfl s (kK _) (by unfold maxLen;omega) (by omega) ?_)
    intro L J d i;have D:Hid (Mine w B S (.returned L) J):=IZ (by simpa using d) I i;clear c a s d;go_wp2;go_ret;exact D
 |x::y::r,v=>
  have h2:2≤n:=by rw[←v];simp
  have HM:Hid (m=n - 1):=by show _=_;rw[z];rfl
  have q1:((n:Int)==0)=false:=by simp;omega
  have q2:((n:Int)==1)=false:=by simp;omega
  obtain⟨g,j,rfl,hg,f⟩:=C.spot (by omega);have q3:((n:Int) - 1).toNat=m:=by have:=HM.out;omega
  clear z v C f k;have c:(w.alloc (.cells #[] 9)).ownsRow w.heap.size 9 1 (.slice (some ⟨w.heap.size,0,none⟩) 0 0) 0 []:=World.ownsRow_made w #[] 0 (Nat.le_refl _) (by decide) rfl;have a:Below w.heap.size w (w.alloc (.cells #[] 9)):=(Below.refl _ _).alloc (Nat.le_refl _) _;have s:Hid (dV (w.alloc (.cells #[] 9)) (some ⟨g,j,none⟩) m (S.map Value.string)):=E.below a;cases file;all_goals
   go_enter func112,ntmps112;go_wp2_with (at_builtin;refine gX rfl _ _ 23 rfl w.heap.size 9 Q (.string ByteArray.empty) 16 underlying23 hi H G F rfl _ 0 [] rfl c a a.size (some ⟨g,j,none⟩) m t (S.map Value.string) rfl s (kK _) (by unfold maxLen;omega) (by omega) ?_)
   intro L J d i;have D:Hid (Mine w B S (.returned L) J):=IZ (by simpa using d) I i;clear c a s d;go_wp2;go_ret;exact D
end acG
