/- Lemmas. -/
import Derived.Test.YtmbpmbapelfobaaGreatDoorOTAAX
import Derived.Lib.SlTrimSet
set_option linter.unusedSimpArgs false
set_option linter.unusedVariables false
set_option maxRecDepth 100000
set_option maxHeartbeats 64000000
namespace Go.Proofs.YtmbpmbapelfobaaGreatDoor
open Tryz
namespace aeO
open Go.RowKit Base aV Ba YP kS Du jF aeN
theorem Wh (M:List Nat) (n:Nat) (c:n<65536):∃pre d,d<16∧jx (M++[n])=pre++[iR d]:=by
 obtain⟨pre,a⟩:=Zq n c;by_cases h2:M=[]
 ·refine⟨pre,n%16,Nat.mod_lt _ (by decide),?_⟩;rw[h2,List.nil_append,Jz,a]
 refine⟨jx M++58::pre,n%16,Nat.mod_lt _ (by decide),?_⟩;rw[zM _ _ h2,a];simp
theorem QK (L:List Nat) (h:L≠[]) (a:∀x ∈ L,x<65536):∃pre d,d<16∧jx L=pre++[iR d]:=by
 have:=Wh L.dropLast (L.getLast h) (a _ (List.getLast_mem h))
 rwa[List.dropLast_concat_getLast h]at this
def TT (L:List Nat) (a b k:Nat):List UInt8:=if k≤a then jx (L.take k)else jx (L.take a)++[58,58]++jx ((L.take k).drop b)
theorem yB (L:List Nat) (a b k:Nat) (h:L.length=8):(TT L a b k).length≤100:=by
 unfold TT;split
 ·have:=uH (L.take k);rw[List.length_take]at this;omega
 have d:=uH (L.take a);have c:=uH ((L.take k).drop b);rw[List.length_take]at d;rw[List.length_drop,List.length_take]at c;simp only[List.length_append,List.length_cons,List.length_nil];omega
theorem KO (L:List Nat) (a b x:Nat) (d:0<L.length) (c:L[0]=x) (e:0<a):TT L a b (0+1)=TT L a b 0++hx x:=by
 unfold TT;rw[if_pos (by omega),if_pos (by omega),qO L 0 d,c];rfl
theorem KP (L:List Nat) (a b k x:Nat) (d:k<L.length) (c:L[k]=x) (f:0<k) (e:k<a):TT L a b (k+1)=TT L a b k++[58]++hx x:=by
 unfold TT;rw[if_pos (by omega),if_pos (by omega),qO L k d,c,zM]
 ·simp
 intro h;have:=congrArg List.length h;rw[List.length_take,List.length_nil]at this;omega
theorem U9 (L:List Nat) (a b:Nat) (c:a<b):TT L a b b=TT L a b a++[58,58]:=by
 unfold TT;rw[if_neg (by omega),if_pos (Nat.le_refl _),List.drop_eq_nil_of_le (by rw[List.length_take];omega),OM,List.append_nil]
theorem Vb (L:List Nat) (a b x:Nat) (d:b<L.length) (c:L[b]=x) (e:a<b):TT L a b (b+1)=TT L a b b++hx x:=by
 unfold TT;rw[if_neg (by omega),if_neg (by omega),qO L b d,c,List.drop_append_of_le_length (by rw[List.length_take];omega),List.drop_eq_nil_of_le (by rw[List.length_take];omega),OM,List.nil_append,Jz];simp
theorem Va (L:List Nat) (a b k x:Nat) (d:k<L.length) (c:L[k]=x) (e:a<b) (f:b<k):TT L a b (k+1)=TT L a b k++[58]++hx x:=by
 unfold TT;rw[if_neg (by omega),if_neg (by omega),qO L k d,c,List.drop_append_of_le_length (by rw[List.length_take];omega),zM]
 ·simp
 intro h;have:=congrArg List.length h;rw[List.length_drop,List.length_take,List.length_nil]at this;omega
theorem Jh (L:List Nat) (a b k:Nat) (c:∀x ∈ L,x<65536) (j:k≤L.length) (h:(0<k∧k≤a)∨(a<b∧b<k)):∃pre d,d<16∧TT L a b k=pre++[iR d]:=by
 unfold TT;rcases h with⟨i,f⟩|⟨i,f⟩
 ·rw[if_pos f];refine QK _ ?_ (fun x hx=>c x (List.mem_of_mem_take hx));intro h;have:=congrArg List.length h;rw[List.length_take,List.length_nil]at this;omega
 rw[if_neg (by omega)];obtain⟨pre,d,g,e⟩:=QK ((L.take k).drop b) (by
  intro h;have:=congrArg List.length h;rw[List.length_drop,List.length_take,List.length_nil]at this;omega) (fun x hx=>c x (List.mem_of_mem_take (List.mem_of_mem_drop hx)))
 exact⟨jx (L.take a)++[58,58]++pre,d,g,by rw[e];simp⟩
theorem YR (L:List Nat) (h:L.length=8):TT L 8 9 8=jx L:=by
 unfold TT;rw[if_pos (by omega),List.take_of_length_le (by omega)]
theorem YS (L:List Nat) (a b:Nat) (h:L.length=8) (c:a<b) (d:b≤8):TT L a b 8=jx (L.take a)++[58,58]++jx (L.drop b):=by
 unfold TT;rw[if_neg (by omega),List.take_of_length_le (show L.length≤8 by omega)]
theorem last_at (X:ByteArray) (pre:List UInt8) (c:UInt8) (h:X=ah (pre++[c])):∃j:Nat,(X.size:Int) - 1=(j:Int)∧(j:Int)<(X.size:Int)∧∃hj:j<X.size,X[j]=c:=by
 subst h;refine⟨pre.length,?_,?_,?_,?_⟩
 ·rw[ak,List.length_append];simp
 ·rw[ak,List.length_append];show(pre.length:Int)<((pre.length+1:Nat):Int);omega
 ·rw[ak,List.length_append];simp
 show(pre++[c])[pre.length]=c;simp
theorem qp (f : Nat → Nat) (h6 : ∀ i, f i < 65536) (w : World) : Calls prog 169 #[A8 f] w fun e w' => e = .returned (.string (ah (prt f))) ∧ Below w.heap.size w w' := by
 obtain⟨P,hP⟩:∃P,P=prt f:=⟨_,rfl⟩;rw[←hP];have d0:=BL (f 0==0) (f 1==0) (f 2==0) (f 3==0) (f 4==0) (f 5==0) (f 6==0) (f 7==0);obtain⟨_,hb8,_,V⟩:=d0;replace hb8:(qP (zs f)).2≤8:=hb8;replace V:L9 (zs f)=if (qP (zs f)).2 - (qP (zs f)).1<2 then(none,1)else(some (qP (zs f)).1,(qP (zs f)).2 - (qP (zs f)).1):=V
 have H6:=hid h6;have c4:=hid (Ej h6);unfold prt at hP;obtain⟨a,ha⟩:∃a,a=(qP (zs f)).1:=⟨_,rfl⟩;obtain⟨b,hb⟩:∃b,b=(qP (zs f)).2:=⟨_,rfl⟩;rw[←ha,←hb]at hP V;rw[←hb]at hb8;obtain⟨Z,hZ⟩:∃Z,Z=zs f:=⟨_,rfl⟩;rw[←hZ]at V;have HZ:=hid hZ;have L:Hid (Z.length=8):=by show _=_;rw[hZ];rfl
 have HP:=hid hP;have d6:=hid V;have d9:=hid hb8;clear hZ ha hb hP V hb8 h6;have H:Hid ((V8 f).length=8):=rfl;unfold A8;go_enter func169,ntmps169;go_upto_region 1 with(fail)
 generalize hw1:w.alloc _=w1;have d3:Hid (Below w.heap.size w w1):=by
  show Below _ _ _;rw[←hw1];exact(Below.refl _ _).alloc (Nat.le_refl _) _
 have O:Hid (Box w1 w.heap.size 156 (V8 f)):=by
  show Box _ _ _ _;rw[←hw1];exact yY f
 clear hw1;go_wp2;go_loopw [3,4,5,6,9] (fun vf vl _ _ vk wr=>∃(fu k F:Nat) (fr:Option Nat),vk=.int .i64 (k:Int)∧vf=.int .i64 (GN fr)∧vl=.int .i64 (F:Int)∧fu+k=8∧F≤8∧wr=w1∧Hid (L9 Z=UJ Z fu k fr F)) (fun _ _ _ _ vk _=>8 - (intOf vk).toNat)
 case atStart=>exact⟨8,0,1,none,rfl,rfl,rfl,rfl,by omega,rfl,rfl⟩
 case round=>
  obtain⟨fu,k,F,fr,rfl,rfl,rfl,a8,c6,rfl,HW⟩:=hrel;by_cases hlt:k<8
  ·obtain ⟨E,rfl⟩:∃E,fu=E+1:=⟨fu - 1,by omega⟩;obtain⟨G,hG⟩:∃G,G=GN fr:=⟨_,rfl⟩;rw[←hG];have d2:=hid hG;have b3:=hid a8;clear hG a8;go_wp2;go_loopw [6] (fun vn wx=>∃n:Nat,k+n≤8∧vn=.int .i64 (n:Int)∧wx=wr∧Hid (run Z k=n+run Z (k+n))) (fun vn _=>8 - (intOf vn).toNat)
   case atStart=>exact⟨0,by omega,rfl,rfl,by show _=_;rw[Nat.add_zero];omega⟩
   case round =>
    obtain⟨n,e6,rfl,rfl,HR⟩:=hrel;by_cases hk:k+n<8
    ·have r:=O.cell (k+n) (by show k+n<8;exact hk);rw[lZ f (k+n) hk]at r;have c5:Z[k+n]'(by rw[L.out];exact hk)=(f (k+n)==0):=by
      have:=Qa f (k+n) hk (by rw[CG];exact hk);simp only[HZ.out];exact this
     have c2:=hid c5;obtain⟨x,hx⟩:∃x,f (k+n)=x:=⟨_,rfl⟩;rw[hx]at r c2;have c8:(k:Int)+(n:Int)<8:=by omega
     clear hx c5;by_cases hx0:x=0
     ·subst hx0;have d7:Hid (run Z k=(n+1)+run Z (k+(n+1))):=by
       show _=_;rw[HR.out,Nj (by rw[L.out];exact hk) (by rw[c2.out];rfl),show k+n+1=k+(n+1)by omega];omega
      rw[show((0:Nat):Int)=0 from rfl]at r;go_wp2;go_roundw
      case rel=>exact⟨n+1,by omega,by go_num,by first|rfl|trivial,d7⟩
      case measure=>simp[intOf];omega
     have e5:((x:Int)==0)=false:=by rw[Lc];simpa using hx0
     have e4:¬(x:Int)=0:=by omega
     have T:Hid (run Z k=n):=by
      show _=_;rw[HR.out,XB (by rw[L.out];exact hk) (by rw[c2.out];simpa using hx0)];rfl
     clear hx0;by_cases hgt:F<n
     ·have Q:Hid (L9 Z=UJ Z E (k+1) (some k) n):=by
       show _=_;rw[HW.out]
       conv=>lhs;unfold UJ
       rw[if_pos (by rw[L.out];exact hlt),T.out,if_pos hgt]
      have c1:(F:Int)<(n:Int):=by omega
      clear hgt;go_wp2;go_roundw
      case rel=>exact⟨E,k+1,n,some k,by go_num,rfl,rfl,by have:=b3.out;omega,by omega,by first|rfl|trivial,Q⟩
      case measure=>simp[intOf];omega
     have Q:Hid (L9 Z=UJ Z E (k+1) fr F):=by
      show _=_;rw[HW.out]
      conv=>lhs;unfold UJ
      rw[if_pos (by rw[L.out];exact hlt),T.out,if_neg hgt]
     have c1:¬(F:Int)<(n:Int):=by omega
     clear hgt;go_wp2;go_roundw
     case rel=>exact⟨E,k+1,F,fr,by go_num,by rw[d2.out],rfl,by have:=b3.out;omega,by omega,by first|rfl|trivial,Q⟩
     case measure=>simp[intOf];omega
    have c8:¬(k:Int)+(n:Int)<8:=by omega
    have T:Hid (run Z k=n):=by show _=_;rw[HR.out,run_end (by rw[L.out];omega)];rfl
    by_cases hgt:F<n
    ·have Q:Hid (L9 Z=UJ Z E (k+1) (some k) n):=by
      show _=_;rw[HW.out]
      conv=>lhs;unfold UJ
      rw[if_pos (by rw[L.out];exact hlt),T.out,if_pos hgt]
     have c1:(F:Int)<(n:Int):=by omega
     clear hgt;go_wp2;go_roundw
     case rel=>exact⟨E,k+1,n,some k,by go_num,rfl,rfl,by have:=b3.out;omega,by omega,by first|rfl|trivial,Q⟩
     case measure=>simp[intOf];omega
    have Q:Hid (L9 Z=UJ Z E (k+1) fr F):=by
     show _=_;rw[HW.out]
     conv=>lhs;unfold UJ
     rw[if_pos (by rw[L.out];exact hlt),T.out,if_neg hgt]
    have c1:¬(F:Int)<(n:Int):=by omega
    clear hgt;go_wp2;go_roundw
    case rel=>exact⟨E,k+1,F,fr,by go_num,by rw[d2.out],rfl,by have:=b3.out;omega,by omega,by first|rfl|trivial,Q⟩
    case measure=>simp[intOf];omega
  obtain rfl:k=8:=by omega
  obtain rfl:fu=0:=by omega
  have T:Hid (L9 Z=(fr,F)):=HW.out;have a6:(fr,F)=if b - a<2 then(none,1)else(some a,b - a):=by rw[←T.out,d6.out]
  by_cases hba:b - a<2
  ·rw [if_pos hba]at a6;injection a6 with hp1 hp2
   subst hp1;subst hp2;have c3:Hid (P=jx (V8 f)):=by show _=_;rw[HP.out,if_pos hba]
   rw[show GN none= -1 from rfl,show((1:Nat):Int)=1 from rfl,show((8:Nat):Int)=8 from rfl];clear hba c6 a8 hlt;go_wp2;go_loopw [7,8] (fun vo vk wx=>∃(k:Nat) (X:ByteArray),k≤8∧vk=.int .i64 (k:Int)∧vo=.string X∧wx=wr∧Hid (X=ah (TT (V8 f) 8 9 k))) (fun _ vk _=>8 - (intOf vk).toNat)
   case atStart=>exact⟨0,⟨#[]⟩,by omega,rfl,rfl,rfl,rfl⟩
   case round =>
    obtain⟨k,X,c9,rfl,rfl,rfl,I⟩:=hrel;have e8:((k:Int)== -1)=false:=by rw[beq_eq_false_iff_ne];omega
    have e2:¬(k:Int)= -1:=by omega
    by_cases hk:k<8
    ·by_cases hk0:k=0
     ·have a5:=hid hk0;have a7:¬(0:Int)<(k:Int):=by omega
      clear hk0;obtain⟨x,g⟩:∃x,f k=x:=⟨_,rfl⟩;have r:=O.cell k (by show k<8;exact hk);rw[lZ f k hk,g]at r;have C:Hid (x<65536):=by show _<_;rw[←g];exact H6 k
      have D:Hid ((V8 f)[k]'(by show k<8;exact hk)=x):=by show _=_;rw[lZ f k hk,g]
      obtain⟨q,h⟩:∃q,q=ah (TT (V8 f) 8 9 (k+1)):=⟨_,rfl⟩;have l:=(show TT (V8 f) 8 9 (k+1)=TT (V8 f) 8 9 k++hx x by have:=KO (V8 f) 8 9 x (by show 0<8;omega) (by have:=D.out;simp only[a5.out]at this;exact this) (by omega);rw[a5.out];exact this);have A:=rY x;have t:=yB (V8 f) 8 9 k H;have y:=hid h;have a2:∀w:World,(Op.stringOp .add X (ah (hx x))).run prog w=.ok (.string q) w:=fun w=>by
       rw[h,l,I.out];exact bH _ _ w (by omega)
      clear g h l A t;go_wp2_with fail
      refine(jH x x (Nat.le_refl _) C _).mono ?_;rintro e w2 ⟨rfl,z⟩;subst z;go_wp2;go_roundw
      case rel=>exact⟨k+1,q,by omega,by go_num,rfl,by first|rfl|trivial,y⟩
      case measure=>simp[intOf];omega
     have a7:(0:Int)<(k:Int):=by omega
     have a3:0<k:=by omega
     clear hk0;obtain⟨x,g⟩:∃x,f k=x:=⟨_,rfl⟩;have r:=O.cell k (by show k<8;exact hk);rw[lZ f k hk,g]at r;have C:Hid (x<65536):=by show _<_;rw[←g];exact H6 k
     have D:Hid ((V8 f)[k]'(by show k<8;exact hk)=x):=by show _=_;rw[lZ f k hk,g]
     obtain⟨q,h⟩:∃q,q=ah (TT (V8 f) 8 9 (k+1)):=⟨_,rfl⟩;have l:=KP (V8 f) 8 9 k x (by show k<8;exact hk) D a3 hk;have A:=rY x;have t:=yB (V8 f) 8 9 k H;have y:=hid h;obtain⟨pre,d,J,m⟩:=Jh (V8 f) 8 9 k c4 (by show k≤8;omega) (.inl ⟨a3,c9⟩);obtain⟨j,b9,b8,b7,W⟩:=last_at X pre (iR d) (by rw[I.out,m]);have B:=xB d J;obtain⟨c,v⟩:∃c,c=iR d:=⟨_,rfl⟩;rw[←v]at W B;have s:((c.toNat:Int)==58)=false:=by
      rw[beq_eq_false_iff_ne];intro e;exact B.2.2.1 (UInt8.toNat_inj.1 (by show _=58;omega))
     have a4:¬(c.toNat:Int)=58:=by simpa using s
     have N:((c.toNat:Int) !=58)=true:=by rw[bne,s];rfl
     obtain⟨Y,hY⟩:∃Y,Y=ah (TT (V8 f) 8 9 k++[58]):=⟨_,rfl⟩;have a1:∀w:World,(Op.stringOp .add X ⟨#[58]⟩).run prog w=.ok (.string Y) w:=fun w=>by
      rw[hY,I.out];exact bH _ [58] w (by simp;omega)
     have a2:∀w:World,(Op.stringOp .add Y (ah (hx x))).run prog w=.ok (.string q) w:=fun w=>by
      rw[h,l,hY];exact bH _ _ w (by rw[List.length_append];simp;omega)
     have c0:(0:Int)≤(j:Int):=by omega
     have sV:X.size≤200:=by rw[I.out,ak];omega
     have b6:(j:Int)≤200:=by omega
     clear sV;clear m B v hY;clear g h l A t;go_wp2_with fail
     refine(jH x x (Nat.le_refl _) C _).mono ?_;rintro e w2 ⟨rfl,z⟩;subst z;go_wp2;go_roundw
     case rel=>exact⟨k+1,q,by omega,by go_num,rfl,by first|rfl|trivial,y⟩
     case measure=>simp[intOf];omega
    obtain rfl:k=8:=by omega
    have HE:Hid (X=ah P):=by show _=_;rw[I.out,c3.out,YR _ H.out]
    go_wp2;go_ret;exact⟨by rw[HE.out];rfl,d3⟩
  rw[if_neg hba]at a6;injection a6 with hp1 hp2
  subst hp1;have c3:Hid (P=jx ((V8 f).take a)++[58,58]++jx ((V8 f).drop b)):=by show _=_;rw[HP.out,if_neg hba]
  rw[show GN (some a)=(a:Int)from rfl,show((8:Nat):Int)=8 from rfl];have hb8:=d9.out;have a0:a<b:=by omega
  have e7:a+F=b:=by omega
  clear hba hp2 c6 a8 hlt;go_wp2;go_loopw [7,8] (fun vo vk wx=>∃(k:Nat) (X:ByteArray),k≤8∧(k≤a∨b≤k)∧vk=.int .i64 (k:Int)∧vo=.string X∧wx=wr∧Hid (X=ah (TT (V8 f) a b k))) (fun _ vk _=>8 - (intOf vk).toNat)
  case atStart=>exact⟨0,⟨#[]⟩,by omega,by omega,rfl,rfl,rfl,by show _=_;unfold TT;rw[if_pos (Nat.zero_le _)];rfl⟩
  case round=>
   obtain⟨k,X,c9,c7,rfl,rfl,rfl,I⟩:=hrel;by_cases hk:k<8
   ·by_cases hka:k=a
    ·have d8:=hid hka;have d4:((k:Int)==(a:Int))=true:=by simp;omega
     have t:=yB (V8 f) a b a H;obtain⟨q,h⟩:∃q,q=ah (TT (V8 f) a b b):=⟨_,rfl⟩;have y:=hid h;have a1:∀w:World,(Op.stringOp .add X ⟨#[58,58]⟩).run prog w=.ok (.string q) w:=fun w=>by
      rw[h,U9 _ _ _ a0,I.out,d8.out];exact bH _ [58,58] w (by simp;omega)
     have a9:Hid ((k:Int)+(F:Int) - 1+1=(b:Int)):=by show _=_;omega
     have e1:(1:Int)≤(F:Int):=by omega
     have e0:(F:Int)≤8:=by omega
     have d1:Hid (k<b):=by show _<_;omega
     clear hka h t c7;go_wp2;go_roundw
     case rel=>exact⟨b,q,hb8,.inr (Nat.le_refl _),by first|exact int_eq a9|(have:=a9.out;go_num)|(congr 1;have:=a9.out;omega),rfl,by first|rfl|trivial,y⟩
     case measure=>(have:=a9.out;have:=d1.out;simp[intOf];omega)
    have d4:((k:Int)==(a:Int))=false:=by rw[beq_eq_false_iff_ne];omega
    have e3:¬(k:Int)=(a:Int):=by omega
    by_cases hlo:k<a
    ·by_cases hk0:k=0
     ·have a5:=hid hk0;have a7:¬(0:Int)<(k:Int):=by omega
      have d5:0<a:=by omega
      clear hk0 hka;obtain⟨x,g⟩:∃x,f k=x:=⟨_,rfl⟩;have r:=O.cell k (by show k<8;exact hk);rw[lZ f k hk,g]at r;have C:Hid (x<65536):=by show _<_;rw[←g];exact H6 k
      have D:Hid ((V8 f)[k]'(by show k<8;exact hk)=x):=by show _=_;rw[lZ f k hk,g]
      obtain⟨q,h⟩:∃q,q=ah (TT (V8 f) a b (k+1)):=⟨_,rfl⟩;have l:=(show TT (V8 f) a b (k+1)=TT (V8 f) a b k++hx x by have:=KO (V8 f) a b x (by show 0<8;omega) (by have:=D.out;simp only[a5.out]at this;exact this) d5;rw[a5.out];exact this);have A:=rY x;have t:=yB (V8 f) a b k H;have y:=hid h;have a2:∀w:World,(Op.stringOp .add X (ah (hx x))).run prog w=.ok (.string q) w:=fun w=>by
       rw[h,l,I.out];exact bH _ _ w (by omega)
      clear g h l A t;go_wp2_with fail
      refine(jH x x (Nat.le_refl _) C _).mono ?_;rintro e w2 ⟨rfl,z⟩;subst z;go_wp2;go_roundw
      case rel=>exact⟨k+1,q,by omega,.inl (by omega),by go_num,rfl,by first|rfl|trivial,y⟩
      case measure=>simp[intOf];omega
     have a7:(0:Int)<(k:Int):=by omega
     have a3:0<k:=by omega
     clear hk0 hka;obtain⟨x,g⟩:∃x,f k=x:=⟨_,rfl⟩;have r:=O.cell k (by show k<8;exact hk);rw[lZ f k hk,g]at r;have C:Hid (x<65536):=by show _<_;rw[←g];exact H6 k
     have D:Hid ((V8 f)[k]'(by show k<8;exact hk)=x):=by show _=_;rw[lZ f k hk,g]
     obtain⟨q,h⟩:∃q,q=ah (TT (V8 f) a b (k+1)):=⟨_,rfl⟩;have l:=KP (V8 f) a b k x (by show k<8;exact hk) D a3 hlo;have A:=rY x;have t:=yB (V8 f) a b k H;have y:=hid h;obtain⟨pre,d,J,m⟩:=Jh (V8 f) a b k c4 (by show k≤8;omega) (.inl ⟨a3,by omega⟩);obtain⟨j,b9,b8,b7,W⟩:=last_at X pre (iR d) (by rw[I.out,m]);have B:=xB d J;obtain⟨c,v⟩:∃c,c=iR d:=⟨_,rfl⟩;rw[←v]at W B;have s:((c.toNat:Int)==58)=false:=by
      rw[beq_eq_false_iff_ne];intro e;exact B.2.2.1 (UInt8.toNat_inj.1 (by show _=58;omega))
     have a4:¬(c.toNat:Int)=58:=by simpa using s
     have N:((c.toNat:Int) !=58)=true:=by rw[bne,s];rfl
     obtain⟨Y,hY⟩:∃Y,Y=ah (TT (V8 f) a b k++[58]):=⟨_,rfl⟩;have a1:∀w:World,(Op.stringOp .add X ⟨#[58]⟩).run prog w=.ok (.string Y) w:=fun w=>by
      rw[hY,I.out];exact bH _ [58] w (by simp;omega)
     have a2:∀w:World,(Op.stringOp .add Y (ah (hx x))).run prog w=.ok (.string q) w:=fun w=>by
      rw[h,l,hY];exact bH _ _ w (by rw[List.length_append];simp;omega)
     have c0:(0:Int)≤(j:Int):=by omega
     have sV:X.size≤200:=by rw[I.out,ak];omega
     have b6:(j:Int)≤200:=by omega
     clear sV;clear m B v hY;clear g h l A t;go_wp2_with fail
     refine(jH x x (Nat.le_refl _) C _).mono ?_;rintro e w2 ⟨rfl,z⟩;subst z;go_wp2;go_roundw
     case rel=>exact⟨k+1,q,by omega,.inl (by omega),by go_num,rfl,by first|rfl|trivial,y⟩
     case measure=>simp[intOf];omega
    have e9:b≤k:=by omega
    have a7:(0:Int)<(k:Int):=by omega
    by_cases hke:k=b
    ·have b0:=hid hke;clear hke hka hlo;obtain⟨x,g⟩:∃x,f k=x:=⟨_,rfl⟩;have r:=O.cell k (by show k<8;exact hk);rw[lZ f k hk,g]at r;have C:Hid (x<65536):=by show _<_;rw[←g];exact H6 k
     have D:Hid ((V8 f)[k]'(by show k<8;exact hk)=x):=by show _=_;rw[lZ f k hk,g]
     obtain⟨q,h⟩:∃q,q=ah (TT (V8 f) a b (k+1)):=⟨_,rfl⟩;have l:=(show TT (V8 f) a b (k+1)=TT (V8 f) a b k++hx x by have:=Vb (V8 f) a b x (by rw[←b0.out];show k<8;exact hk) (by have:=D.out;simp only[b0.out]at this;exact this) a0;rw[b0.out];exact this);have A:=rY x;have t:=yB (V8 f) a b k H;have y:=hid h;obtain⟨pre,m⟩:∃pre,TT (V8 f) a b k=pre++[58]:=⟨TT (V8 f) a b a++[58],by rw[b0.out,U9 _ _ _ a0];simp⟩;obtain⟨c,v⟩:∃c:UInt8,c=58:=⟨_,rfl⟩;obtain⟨j,b9,b8,b7,W⟩:=last_at X pre c (by rw[I.out,m,v]);have s:((c.toNat:Int)==58)=true:=by rw[v];rfl
     have N:((c.toNat:Int) !=58)=false:=by rw[v];rfl
     clear v;have a2:∀w:World,(Op.stringOp .add X (ah (hx x))).run prog w=.ok (.string q) w:=fun w=>by
      rw[h,l,I.out];exact bH _ _ w (by omega)
     have c0:(0:Int)≤(j:Int):=by omega
     have sV:X.size≤200:=by rw[I.out,ak];omega
     have b6:(j:Int)≤200:=by omega
     clear sV;clear m;clear g h l A t;go_wp2_with fail
     refine(jH x x (Nat.le_refl _) C _).mono ?_;rintro e w2 ⟨rfl,z⟩;subst z;go_wp2;go_roundw
     case rel=>exact⟨k+1,q,by omega,.inr (by omega),by go_num,rfl,by first|rfl|trivial,y⟩
     case measure=>simp[intOf];omega
    have b5:b<k:=by omega
    clear hke hka hlo;obtain⟨x,g⟩:∃x,f k=x:=⟨_,rfl⟩;have r:=O.cell k (by show k<8;exact hk);rw[lZ f k hk,g]at r;have C:Hid (x<65536):=by show _<_;rw[←g];exact H6 k
    have D:Hid ((V8 f)[k]'(by show k<8;exact hk)=x):=by show _=_;rw[lZ f k hk,g]
    obtain⟨q,h⟩:∃q,q=ah (TT (V8 f) a b (k+1)):=⟨_,rfl⟩;have l:=Va (V8 f) a b k x (by show k<8;exact hk) D a0 b5;have A:=rY x;have t:=yB (V8 f) a b k H;have y:=hid h;obtain⟨pre,d,J,m⟩:=Jh (V8 f) a b k c4 (by show k≤8;omega) (.inr ⟨a0,b5⟩);obtain⟨j,b9,b8,b7,W⟩:=last_at X pre (iR d) (by rw[I.out,m]);have B:=xB d J;obtain⟨c,v⟩:∃c,c=iR d:=⟨_,rfl⟩;rw[←v]at W B;have s:((c.toNat:Int)==58)=false:=by
     rw[beq_eq_false_iff_ne];intro e;exact B.2.2.1 (UInt8.toNat_inj.1 (by show _=58;omega))
    have a4:¬(c.toNat:Int)=58:=by simpa using s
    have N:((c.toNat:Int) !=58)=true:=by rw[bne,s];rfl
    obtain⟨Y,hY⟩:∃Y,Y=ah (TT (V8 f) a b k++[58]):=⟨_,rfl⟩;have a1:∀w:World,(Op.stringOp .add X ⟨#[58]⟩).run prog w=.ok (.string Y) w:=fun w=>by
     rw[hY,I.out];exact bH _ [58] w (by simp;omega)
    have a2:∀w:World,(Op.stringOp .add Y (ah (hx x))).run prog w=.ok (.string q) w:=fun w=>by
     rw[h,l,hY];exact bH _ _ w (by rw[List.length_append];simp;omega)
    have c0:(0:Int)≤(j:Int):=by omega
    have sV:X.size≤200:=by rw[I.out,ak];omega
    have b6:(j:Int)≤200:=by omega
    clear sV;clear m B v hY;clear g h l A t;go_wp2_with fail
    refine(jH x x (Nat.le_refl _) C _).mono ?_;rintro e w2 ⟨rfl,z⟩;subst z;go_wp2;go_roundw
    case rel=>exact⟨k+1,q,by omega,.inr (by omega),by go_num,rfl,by first|rfl|trivial,y⟩
    case measure=>simp[intOf];omega
   obtain rfl:k=8:=by omega
   have HE:Hid (X=ah P):=by show _=_;rw[I.out,c3.out,YS _ _ _ H.out a0 hb8]
   go_wp2;go_ret;exact⟨by rw[HE.out];rfl,d3⟩
end aeO
namespace jV
open Go.RowKit Base
theorem abr (c:Int) (w:World) (d:32≤c) (a:c≤126):Calls prog 120 #[.int .i64 0,.int .u8 c] w fun e w'=>e=.returned (.bool (iC 0 c))∧w=w':=by
 go_enter func120,ntmps120;go_wp2;all_goals
  go_ret;refine⟨aH ?_,rfl⟩;rw[afg];rw[Bool.eq_iff_iff];simp only[Bool.or_eq_true,beq_iff_eq,decide_eq_true_eq];constructor<;>intro h<;>first|trivial|omega
theorem afM (c:Int) (w:World) (d:32≤c) (a:c≤126):Calls prog 120 #[.int .i64 1,.int .u8 c] w fun e w'=>e=.returned (.bool (iC 1 c))∧w=w':=by
 go_enter func120,ntmps120;go_wp2;all_goals
  go_ret;refine⟨aH ?_,rfl⟩;rw[afh];unfold P1;rw[Bool.eq_iff_iff];simp only[Bool.or_eq_true,beq_iff_eq,decide_eq_true_eq];constructor<;>intro h<;>first|trivial|omega
theorem afN (c:Int) (w:World) (d:32≤c) (a:c≤126):Calls prog 120 #[.int .i64 2,.int .u8 c] w fun e w'=>e=.returned (.bool (iC 2 c))∧w=w':=by
 go_enter func120,ntmps120;go_wp2;all_goals
  go_ret;refine⟨aH ?_,rfl⟩;rw[afi];unfold P2;rw[Bool.eq_iff_iff];simp only[Bool.or_eq_true,beq_iff_eq,decide_eq_true_eq];constructor<;>intro h<;>first|trivial|omega
end jV
namespace aej
open Go.RowKit Base aV lX qy Ba fH kS Du jF jq Jc Gv pJ
theorem bV (N:List UInt8) (d:UInt8):Lib.hasSuffix (N++[d]) [93]=decide (d=93):=by
 unfold Lib.hasSuffix;rw[Bool.eq_iff_iff,List.isSuffixOf_iff_suffix,decide_eq_true_iff];constructor
 ·rintro⟨t,a⟩;have:=List.append_inj_right' a rfl;simp at this;exact this.symm
 rintro rfl;exact⟨N,rfl⟩
theorem acu {M:List UInt8} {c:UInt8} (h:(91::M).getLast?=some c) (a:c≠93):hbr M=none:=by
 rcases List.eq_nil_or_concat M with rfl|⟨N,d,rfl⟩
 ·rfl
 have:d=c:=by
  rw[List.concat_eq_append,←List.cons_append,List.getLast?_append]at h;simpa using h
 subst this;unfold hbr;rw[List.concat_eq_append,bV,decide_eq_false a];rfl
theorem Zn {M:List UInt8} (h:(91::M).getLast?=some 93):1≤M.length∧hbr M=addr (M.take (M.length - 1)):=by
 rcases List.eq_nil_or_concat M with rfl|⟨N,d,rfl⟩
 ·simp at h
 have:d=93:=by
  rw[List.concat_eq_append,←List.cons_append,List.getLast?_append]at h;simpa using h
 subst this;have a:Lib.hasSuffix (N++[93]) [93]=true:=by rw[bV];rfl
 refine⟨by simp,?_⟩;unfold hbr Lib.trimSuffix;rw[List.concat_eq_append,if_pos a,if_pos a];rfl
theorem Tz (s:ByteArray) (h:0<s.size):∃(j:Nat) (c:UInt8),(s.size:Int) - 1=(j:Int)∧s.size=j+1∧∃hj:j<s.size,s[j]=c∧s.data.toList.getLast?=some c:=by
 have a:s.data.toList.length=s.size:=Array.length_toList;refine⟨s.size - 1,s[s.size - 1],by omega,by omega,by omega,rfl,?_⟩;rw[List.getLast?_eq_getElem?,a];exact List.getElem?_eq_getElem (by rw[a];omega)
theorem Y3 (s:ByteArray) (M:List UInt8) (j:Nat) (h:s.data.toList=91::M) (c:s.size=j+1):(s.extract 1 j).data.toList=M.take (M.length - 1):=by
 have a:s.data.toList.length=s.size:=Array.length_toList;rw[ByteArray.data_extract];simp only[Array.toList_extract,List.extract_eq_take_drop];rw[h]at a⊢;simp at a⊢;rw[show M.length - 1=j - 1 by omega];omega
theorem J9 {s:ByteArray} (h:s.size=0):s.toList=[]:=by
 rw[Lib.toList_data];exact List.eq_nil_of_length_eq_zero (by rw[Array.length_toList];exact h)
theorem in0 (c:UInt8) (w:World):Calls prog 120 #[.int .i64 0,.int .u8 (c.toNat:Int)] w fun e w'=>e=.returned (.bool (jV.iC 0 c.toNat))∧w=w':=by
 by_cases hf:(c.toNat:Int)<32∨126<(c.toNat:Int)
 ·exact jV.JV 0 c.toNat w (by omega) (by omega) hf
 exact jV.abr c.toNat w (by omega) (by omega)
theorem Ls (s:ByteArray) (w:World) (a:s.size≤1073741824):Calls prog 65 #[.int .i64 0,.string s] w fun e w'=>e=.returned (.string (ah (aP.enc 0 s.data.toList)))∧Below w.heap.size w w':=AX.iw 0 s w a in0
theorem yH (s:ByteArray) (h:0<s.size) (hh:¬s.data.toList.head?=some 91):(s.toList==[])=false∧s.toList.isEmpty=false∧¬s.toList=[]∧∃x:UInt8,s[0]=x∧((x.toNat:Int)==91)=false∧¬(x.toNat:Int)=91:=by
 have g:s.data.toList.length=s.size:=Array.length_toList;obtain⟨a,r,d⟩:∃a r,s.data.toList=a::r:=by
  cases e:s.data.toList with
  |nil=>rw[e]at g;simp at g;omega
  |cons a r=>exact⟨a,r,rfl⟩
 have c:s[0]=a:=by
  have:s.data.toList[0]'(by omega)=s[0]:=rfl;rw[←this];simp only[d,List.getElem_cons_zero]
 have i:a≠91:=by
  intro e;rw[d,e]at hh;exact hh rfl
 have f:¬(a.toNat:Int)=91:=fun e=>i (UInt8.toNat_inj.1 (by show _=91;omega));rw[Lib.toList_data,d];exact⟨rfl,rfl,by simp,a,c,by rw[beq_eq_false_iff_ne];exact f,f⟩
theorem jS (s : ByteArray) (sp : Bool) (w : World) (N : s.size ≤ 900000) : Calls prog 146 #[.string s, .bool sp] w fun e w' => e = .returned (HV (aS s.data.toList sp)) ∧ Below w.heap.size w w' := by
 have hl:s.data.toList.length=s.size:=Array.length_toList;have m:=hid hl;obtain⟨H,G⟩:∃H,H=HV (aS s.data.toList sp):=⟨_,rfl⟩;rw[←G];have B:=hid N;clear hl;by_cases hh:s.data.toList.head?=some 91
 ·have g:H=HV (hbr s.data.toList.tail):=by rw[G];unfold aS;rw[if_pos hh]
  obtain⟨M,v⟩:∃M,s.data.toList=91::M:=by
   cases e:s.data.toList with
   |nil=>rw[e]at hh;cases hh
   |cons a r=>rw[e]at hh;simp at hh;exact⟨r,by rw[hh]⟩
  have h1:1≤s.size:=by rw[←m.out,v];simp
  rw[v]at g;replace g:H=HV (hbr M):=g;have b8:s[0]=91:=by
   have:s.data.toList[0]'(by rw[m.out];omega)=s[0]:=rfl;rw[←this];simp only[v,List.getElem_cons_zero]
  have hq:(s.toList==[])=false:=by
   rw[Lib.toList_data,v];rfl
  have O:s.toList.isEmpty=false:=by rw[Lib.toList_data,v];rfl
  have a4:¬s.toList=[]:=by rw[Lib.toList_data,v];simp
  obtain⟨j,c,d1,D,d0,c9,n⟩:=Tz s h1;rw[v]at n;have c8:(j:Int)<(s.size:Int):=by omega
  have d2:(0:Int)≤(j:Int):=by omega
  have b9:(j:Int)≤900000:=by omega
  have a9:(0:Int)<(s.size:Int):=by omega
  by_cases z:c=93
  ·rw [z] at n;obtain⟨a8,a0⟩:=Zn n;rw[a0]at g;have hX:=Y3 s M j v D;obtain⟨X,A⟩:∃X,X=s.extract 1 j:=⟨_,rfl⟩;have T:X.size≤1048576:=by rw[A,ByteArray.size_extract];omega
   rw[←A]at hX;rw[←hX]at g;have Q:2≤s.size:=by
    have:=m.out;rw[v]at this;simp at this;omega
   have d3:¬(s.size:Int)<2:=by omega
   have d4:(1:Int)≤(j:Int):=by omega
   have a7:((c.toNat:Int) !=93)=false:=by rw[z];rfl
   have l:=fun w=>YP.jS X w T;have a3:=hid A;clear G v n a8 a0 hX T A Q D z hh N;cases hv:six X.data.toList with
   |none=>
    have q:Hid (H=.tuple #[.string (ah []),.bool false]):=by show _=_;rw[g];unfold addr;rw[hv];rfl
    rw[hv]at l;obtain⟨f,hf⟩:∃f:Nat→Nat,V8 f=mM:=⟨fun _=>0,rfl⟩;have I:Hid (GK none=.tuple #[.agg #[.int .u16 (f 0:Int),.int .u16 (f 1:Int),.int .u16 (f 2:Int),.int .u16 (f 3:Int),.int .u16 (f 4:Int),.int .u16 (f 5:Int),.int .u16 (f 6:Int),.int .u16 (f 7:Int)],.bool false]):=by
     show GK none=.tuple #[.agg (bC (V8 f)).toArray,.bool false];rw[hf];rfl
    rw[I.out]at l;have HP:=hid l;clear l hv g hf;go_enter func146,ntmps146;go_wp2_with fail
    rw[←a3.out];refine(HP _).mono ?_;rintro e C ⟨rfl,t⟩;have y:=hid t;clear t;go_wp2;go_ret2;exact⟨by rw[q.out];rfl,y.alloc y.size _⟩
   |some V=>
    obtain⟨f,rfl,h6⟩:=D8 hv;have hE:H=.tuple #[.string (ah (91::(jF.prt f++[93]))),.bool true]:=by rw[g];unfold addr;rw[hv,←Ad];rfl
    rw[hv]at l;have I:Hid (GK (some (V8 f))=.tuple #[.agg #[.int .u16 (f 0:Int),.int .u16 (f 1:Int),.int .u16 (f 2:Int),.int .u16 (f 3:Int),.int .u16 (f 4:Int),.int .u16 (f 5:Int),.int .u16 (f 6:Int),.int .u16 (f 7:Int)],.bool true]):=rfl;rw[I.out]at l;have HP:=hid l;obtain⟨P,hP⟩:∃P,P=ah (jF.prt f):=⟨_,rfl⟩;have b3:Hid (∀w,Calls prog 169 #[A8 f] w fun e w'=>e=.returned (.string P)∧Below w.heap.size w w'):=by
     show ∀w,_;rw[hP];exact fun w=>aeO.qp f h6 w
    obtain⟨Y,hY⟩:∃Y,Y=ah (91::jF.prt f):=⟨_,rfl⟩;obtain⟨Z,hZ⟩:∃Z,Z=ah (91::(jF.prt f++[93])):=⟨_,rfl⟩;rw[←hZ]at hE;have a5:=JJ f;have a1:∀w:World,(Op.stringOp .add ⟨#[91]⟩ P).run prog w=.ok (.string Y) w:=fun w=>by
     rw[hY,hP];exact bH [91] _ w (by simp;omega)
    have a2:∀w:World,(Op.stringOp .add Y ⟨#[93]⟩).run prog w=.ok (.string Z) w:=fun w=>by
     rw[hZ,hY];exact bH (91::jF.prt f) [93] w (by simp;omega)
    have q:=hid hE;clear l hv g hE hP hY hZ a5 h6;go_enter func146,ntmps146;go_wp2_with fail
    rw[←a3.out];refine(HP _).mono ?_;rintro e C ⟨rfl,t⟩;have y:=hid t;clear t;go_upto_region 5 with(fail)
    generalize hw3:C.alloc _=w3;have b5:Hid (Below w.heap.size w w3):=by
     show Below _ _ _;rw[←hw3];exact y.alloc y.size _
    have b0:Hid (Box w3 C.heap.size 156 (V8 f)):=by
     show Box _ _ _ _;rw[←hw3];exact yY f
    clear hw3;obtain⟨c0,c1,c2,c3,c4,c5,c6,c7⟩:=dA b0 f rfl;go_wp2_with fail
    clear c0 c1 c2 c3 c4 c5 c6 c7;refine qV b5 (b3 _) fun w4 HB4=>?_;go_wp2;go_ret2;exact⟨by rw[q.out];rfl,HB4⟩
  rw[acu n z]at g;have q:Hid (H=.tuple #[.string (ah []),.bool false]):=g;have a7:((c.toNat:Int) !=93)=true:=by
   rw[bne_iff_ne];intro e;exact z (UInt8.toNat_inj.1 (by show _=93;omega))
  clear G v n g D z hh N;go_enter func146,ntmps146;go_wp2;go_ret2;exact⟨by rw[q.out];rfl,Below.refl _ _⟩
 cases sp with
 |true=>
  rw[G];exact aek.WW s w N hh
 | false=>
  have HH:Hid (H=HV (Rf s.data.toList)):=by show _=_;rw[G];unfold aS;rw[if_neg hh,if_neg (by simp)]
  clear G;rcases Nat.eq_zero_or_pos s.size with h0|h0
  ·have hq : s.toList = [] := J9 h0;have O:(s.toList==[])=true:=by rw[hq];rfl
   clear hh h0 N hq;go_enter func146,ntmps146;go_wp2;go_loopw [8,50] (fun _ vk wr=>∃k:Nat,k≤s.size∧vk=.int .i64 (k:Int)∧wr=w∧Hid (oks false (s.data.toList.take k)=true)) (fun _ vk _=>s.size - (intOf vk).toNat)
   case atStart=>exact⟨0,Nat.zero_le _,rfl,rfl,rfl⟩
   case round =>
    obtain⟨k,hk,rfl,rfl,HO⟩:=hrel;have a6:s.size≤900000:=B.out;by_cases hlt:k<s.size
    ·obtain ⟨c,z⟩:∃c,s[k]=c:=⟨_,rfl⟩;have h:k<s.data.toList.length:=by rw[m.out];exact hlt
     have i:s.data.toList[k]=c:=z;cases hf:yS false c with
     |true=>
      have q:Hid (H=.tuple #[.string (ah []),.bool false]):=by
       show _=_;rw[HH.out];unfold Rf;rw[uM false _ k h (by rw[i];unfold okb;rw[hf];rfl)];rfl
      have d:=fun w=>dV c false w;rw[hf]at d;have J:=hid d;clear h i hf d;go_wp2_with fail
      refine(J _).mono ?_;rintro e C ⟨rfl,rfl⟩;go_wp2;go_ret2;exact⟨by rw[q.out];rfl,Below.refl _ _⟩
     |false=>
      have HN:Hid (oks false (s.data.toList.take (k+1))=true):=by
       show _=_;rw[jR false _ k h,HO.out,i];unfold okb;rw[hf];rfl
      have d:=fun w=>dV c false w;rw[hf]at d;have J:=hid d;clear h i hf d;go_wp2_with fail
      refine(J _).mono ?_;rintro e C ⟨rfl,rfl⟩;go_wp2;go_roundw
      case rel=>exact⟨k+1,by omega,by go_num,by first|rfl|trivial,HN⟩
      case measure=>simp[intOf];omega
    have W:oks false s.data.toList=true:=by
     have:=HO.out;rw[List.take_of_length_le (by rw[m.out];omega)]at this;exact this
    obtain⟨R,F⟩:∃R:ByteArray,R=ah (aP.enc 0 s.data.toList):=⟨_,rfl⟩;have q:Hid (H=.tuple #[.string R,.bool true]):=by
     show _=_;rw[HH.out];unfold Rf;rw[if_pos W,F];rfl
    have L:Hid (∀w,Calls prog 65 #[.int .i64 0,.string s] w fun e w'=>e=.returned (.string R)∧Below w.heap.size w w'):=by
     show ∀w,_;rw[F];exact fun w=>Ls s w (by have:=B.out;omega)
    clear W F;go_wp2_with fail
    refine(L _).mono ?_;rintro e w3 ⟨rfl,E⟩;go_wp2;go_ret2;exact⟨by rw[q.out];rfl,E⟩
  obtain⟨hq,O,a4,x,b7,hx,b6⟩:=yH s h0 hh;have a9:(0:Int)<(s.size:Int):=by omega
  clear hh N;go_enter func146,ntmps146;go_wp2;go_loopw [8,50] (fun _ vk wr=>∃k:Nat,k≤s.size∧vk=.int .i64 (k:Int)∧wr=w∧Hid (oks false (s.data.toList.take k)=true)) (fun _ vk _=>s.size - (intOf vk).toNat)
  case atStart=>exact⟨0,Nat.zero_le _,rfl,rfl,rfl⟩
  case round =>
   obtain⟨k,hk,rfl,rfl,HO⟩:=hrel;have a6:s.size≤900000:=B.out;by_cases hlt:k<s.size
   ·obtain ⟨c,z⟩:∃c,s[k]=c:=⟨_,rfl⟩;have h:k<s.data.toList.length:=by rw[m.out];exact hlt
    have i:s.data.toList[k]=c:=z;cases hf:yS false c with
    |true=>
     have q:Hid (H=.tuple #[.string (ah []),.bool false]):=by
      show _=_;rw[HH.out];unfold Rf;rw[uM false _ k h (by rw[i];unfold okb;rw[hf];rfl)];rfl
     have d:=fun w=>dV c false w;rw[hf]at d;have J:=hid d;clear h i hf d;go_wp2_with fail
     refine(J _).mono ?_;rintro e C ⟨rfl,rfl⟩;go_wp2;go_ret2;exact⟨by rw[q.out];rfl,Below.refl _ _⟩
    |false=>
     have HN:Hid (oks false (s.data.toList.take (k+1))=true):=by
      show _=_;rw[jR false _ k h,HO.out,i];unfold okb;rw[hf];rfl
     have d:=fun w=>dV c false w;rw[hf]at d;have J:=hid d;clear h i hf d;go_wp2_with fail
     refine(J _).mono ?_;rintro e C ⟨rfl,rfl⟩;go_wp2;go_roundw
     case rel=>exact⟨k+1,by omega,by go_num,by first|rfl|trivial,HN⟩
     case measure=>simp[intOf];omega
   have W:oks false s.data.toList=true:=by
    have:=HO.out;rw[List.take_of_length_le (by rw[m.out];omega)]at this;exact this
   obtain⟨R,F⟩:∃R:ByteArray,R=ah (aP.enc 0 s.data.toList):=⟨_,rfl⟩;have q:Hid (H=.tuple #[.string R,.bool true]):=by
    show _=_;rw[HH.out];unfold Rf;rw[if_pos W,F];rfl
   have L:Hid (∀w,Calls prog 65 #[.int .i64 0,.string s] w fun e w'=>e=.returned (.string R)∧Below w.heap.size w w'):=by
    show ∀w,_;rw[F];exact fun w=>Ls s w (by have:=B.out;omega)
   clear W F;go_wp2_with fail
   refine(L _).mono ?_;rintro e w3 ⟨rfl,E⟩;go_wp2;go_ret2;exact⟨by rw[q.out];rfl,E⟩
end aej
namespace jV
open Go.RowKit Base
theorem afO (c:Int) (w:World) (d:32≤c) (a:c≤126):Calls prog 120 #[.int .i64 3,.int .u8 c] w fun e w'=>e=.returned (.bool (iC 3 c))∧w=w':=by
 go_enter func120,ntmps120;go_wp2;all_goals
  go_ret;refine⟨aH ?_,rfl⟩;rw[afj];unfold P3;rw[Bool.eq_iff_iff];simp only[Bool.or_eq_true,beq_iff_eq,decide_eq_true_eq];constructor<;>intro h<;>first|trivial|omega
theorem abt (c:Int) (w:World) (d:32≤c) (a:c≤126):Calls prog 120 #[.int .i64 4,.int .u8 c] w fun e w'=>e=.returned (.bool (iC 4 c))∧w=w':=by
 go_enter func120,ntmps120;go_wp2;all_goals
  go_ret;refine⟨aH ?_,rfl⟩;rw[afk];unfold P4;rw[Bool.eq_iff_iff];simp only[Bool.or_eq_true,beq_iff_eq,decide_eq_true_eq];constructor<;>intro h<;>first|trivial|omega
end jV
namespace jV
open Go.RowKit Base
theorem afP (c:Int) (w:World) (d:32≤c) (a:c≤126):Calls prog 120 #[.int .i64 5,.int .u8 c] w fun e w'=>e=.returned (.bool (iC 5 c))∧w=w':=by
 go_enter func120,ntmps120;go_wp2;all_goals
  go_ret;refine⟨aH ?_,rfl⟩;rw[afl];unfold P5;rw[Bool.eq_iff_iff];simp only[Bool.or_eq_true,beq_iff_eq,decide_eq_true_eq];constructor<;>intro h<;>first|trivial|omega
theorem afQ (c:Int) (w:World) (d:32≤c) (a:c≤126):Calls prog 120 #[.int .i64 6,.int .u8 c] w fun e w'=>e=.returned (.bool (iC 6 c))∧w=w':=by
 go_enter func120,ntmps120;go_wp2;all_goals
  go_ret;refine⟨aH ?_,rfl⟩;rw[afm];unfold P6;rw[Bool.eq_iff_iff];simp only[Bool.or_eq_true,beq_iff_eq,decide_eq_true_eq];constructor<;>intro h<;>first|trivial|omega
end jV
namespace aeC
open Go.RowKit
open Go.Proofs.YtmbpmbapelfobaaGreatDoor.vJ (Max)
variable {w w':World} {g:Nat} {cs ds:Array Value}
theorem WV {B n:Nat} {e:TypeId} {v:Value} {a:List Value} (h:w.ownsRow B e 1 v n a) (d:g<B) (c:Array Value):(w.setRow g c).ownsRow B e 1 v n a:=by
 refine⟨h.1,?_⟩;rcases h.2 with hn|⟨k,cap,cur,rfl,hb,hh,rest⟩
 ·exact .inl hn
 exact .inr ⟨k,cap,cur,rfl,hb,(setRow_other _ _ _ _ (show k≠g by omega)).trans hh,rest⟩
end aeC
namespace abQ
open Go.RowKit Base aV aC qB Ulw jY fF YA xQ yw YC
variable {k:K} {m:M} {q:Value} {w:World}
theorem Jw (x c:Int) (w:World):Calls prog 120 #[.int .i64 x,.int .u8 c] w fun e w'=>e=.returned (.bool (jV.iC x c))∧w=w':=by
 by_cases ho:x<0∨6<x
 ·exact jV.aaj x c w ho
 by_cases hf:c<32∨126<c
 ·exact jV.JV x c w (by omega) (by omega) hf
 have a:x=0∨x=1∨x=2∨x=3∨x=4∨x=5∨x=6:=by omega
 rcases a with rfl|rfl|rfl|rfl|rfl|rfl|rfl
 ·exact jV.abr c w (by omega) (by omega)
 ·exact jV.afM c w (by omega) (by omega)
 ·exact jV.afN c w (by omega) (by omega)
 ·exact jV.afO c w (by omega) (by omega)
 ·exact jV.abt c w (by omega) (by omega)
 ·exact jV.afP c w (by omega) (by omega)
 exact jV.afQ c w (by omega) (by omega)
theorem dp:Dp:=⟨fun x c w=>Jw x _ w,fun s b w h=>aej.jS s b w h⟩
theorem aaM {base:Option U} {R:List UInt8} (a:0≤m.p): -1 - (m.buf.length:Int)≤(aX base m R).p:=by
 unfold aX;split
 all_goals(first|unfold kX|unfold eX|unfold wO|unfold jA|unfold kW|unfold lJ|unfold jc|unfold Dy|unfold kK|unfold kL|unfold gW|unfold jh|unfold dN|unfold dB|unfold dX|unfold iF|unfold qJ|unfold pI|unfold wM|skip)
 all_goals(try dsimp only)
 all_goals repeat' split
 all_goals(try simp only[wZ,mv,fail,begin',meet,lN,Ql,if_true,if_false,Bool.false_eq_true])
 all_goals(repeat' split)
 all_goals omega
def Pm (k:K) (s:Bs) (o:Option U) (w:World) (i:Nat):Prop:=∃m q,MX k m q w∧Inv s k.T m∧GI k.T k.base i m o
theorem ae6 {C:List UInt8} {j:Nat} {R:List UInt8} (h:C.drop j=R):decide ((C.length:Int)≤(j:Int))=decide (R=[]):=by
 rw[←h,Bool.eq_iff_iff];simp only[decide_eq_true_eq,List.drop_eq_nil_iff];omega
theorem TM {B n g:Nat} {e:TypeId} {v:Value} {a:List Value} (h:w.ownsRow B e 1 v n a) (d:g<B) (c:Array Value):(w.setRow g c).ownsRow B e 1 v n a:=aeC.WV h d c
def ag4 (w:World) (o:Option U) (e:Ending) (w':World):Prop:=Below w.heap.size w w'∧∃A n c,e=.returned (.tuple #[.agg (cells (o.getD U0) (.slice A n c)),.int .i64 (if o.isSome=true then 0 else 2)])∧fK w' (o.getD U0) A n c
theorem refN_any (T:List UInt8) (w:World) (hs:T.length≤65536):Calls prog 6 #[.string (ah T),.pointer none] w (ag4 w (aC.url T none)):=by
 have e5:=KE.qg T;obtain⟨C,hC⟩:∃x,x=clean T:=⟨_,rfl⟩;rw[←hC]at e5;obtain⟨o,ho⟩:∃x,x=aC.url T none:=⟨_,rfl⟩;obtain⟨s,d9⟩:∃s:Bs,s=⟨0,0,0⟩:=⟨_,rfl⟩;have a8:∃i,GI C none i NU.m0 o:=by
  rw[hC,ho];exact IW (NU.QT (fun _ e=>by cases e) T)
 have e0:∀x,none=some x→RN s x:=fun _ e=>by cases e
 have f1:=hid e0;have F:=hid a8;have d3:Hid (s.u≤1000000∧s.t≤1000000∧s.p≤100000):=by show _∧_∧_;rw[d9];decide
 have f9:Hid (C.length≤200000):=by show _≤_;omega
 have d7:Hid (∀w:World,Calls prog 15 #[.string (ah T)] w fun e w'=>e=.returned (.string (ah C))∧Below w.heap.size w w'):=fun w=>by rw[hC];exact aeu.JQ T w (by omega)
 have b5:((ah T).size:Int)≤65536:=by rw[ak];omega
 have e6:¬(65536:Int)<((ah T).size:Int):=by omega
 obtain⟨X,hX⟩:∃X,X=ah T:=⟨_,rfl⟩;rw[←hX]at e6 b5 d7;rw[←hX,←ho];clear hC ho d9 a8 e0 e5 hs hX;go_enter func6,ntmps6;go_upto_region 1 with(fail)
 generalize hw:World.alloc w _=w1;have h1:UB w1 w.heap.size U0 (.slice none 0 0)∧Below w.heap.size w w1:=by
  subst hw;exact iG w _ _
 clear hw;have e7:=hid h1.1;have g1:=hid h1.2;clear h1;go_wp2_with fail
 refine(d7.out _).mono ?_;rintro e w2 ⟨rfl,d0⟩;have d1:=hid (e7.out.below d0);have g0:=hid (bD g1.out d0);have f7:Hid (w.heap.size<w2.heap.size):=d1.out.lt;clear e7 g1 d0;go_upto_region 4 with(fail)
 obtain⟨k0,d⟩:∃k:K,k={g:=w2.heap.size,B:=w2.heap.size,T:=C,base:=none,A:=none,n:=0,c:=0,w0:=w2}:=⟨_,rfl⟩;generalize hw:World.alloc w2 _=w3;have f6:Hid (MX k0 NU.m0 (.slice none 0 0) w3):=by
  show MX _ _ _ _;rw[d,←hw];exact⟨(iG w2 _ _).1,World.ownsRow_nil _ _ _ _,(iG w2 _ _).2,Nat.le_refl _⟩
 clear hw;obtain⟨k,V⟩:∃k:K,k=k0:=⟨_,rfl⟩;have e3:k.g=w2.heap.size:=by rw[V,d]
 have a4:k.w0=w2:=by rw[V,d]
 have Q:k.B=w2.heap.size:=by rw[V,d]
 have b8:k.T=C:=by rw[V,d]
 have a6:k.base=none:=by rw[V,d]
 have i1:Hid (KB k):=by
  show KB k;have e1:k.b=U0:=by unfold K.b;rw[a6];rfl
  exact⟨by rw[e1,V,d];exact dW.nil _,by rw[V,d];exact Nat.le_refl _,by rw[V,d];exact Nat.zero_le _,by rw[a4,Q];exact Nat.le_refl _⟩
 have i0:Hid (k.n≤400000):=by show _≤_;rw[V,d];exact Nat.zero_le _
 have f4:Hid (MX k NU.m0 (.slice none 0 0) w3):=by show MX _ _ _ _;rw[V];exact f6.out
 clear V d f6;go_upto_region 6 with(fail)
 rw[←e3];have b6:Hid (∃i,Pm k s o w3 i):=by
  obtain⟨i,hi⟩:=F.out;exact⟨i,_,_,f4.out,⟨Nat.zero_le _,.inr ⟨by decide,by show(0:Int)≤_;omega,⟨by decide,by decide,by show((0:Nat):Int)+((0:Nat):Int)+9*((0:Nat):Int)≤(s.u:Int)+9*((0:Int)+1);omega,by show((0:Nat):Int)≤(s.t:Int)+3*((0:Int)+1);omega,by show((0:Nat):Int)≤(s.p:Int)+1+((0:Int)+1);omega,fun _=>⟨rfl,rfl,rfl⟩,fun _=>⟨rfl,rfl⟩⟩,(fun e=>by cases e)⟩⟩,by rw[b8,a6];exact hi⟩
 have d2:Hid (∀(m':M) (q':Value) (w':World),MX k m' q' w'→UB w' w.heap.size U0 (.slice none 0 0)):=fun m' q' w' h=>by
  have h2:=h.bD;rw[Q,a4]at h2;exact d1.out.below h2
 have d8:Hid (∀(m':M) (q':Value) (w':World),MX k m' q' w'→Below w.heap.size w w'):=fun m' q' w' h=>by
  have h2:=h.bD;rw[Q,a4]at h2;exact bD g0.out h2
 have h9:Hid (w.heap.size<k.B):=by show _<_;rw[Q];exact f7.out
 have a7:Hid (k.T.length≤200000):=by show _≤_;rw[b8];exact f9.out
 have f0:Hid (∀x,k.base=some x→RN s x):=by show ∀x,_;rw[a6];exact f1.out
 clear e3 a4 Q b8 a6 f4 F d1 g0 f7 f9 d7 f1 e6 b5;go_loopw [7] (fun _ wr=>Hid (∃i,Pm k s o wr i)) (fun _ wr=>least (Pm k s o wr))
 case atStart=>exact b6
 case round=>
  clear b6;have h7:=hid hrel.out;clear hrel;obtain⟨i,f⟩:∃i,i=least (Pm k s o wr):=⟨_,rfl⟩;obtain⟨m,q,a5,r,O⟩:=Wj h7.out;rw[←f]at O;have i2:=hid f;have l:=hid a5;have F:=hid O;have f8:=hid r;have G:Hid (∀n q' w',MX k n q' w'→IE k.T k.base m=.go n→(∃i,Pm k s o w' i)∧least (Pm k s o w')<least (Pm k s o wr)):=fun n q' w' h e=>by
   obtain⟨j,hj,hr⟩:=XA F.out e;have hp:Pm k s o w' j:=⟨n,q',h,V5 f0.out f8.out e,hr⟩;exact⟨⟨j,hp⟩,by have:=least_le hp;rw[←i2.out];omega⟩
  obtain⟨st,aS⟩:∃st,m.st=st:=⟨_,rfl⟩;obtain⟨z,E⟩:∃z,m.p=z:=⟨_,rfl⟩;have d5:=hid aS;have HZ:=hid E;by_cases h19:st=19
  ·have ho:o=none:=by
    refine(run_end F.out ?_).symm;unfold IE;rw[if_pos (aS.trans h19)]
   subst h19;have HO:=hid ho;clear a5 r O f aS E ho;have c2:=l.out.x2;rw[d5.out]at c2;have XU:=hid (d2.out _ _ _ l.out);have a2:=hid (d8.out _ _ _ l.out);go_wp2_with (refine aJ XU.out U0 none 0 0 (.tmp 4) (.tmp 67) rfl rfl rfl rfl ?_)
   try simp only[Exit.inBlock,Exit.then]
   refine bodyPost_ret (AZ.JX (u:=U0) (p:=.slice none 0 0) rfl (XU.out.row U0 _) 2 _ rfl rfl) rfl ?_;rw[HO.out];exact⟨below_setRow a2.out (Nat.le_refl _) _,none,0,0,rfl,Ri _ rfl⟩
  have i6:((st:Int)==19)=false:=by simp;omega
  have i4:((st:Int) !=19)=true:=by simp;omega
  have N:st<19:=by rcases r with⟨h,_⟩;rw[aS]at h;omega
  have b9: -1≤z∧z≤k.T.length∧Bq s m (z+1)∧(st=10→m.buf.all jW=true):=by
   rcases r with⟨_,h|h⟩
   ·exact absurd (aS.symm.trans h) h19
   rw[aS,E]at h;exact h
  have i7:z≤200000:=by have:=a7.out;omega
  have i8: -1≤z:=b9.1;have H:=hid b9;have f2:=hid N;clear b9 N;by_cases hneg:z<0
  ·have g2:z= -1:=by omega
   have g6:¬(0:Int)≤z:=by omega
   have v:Hid (IE k.T k.base m=.go {m with p:=z+1}):=by
    show _=_;unfold IE;rw[if_neg (by rw[aS];exact h19),if_pos (by rw[E];exact hneg),E]
   clear a5 r O f aS E h19 g2 hneg;have c2:=l.out.x2;have I:=l.out.x1;have z1:=l.out.thaw 1;rw[d5.out]at c2;rw[HZ.out]at I;have f5:=hid (l.out.p (z+1));go_wp2;go_roundw
   case rel=>exact(G.out _ _ _ f5.out v.out).1
   case measure=>exact(G.out _ _ _ f5.out v.out).2
  obtain⟨j,hj⟩:∃j:Nat,z=(j:Int):=⟨z.toNat,by omega⟩;subst hj;obtain⟨R,hR⟩:∃R,k.T.drop j=R:=⟨_,rfl⟩;have HR:=hid hR;obtain⟨e,he⟩:∃e,decide (R=[])=e:=⟨_,rfl⟩;have HE:=hid he;obtain⟨m2,P⟩:∃x,aX k.base m R=x:=⟨_,rfl⟩;have h8:=hid P;obtain⟨z2,a3⟩:∃z,m2.p=z:=⟨_,rfl⟩;have y:=hid a3;have g6:(0:Int)≤(j:Int):=by omega
  have e4:j≤k.T.length:=by have:=H.out.2.1;omega
  have b3:m.buf.length≤900000:=by have:=H.out.2.2.1.buf;omega
  have j0: -900002≤z2:=by have:=aaM (m:=m) (base:=k.base) (R:=R) (by rw[E];omega);rw[P,a3]at this;omega
  have j1:z2≤200001:=by
   have:=X7 (m:=m) (base:=k.base) (R:=R) (by rw[E];omega);rw[P,a3,E]at this;rcases this with h|⟨_,h⟩<;>omega
  have L:=fun(w':World) (h:MX k m q w')=>aes.ado dp h E hR (by have:=a7.out;omega) e4 b3 (by have:=H.out.2.2.1.tx;have:=d3.out;omega) (by rw[aS];exact H.out.2.2.2) (by omega) i1.out i0.out (by have:=a7.out;omega) (by have:=H.out.2.2.1.pt;have:=d3.out;omega) (by have:=H.out.2.2.1.cr;have:=d3.out;omega) (by rw[aS];exact f2.out);have d4:=hid L;have e2:IE k.T k.base m=jY.out k.T e m2:=by
   unfold IE;rw[if_neg (by rw[aS];exact h19),if_neg (by rw[E];omega),E,Int.toNat_natCast,hR,P,ae6 hR,he]
  have Z:=hid e2;have i3:Hid ((ah k.T).size=k.T.length):=ak _;obtain⟨TL,W⟩:∃x,k.T.length=x:=⟨_,rfl⟩;have Y:=hid W;have e8:Hid (TL≤200000):=by show _≤_;rw[←W];exact a7.out
  clear a5 r O f aS E h19 hneg hR he P a3 e4 b3 L e2 W;have c2:=l.out.x2;have I:=l.out.x1;rw[d5.out]at c2;rw[HZ.out]at I;go_wp2_with fail
  clear I c2;refine dP l (lD l.out HZ.out HR.out HE.out) fun w5 HMX5=>?_;go_wp2_with fail
  refine(d4.out _ HMX5.out).mono ?_;rintro e_ w6 ⟨rfl,q2,b7⟩;rw[h8.out]at b7;have a1:=hid b7;clear b7;rcases e with _|_
  ·have v:Hid (IE k.T k.base m=.go {m2 with p:=z2+1}):=by
    show _=_;rw[Z.out,nC (.inl rfl),y.out]
   go_wp2
   go_quiet (fail)
   generalize hwd:World.drewN w6 _=w7;have a:Hid (MX k m2 q2 w7):=by show MX _ _ _ _;rw[←hwd];exact a1.out.below (Base.below_drewN (Below.refl _ _) _)
   clear hwd;have I:=a.out.x1;have z1:=a.out.thaw 1;rw[y.out]at I;have a0:=hid (a.out.p (z2+1));go_wp2;go_roundw
   case rel=>exact(G.out _ _ _ a0.out v.out).1
   case measure=>exact(G.out _ _ _ a0.out v.out).2
  have c0:=a1.out.x0;have I:=a1.out.x1;rw[y.out]at I;have c3:=i3.out;rw[Y.out]at c3;have i9:=e8.out;by_cases hend:(TL:Int)≤z2
  ·have ho:jY.ans m2=o:=by
    refine run_end F.out ?_;rw[Z.out,out_stop (by rw[Y.out,y.out];exact hend)]
   have HO:=hid ho;clear ho;go_wp2
   go_quiet (fail)
   clear c0 I c3;generalize hwd:World.drewN w6 _=w7;have a:Hid (MX k m2 q2 w7):=by show MX _ _ _ _;rw[←hwd];exact a1.out.below (Base.below_drewN (Below.refl _ _) _)
   clear hwd;obtain⟨sv,J⟩:∃x,m2.st=x:=⟨_,rfl⟩;have e9:=hid J;by_cases h19:sv=19
   ·subst h19;have d6:Hid (o=none):=by show _=_;rw[←HO.out];unfold jY.ans;rw[if_pos J]
    clear J HO;have HO:=d6;have c2:=a.out.x2;rw[e9.out]at c2;have XU:=hid (d2.out _ _ _ a.out);have a2:=hid (d8.out _ _ _ a.out);go_wp2_with (refine aJ XU.out U0 none 0 0 (.tmp 4) (.tmp 67) rfl rfl rfl rfl ?_)
    try simp only[Exit.inBlock,Exit.then]
    refine bodyPost_ret (AZ.JX (u:=U0) (p:=.slice none 0 0) rfl (XU.out.row U0 _) 2 _ rfl rfl) rfl ?_;rw[HO.out];exact⟨below_setRow a2.out (Nat.le_refl _) _,none,0,0,rfl,Ri _ rfl⟩
   have d6:Hid (o=some m2.u):=by show _=_;rw[←HO.out];unfold jY.ans;rw[if_neg (by rw[J];exact h19)]
   have i5:((sv:Int)==19)=false:=by simp;omega
   clear J h19;have c2:=a.out.x2;rw[e9.out]at c2;have XU:=hid (d2.out _ _ _ a.out);have a2:=hid (d8.out _ _ _ a.out);obtain⟨u,hu⟩:∃u,m2.u=u:=⟨_,rfl⟩;have D:=hid hu;obtain⟨pA,pc,g5,g3,g4,_⟩:=aW a.out.own;subst g5;obtain⟨pn,a9⟩:∃x,m2.u.aF.length=x:=⟨_,rfl⟩;have f3:=hid a9;clear hu g3 g4 a9;have c4:=a.out.x4;rw[D.out]at c4;have c5:=a.out.x5;rw[D.out]at c5;have c6:=a.out.x6;rw[D.out]at c6;have c7:=a.out.x7;rw[D.out]at c7;have c8:=a.out.x8;rw[D.out]at c8;have c9:=a.out.x9;rw[D.out]at c9;have h6:=a.out.x10;rw[D.out]at h6;have h5:=a.out.x11;rw[D.out]at h5;have h4:=a.out.x12;rw[f3.out]at h4;have h0:=a.out.x13;rw[D.out]at h0;have g9:=a.out.x14;rw[D.out]at g9;have g8:=a.out.x15;rw[D.out]at g8;have g7:=a.out.x16;rw[D.out]at g7;go_wp2_with (refine aJ XU.out u pA pn pc (.tmp 4) (.tmp 71) rfl rfl rfl rfl ?_)
   try simp only[Exit.inBlock,Exit.then]
   have b0:=TM a.out.own h9.out (cells u (.slice pA pn pc));refine bodyPost_ret (AZ.JX (u:=u) (p:=.slice pA pn pc) rfl (XU.out.row u _) 0 _ rfl rfl) rfl ?_;rw[d6.out,D.out];refine⟨below_setRow a2.out (Nat.le_refl _) _,pA,pn,pc,rfl,?_⟩;rw[f3.out,D.out]at b0;obtain⟨A',c',e',h1,h2,h3⟩:=aW b0;cases e';exact⟨h3,h1,h2⟩
  have v:Hid (IE k.T k.base m=.go {m2 with p:=z2+1}):=by
   show _=_;rw[Z.out,nC (.inr (by rw[Y.out,y.out];omega)),y.out]
  go_wp2
  go_quiet (fail)
  clear c0 I c3;generalize hwd:World.drewN w6 _=w7;have a:Hid (MX k m2 q2 w7):=by show MX _ _ _ _;rw[←hwd];exact a1.out.below (Base.below_drewN (Below.refl _ _) _)
  clear hwd;have I:=a.out.x1;have z1:=a.out.thaw 1;rw[y.out]at I;have a0:=hid (a.out.p (z2+1));go_wp2;go_roundw
  case rel=>exact(G.out _ _ _ a0.out v.out).1
  case measure=>exact(G.out _ _ _ a0.out v.out).2
theorem mD {T:ByteArray} {u:U} (d:aC.url T.data.toList none=some u) (a:T.size≤65536) (w:World):Calls prog 6 #[.string T,.pointer none] w fun e w'=>∃A' n' c',e=.returned (.tuple #[.agg #[.string (ah u.au),.string (ah u.bT),.string (ah u.bW),.string (ah u.aS),.bool u.hh,.int .i64 u.port,.bool u.bP,.string (ah u.txt),.slice A' n' c',.bool u.hq,.bool u.hf,.string (ah u.bQ),.string (ah u.dY)],.int .i64 0])∧Pt w' u A' n' c'∧Below w.heap.size w w':=by
 have h:=refN_any T.data.toList w (by rw[dl];exact a);rw[bF,d]at h;exact h.mono fun e w' ⟨h1,A,n,c,h2,h3⟩=>⟨A,n,c,h2,⟨h3⟩,h1⟩
theorem rP {T:ByteArray} {u:U} (a:u=U0) (f:aC.url T.data.toList none=none) (d:T.size≤65536) (w:World):Calls prog 6 #[.string T,.pointer none] w fun e w'=>∃A' n' c',e=.returned (.tuple #[.agg #[.string (ah u.au),.string (ah u.bT),.string (ah u.bW),.string (ah u.aS),.bool u.hh,.int .i64 u.port,.bool u.bP,.string (ah u.txt),.slice A' n' c',.bool u.hq,.bool u.hf,.string (ah u.bQ),.string (ah u.dY)],.int .i64 2])∧Pt w' u A' n' c'∧Below w.heap.size w w':=by
 subst a;have h:=refN_any T.data.toList w (by rw[dl];exact d);rw[bF,f]at h;exact h.mono fun e w' ⟨h1,A,n,c,h2,h3⟩=>⟨A,n,c,h2,⟨h3⟩,h1⟩
end abQ
