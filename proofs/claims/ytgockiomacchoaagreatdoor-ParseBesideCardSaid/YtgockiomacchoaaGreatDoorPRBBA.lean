/- Lemmas. -/
import Derived.Test.YtgockiomacchoaaGreatDoorPRBAZ
import Derived.Lib.SlTrimSet
set_option linter.unusedSimpArgs false
set_option linter.unusedVariables false
set_option maxRecDepth 100000
set_option maxHeartbeats 64000000
namespace Go.Proofs.YtgockiomacchoaaGreatDoor
open Tryz
namespace acN
open Go.RowKit Base bf Ba Xr mY Dj jD acM
theorem U1 (M:List Nat) (n:Nat) (c:n<65536):∃pre d,d<16∧jx (M++[n])=pre++[iO d]:=by
 obtain⟨pre,a⟩:=XW n c;by_cases h2:M=[]
 ·refine⟨pre,n%16,Nat.mod_lt _ (by decide),?_⟩;rw[h2,List.nil_append,IW,a]
 refine⟨jx M++58::pre,n%16,Nat.mod_lt _ (by decide),?_⟩;rw[zU _ _ h2,a];simp
theorem PS (L:List Nat) (h:L≠[]) (a:∀x ∈ L,x<65536):∃pre d,d<16∧jx L=pre++[iO d]:=by
 have:=U1 L.dropLast (L.getLast h) (a _ (List.getLast_mem h))
 rwa[List.dropLast_concat_getLast h]at this
def TT (L:List Nat) (a b k:Nat):List UInt8:=if k≤a then jx (L.take k)else jx (L.take a)++[58,58]++jx ((L.take k).drop b)
theorem yK (L:List Nat) (a b k:Nat) (h:L.length=8):(TT L a b k).length≤100:=by
 unfold TT;split
 ·have:=uI (L.take k);rw[List.length_take]at this;omega
 have d:=uI (L.take a);have c:=uI ((L.take k).drop b);rw[List.length_take]at d;rw[List.length_drop,List.length_take]at c;simp only[List.length_append,List.length_cons,List.length_nil];omega
theorem JV (L:List Nat) (a b x:Nat) (d:0<L.length) (c:L[0]=x) (e:0<a):TT L a b (0+1)=TT L a b 0++hx x:=by
 unfold TT;rw[if_pos (by omega),if_pos (by omega),qK L 0 d,c];rfl
theorem JW (L:List Nat) (a b k x:Nat) (d:k<L.length) (c:L[k]=x) (f:0<k) (e:k<a):TT L a b (k+1)=TT L a b k++[58]++hx x:=by
 unfold TT;rw[if_pos (by omega),if_pos (by omega),qK L k d,c,zU]
 ·simp
 intro h;have:=congrArg List.length h;rw[List.length_take,List.length_nil]at this;omega
theorem TM (L:List Nat) (a b:Nat) (c:a<b):TT L a b b=TT L a b a++[58,58]:=by
 unfold TT;rw[if_neg (by omega),if_pos (Nat.le_refl _),List.drop_eq_nil_of_le (by rw[List.length_take];omega),NQ,List.append_nil]
theorem TP (L:List Nat) (a b x:Nat) (d:b<L.length) (c:L[b]=x) (e:a<b):TT L a b (b+1)=TT L a b b++hx x:=by
 unfold TT;rw[if_neg (by omega),if_neg (by omega),qK L b d,c,List.drop_append_of_le_length (by rw[List.length_take];omega),List.drop_eq_nil_of_le (by rw[List.length_take];omega),NQ,List.nil_append,IW];simp
theorem TN (L:List Nat) (a b k x:Nat) (d:k<L.length) (c:L[k]=x) (e:a<b) (f:b<k):TT L a b (k+1)=TT L a b k++[58]++hx x:=by
 unfold TT;rw[if_neg (by omega),if_neg (by omega),qK L k d,c,List.drop_append_of_le_length (by rw[List.length_take];omega),zU]
 ·simp
 intro h;have:=congrArg List.length h;rw[List.length_drop,List.length_take,List.length_nil]at this;omega
theorem Iu (L:List Nat) (a b k:Nat) (c:∀x ∈ L,x<65536) (j:k≤L.length) (h:(0<k∧k≤a)∨(a<b∧b<k)):∃pre d,d<16∧TT L a b k=pre++[iO d]:=by
 unfold TT;rcases h with⟨i,f⟩|⟨i,f⟩
 ·rw[if_pos f];refine PS _ ?_ (fun x hx=>c x (List.mem_of_mem_take hx));intro h;have:=congrArg List.length h;rw[List.length_take,List.length_nil]at this;omega
 rw[if_neg (by omega)];obtain⟨pre,d,g,e⟩:=PS ((L.take k).drop b) (by
  intro h;have:=congrArg List.length h;rw[List.length_drop,List.length_take,List.length_nil]at this;omega) (fun x hx=>c x (List.mem_of_mem_take (List.mem_of_mem_drop hx)))
 exact⟨jx (L.take a)++[58,58]++pre,d,g,by rw[e];simp⟩
theorem Xt (L:List Nat) (h:L.length=8):TT L 8 9 8=jx L:=by
 unfold TT;rw[if_pos (by omega),List.take_of_length_le (by omega)]
theorem Xu (L:List Nat) (a b:Nat) (h:L.length=8) (c:a<b) (d:b≤8):TT L a b 8=jx (L.take a)++[58,58]++jx (L.drop b):=by
 unfold TT;rw[if_neg (by omega),List.take_of_length_le (show L.length≤8 by omega)]
theorem last_at (X:ByteArray) (pre:List UInt8) (c:UInt8) (h:X=ah (pre++[c])):∃j:Nat,(X.size:Int) - 1=(j:Int)∧(j:Int)<(X.size:Int)∧∃hj:j<X.size,X[j]=c:=by
 subst h;refine⟨pre.length,?_,?_,?_,?_⟩
 ·rw[ak,List.length_append];simp
 ·rw[ak,List.length_append];show(pre.length:Int)<((pre.length+1:Nat):Int);omega
 ·rw[ak,List.length_append];simp
 show(pre++[c])[pre.length]=c;simp
theorem nM (f : Nat → Nat) (h6 : ∀ i, f i < 65536) (w : World) : Calls prog 166 #[A8 f] w fun e w' => e = .returned (.string (ah (prt f))) ∧ Below w.heap.size w w' := by
 obtain⟨P,hP⟩:∃P,P=prt f:=⟨_,rfl⟩;rw[←hP];have d0:=Bz (f 0==0) (f 1==0) (f 2==0) (f 3==0) (f 4==0) (f 5==0) (f 6==0) (f 7==0);obtain⟨_,hb8,_,V⟩:=d0;replace hb8:(qL (zs f)).2≤8:=hb8;replace V:KR (zs f)=if (qL (zs f)).2 - (qL (zs f)).1<2 then(none,1)else(some (qL (zs f)).1,(qL (zs f)).2 - (qL (zs f)).1):=V
 have H6:=hid h6;have c4:=hid (DZ h6);unfold prt at hP;obtain⟨a,ha⟩:∃a,a=(qL (zs f)).1:=⟨_,rfl⟩;obtain⟨b,hb⟩:∃b,b=(qL (zs f)).2:=⟨_,rfl⟩;rw[←ha,←hb]at hP V;rw[←hb]at hb8;obtain⟨Z,hZ⟩:∃Z,Z=zs f:=⟨_,rfl⟩;rw[←hZ]at V;have HZ:=hid hZ;have L:Hid (Z.length=8):=by show _=_;rw[hZ];rfl
 have HP:=hid hP;have d6:=hid V;have d9:=hid hb8;clear hZ ha hb hP V hb8 h6;have H:Hid ((V8 f).length=8):=rfl;unfold A8;go_enter func166,ntmps166;go_upto_region 1 with(fail)
 generalize hw1:w.alloc _=w1;have d3:Hid (Below w.heap.size w w1):=by
  show Below _ _ _;rw[←hw1];exact(Below.refl _ _).alloc (Nat.le_refl _) _
 have O:Hid (Box w1 w.heap.size 147 (V8 f)):=by
  show Box _ _ _ _;rw[←hw1];exact zk f
 clear hw1;go_wp2;go_loopw [3,4,5,6,9] (fun vf vl _ _ vk wr=>∃(fu k F:Nat) (fr:Option Nat),vk=.int .i64 (k:Int)∧vf=.int .i64 (F8 fr)∧vl=.int .i64 (F:Int)∧fu+k=8∧F≤8∧wr=w1∧Hid (KR Z=Td Z fu k fr F)) (fun _ _ _ _ vk _=>8 - (intOf vk).toNat)
 case atStart=>exact⟨8,0,1,none,rfl,rfl,rfl,rfl,by omega,rfl,rfl⟩
 case round=>
  obtain⟨fu,k,F,fr,rfl,rfl,rfl,a8,c6,rfl,HW⟩:=hrel;by_cases hlt:k<8
  ·obtain ⟨E,rfl⟩:∃E,fu=E+1:=⟨fu - 1,by omega⟩;obtain⟨G,hG⟩:∃G,G=F8 fr:=⟨_,rfl⟩;rw[←hG];have d2:=hid hG;have b3:=hid a8;clear hG a8;go_wp2;go_loopw [6] (fun vn wx=>∃n:Nat,k+n≤8∧vn=.int .i64 (n:Int)∧wx=wr∧Hid (run Z k=n+run Z (k+n))) (fun vn _=>8 - (intOf vn).toNat)
   case atStart=>exact⟨0,by omega,rfl,rfl,by show _=_;rw[Nat.add_zero];omega⟩
   case round =>
    obtain⟨n,e6,rfl,rfl,HR⟩:=hrel;by_cases hk:k+n<8
    ·have r:=O.cell (k+n) (by show k+n<8;exact hk);rw[lT f (k+n) hk]at r;have c5:Z[k+n]'(by rw[L.out];exact hk)=(f (k+n)==0):=by
      have:=OT f (k+n) hk (by rw[BX];exact hk);simp only[HZ.out];exact this
     have c2:=hid c5;obtain⟨x,hx⟩:∃x,f (k+n)=x:=⟨_,rfl⟩;rw[hx]at r c2;have c8:(k:Int)+(n:Int)<8:=by omega
     clear hx c5;by_cases hx0:x=0
     ·subst hx0;have d7:Hid (run Z k=(n+1)+run Z (k+(n+1))):=by
       show _=_;rw[HR.out,LQ (by rw[L.out];exact hk) (by rw[c2.out];rfl),show k+n+1=k+(n+1)by omega];omega
      rw[show((0:Nat):Int)=0 from rfl]at r;go_wp2;go_roundw
      case rel=>exact⟨n+1,by omega,by go_num,by first|rfl|trivial,d7⟩
      case measure=>simp[intOf];omega
     have e5:((x:Int)==0)=false:=by rw[J7];simpa using hx0
     have e4:¬(x:Int)=0:=by omega
     have T:Hid (run Z k=n):=by
      show _=_;rw[HR.out,VZ (by rw[L.out];exact hk) (by rw[c2.out];simpa using hx0)];rfl
     clear hx0;by_cases hgt:F<n
     ·have Q:Hid (KR Z=Td Z E (k+1) (some k) n):=by
       show _=_;rw[HW.out]
       conv=>lhs;unfold Td
       rw[if_pos (by rw[L.out];exact hlt),T.out,if_pos hgt]
      have c1:(F:Int)<(n:Int):=by omega
      clear hgt;go_wp2;go_roundw
      case rel=>exact⟨E,k+1,n,some k,by go_num,rfl,rfl,by have:=b3.out;omega,by omega,by first|rfl|trivial,Q⟩
      case measure=>simp[intOf];omega
     have Q:Hid (KR Z=Td Z E (k+1) fr F):=by
      show _=_;rw[HW.out]
      conv=>lhs;unfold Td
      rw[if_pos (by rw[L.out];exact hlt),T.out,if_neg hgt]
     have c1:¬(F:Int)<(n:Int):=by omega
     clear hgt;go_wp2;go_roundw
     case rel=>exact⟨E,k+1,F,fr,by go_num,by rw[d2.out],rfl,by have:=b3.out;omega,by omega,by first|rfl|trivial,Q⟩
     case measure=>simp[intOf];omega
    have c8:¬(k:Int)+(n:Int)<8:=by omega
    have T:Hid (run Z k=n):=by show _=_;rw[HR.out,run_end (by rw[L.out];omega)];rfl
    by_cases hgt:F<n
    ·have Q:Hid (KR Z=Td Z E (k+1) (some k) n):=by
      show _=_;rw[HW.out]
      conv=>lhs;unfold Td
      rw[if_pos (by rw[L.out];exact hlt),T.out,if_pos hgt]
     have c1:(F:Int)<(n:Int):=by omega
     clear hgt;go_wp2;go_roundw
     case rel=>exact⟨E,k+1,n,some k,by go_num,rfl,rfl,by have:=b3.out;omega,by omega,by first|rfl|trivial,Q⟩
     case measure=>simp[intOf];omega
    have Q:Hid (KR Z=Td Z E (k+1) fr F):=by
     show _=_;rw[HW.out]
     conv=>lhs;unfold Td
     rw[if_pos (by rw[L.out];exact hlt),T.out,if_neg hgt]
    have c1:¬(F:Int)<(n:Int):=by omega
    clear hgt;go_wp2;go_roundw
    case rel=>exact⟨E,k+1,F,fr,by go_num,by rw[d2.out],rfl,by have:=b3.out;omega,by omega,by first|rfl|trivial,Q⟩
    case measure=>simp[intOf];omega
  obtain rfl:k=8:=by omega
  obtain rfl:fu=0:=by omega
  have T:Hid (KR Z=(fr,F)):=HW.out;have a6:(fr,F)=if b - a<2 then(none,1)else(some a,b - a):=by rw[←T.out,d6.out]
  by_cases hba:b - a<2
  ·rw [if_pos hba]at a6;injection a6 with hp1 hp2
   subst hp1;subst hp2;have c3:Hid (P=jx (V8 f)):=by show _=_;rw[HP.out,if_pos hba]
   rw[show F8 none= -1 from rfl,show((1:Nat):Int)=1 from rfl,show((8:Nat):Int)=8 from rfl];clear hba c6 a8 hlt;go_wp2;go_loopw [7,8] (fun vo vk wx=>∃(k:Nat) (X:ByteArray),k≤8∧vk=.int .i64 (k:Int)∧vo=.string X∧wx=wr∧Hid (X=ah (TT (V8 f) 8 9 k))) (fun _ vk _=>8 - (intOf vk).toNat)
   case atStart=>exact⟨0,⟨#[]⟩,by omega,rfl,rfl,rfl,rfl⟩
   case round =>
    obtain⟨k,X,c9,rfl,rfl,rfl,I⟩:=hrel;have e8:((k:Int)== -1)=false:=by rw[beq_eq_false_iff_ne];omega
    have e2:¬(k:Int)= -1:=by omega
    by_cases hk:k<8
    ·by_cases hk0:k=0
     ·have a5:=hid hk0;have a7:¬(0:Int)<(k:Int):=by omega
      clear hk0;obtain⟨x,g⟩:∃x,f k=x:=⟨_,rfl⟩;have r:=O.cell k (by show k<8;exact hk);rw[lT f k hk,g]at r;have C:Hid (x<65536):=by show _<_;rw[←g];exact H6 k
      have D:Hid ((V8 f)[k]'(by show k<8;exact hk)=x):=by show _=_;rw[lT f k hk,g]
      obtain⟨q,h⟩:∃q,q=ah (TT (V8 f) 8 9 (k+1)):=⟨_,rfl⟩;have l:=(show TT (V8 f) 8 9 (k+1)=TT (V8 f) 8 9 k++hx x by have:=JV (V8 f) 8 9 x (by show 0<8;omega) (by have:=D.out;simp only[a5.out]at this;exact this) (by omega);rw[a5.out];exact this);have A:=rO x;have t:=yK (V8 f) 8 9 k H;have y:=hid h;have a2:∀w:World,(Op.stringOp .add X (ah (hx x))).run prog w=.ok (.string q) w:=fun w=>by
       rw[h,l,I.out];exact bH _ _ w (by omega)
      clear g h l A t;go_wp2_with fail
      refine(fZ x x (Nat.le_refl _) C _).mono ?_;rintro e w2 ⟨rfl,z⟩;subst z;go_wp2;go_roundw
      case rel=>exact⟨k+1,q,by omega,by go_num,rfl,by first|rfl|trivial,y⟩
      case measure=>simp[intOf];omega
     have a7:(0:Int)<(k:Int):=by omega
     have a3:0<k:=by omega
     clear hk0;obtain⟨x,g⟩:∃x,f k=x:=⟨_,rfl⟩;have r:=O.cell k (by show k<8;exact hk);rw[lT f k hk,g]at r;have C:Hid (x<65536):=by show _<_;rw[←g];exact H6 k
     have D:Hid ((V8 f)[k]'(by show k<8;exact hk)=x):=by show _=_;rw[lT f k hk,g]
     obtain⟨q,h⟩:∃q,q=ah (TT (V8 f) 8 9 (k+1)):=⟨_,rfl⟩;have l:=JW (V8 f) 8 9 k x (by show k<8;exact hk) D a3 hk;have A:=rO x;have t:=yK (V8 f) 8 9 k H;have y:=hid h;obtain⟨pre,d,J,m⟩:=Iu (V8 f) 8 9 k c4 (by show k≤8;omega) (.inl ⟨a3,c9⟩);obtain⟨j,b9,b8,b7,W⟩:=last_at X pre (iO d) (by rw[I.out,m]);have B:=xI d J;obtain⟨c,v⟩:∃c,c=iO d:=⟨_,rfl⟩;rw[←v]at W B;have s:((c.toNat:Int)==58)=false:=by
      rw[beq_eq_false_iff_ne];intro e;exact B.2.2.1 (UInt8.toNat_inj.1 (by show _=58;omega))
     have a4:¬(c.toNat:Int)=58:=by simpa using s
     have N:((c.toNat:Int) !=58)=true:=by rw[bne,s];rfl
     obtain⟨Y,hY⟩:∃Y,Y=ah (TT (V8 f) 8 9 k++[58]):=⟨_,rfl⟩;have a1:∀w:World,(Op.stringOp .add X ⟨#[58]⟩).run prog w=.ok (.string Y) w:=fun w=>by
      rw[hY,I.out];exact bH _ [58] w (by simp;omega)
     have a2:∀w:World,(Op.stringOp .add Y (ah (hx x))).run prog w=.ok (.string q) w:=fun w=>by
      rw[h,l,hY];exact bH _ _ w (by rw[List.length_append];simp;omega)
     have c0:(0:Int)≤(j:Int):=by omega
     have sH:X.size≤200:=by rw[I.out,ak];omega
     have b6:(j:Int)≤200:=by omega
     clear sH;clear m B v hY;clear g h l A t;go_wp2_with fail
     refine(fZ x x (Nat.le_refl _) C _).mono ?_;rintro e w2 ⟨rfl,z⟩;subst z;go_wp2;go_roundw
     case rel=>exact⟨k+1,q,by omega,by go_num,rfl,by first|rfl|trivial,y⟩
     case measure=>simp[intOf];omega
    obtain rfl:k=8:=by omega
    have HE:Hid (X=ah P):=by show _=_;rw[I.out,c3.out,Xt _ H.out]
    go_wp2;go_ret;exact⟨by rw[HE.out];rfl,d3⟩
  rw[if_neg hba]at a6;injection a6 with hp1 hp2
  subst hp1;have c3:Hid (P=jx ((V8 f).take a)++[58,58]++jx ((V8 f).drop b)):=by show _=_;rw[HP.out,if_neg hba]
  rw[show F8 (some a)=(a:Int)from rfl,show((8:Nat):Int)=8 from rfl];have hb8:=d9.out;have a0:a<b:=by omega
  have e7:a+F=b:=by omega
  clear hba hp2 c6 a8 hlt;go_wp2;go_loopw [7,8] (fun vo vk wx=>∃(k:Nat) (X:ByteArray),k≤8∧(k≤a∨b≤k)∧vk=.int .i64 (k:Int)∧vo=.string X∧wx=wr∧Hid (X=ah (TT (V8 f) a b k))) (fun _ vk _=>8 - (intOf vk).toNat)
  case atStart=>exact⟨0,⟨#[]⟩,by omega,by omega,rfl,rfl,rfl,by show _=_;unfold TT;rw[if_pos (Nat.zero_le _)];rfl⟩
  case round=>
   obtain⟨k,X,c9,c7,rfl,rfl,rfl,I⟩:=hrel;by_cases hk:k<8
   ·by_cases hka:k=a
    ·have d8:=hid hka;have d4:((k:Int)==(a:Int))=true:=by simp;omega
     have t:=yK (V8 f) a b a H;obtain⟨q,h⟩:∃q,q=ah (TT (V8 f) a b b):=⟨_,rfl⟩;have y:=hid h;have a1:∀w:World,(Op.stringOp .add X ⟨#[58,58]⟩).run prog w=.ok (.string q) w:=fun w=>by
      rw[h,TM _ _ _ a0,I.out,d8.out];exact bH _ [58,58] w (by simp;omega)
     have a9:Hid ((k:Int)+(F:Int) - 1+1=(b:Int)):=by show _=_;omega
     have e1:(1:Int)≤(F:Int):=by omega
     have e0:(F:Int)≤8:=by omega
     have d1:Hid (k<b):=by show _<_;omega
     clear hka h t c7;go_wp2;go_roundw
     case rel=>exact⟨b,q,hb8,.inr (Nat.le_refl _),by first|exact int_eq a9|(have:=a9.out;go_num)|(congr 1;have:=a9.out;omega),rfl,by first|rfl|trivial,y⟩
     case measure=>(have:=a9.out;have:=d1.out;simp[intOf];omega)
    have d4:((k:Int)==(a:Int))=false:=by rw[beq_eq_false_iff_ne];omega
    have e3:¬(k:Int)=(a:Int):=by omega
    by_cases hlo:k<a
    ·by_cases hk0:k=0
     ·have a5:=hid hk0;have a7:¬(0:Int)<(k:Int):=by omega
      have d5:0<a:=by omega
      clear hk0 hka;obtain⟨x,g⟩:∃x,f k=x:=⟨_,rfl⟩;have r:=O.cell k (by show k<8;exact hk);rw[lT f k hk,g]at r;have C:Hid (x<65536):=by show _<_;rw[←g];exact H6 k
      have D:Hid ((V8 f)[k]'(by show k<8;exact hk)=x):=by show _=_;rw[lT f k hk,g]
      obtain⟨q,h⟩:∃q,q=ah (TT (V8 f) a b (k+1)):=⟨_,rfl⟩;have l:=(show TT (V8 f) a b (k+1)=TT (V8 f) a b k++hx x by have:=JV (V8 f) a b x (by show 0<8;omega) (by have:=D.out;simp only[a5.out]at this;exact this) d5;rw[a5.out];exact this);have A:=rO x;have t:=yK (V8 f) a b k H;have y:=hid h;have a2:∀w:World,(Op.stringOp .add X (ah (hx x))).run prog w=.ok (.string q) w:=fun w=>by
       rw[h,l,I.out];exact bH _ _ w (by omega)
      clear g h l A t;go_wp2_with fail
      refine(fZ x x (Nat.le_refl _) C _).mono ?_;rintro e w2 ⟨rfl,z⟩;subst z;go_wp2;go_roundw
      case rel=>exact⟨k+1,q,by omega,.inl (by omega),by go_num,rfl,by first|rfl|trivial,y⟩
      case measure=>simp[intOf];omega
     have a7:(0:Int)<(k:Int):=by omega
     have a3:0<k:=by omega
     clear hk0 hka;obtain⟨x,g⟩:∃x,f k=x:=⟨_,rfl⟩;have r:=O.cell k (by show k<8;exact hk);rw[lT f k hk,g]at r;have C:Hid (x<65536):=by show _<_;rw[←g];exact H6 k
     have D:Hid ((V8 f)[k]'(by show k<8;exact hk)=x):=by show _=_;rw[lT f k hk,g]
     obtain⟨q,h⟩:∃q,q=ah (TT (V8 f) a b (k+1)):=⟨_,rfl⟩;have l:=JW (V8 f) a b k x (by show k<8;exact hk) D a3 hlo;have A:=rO x;have t:=yK (V8 f) a b k H;have y:=hid h;obtain⟨pre,d,J,m⟩:=Iu (V8 f) a b k c4 (by show k≤8;omega) (.inl ⟨a3,by omega⟩);obtain⟨j,b9,b8,b7,W⟩:=last_at X pre (iO d) (by rw[I.out,m]);have B:=xI d J;obtain⟨c,v⟩:∃c,c=iO d:=⟨_,rfl⟩;rw[←v]at W B;have s:((c.toNat:Int)==58)=false:=by
      rw[beq_eq_false_iff_ne];intro e;exact B.2.2.1 (UInt8.toNat_inj.1 (by show _=58;omega))
     have a4:¬(c.toNat:Int)=58:=by simpa using s
     have N:((c.toNat:Int) !=58)=true:=by rw[bne,s];rfl
     obtain⟨Y,hY⟩:∃Y,Y=ah (TT (V8 f) a b k++[58]):=⟨_,rfl⟩;have a1:∀w:World,(Op.stringOp .add X ⟨#[58]⟩).run prog w=.ok (.string Y) w:=fun w=>by
      rw[hY,I.out];exact bH _ [58] w (by simp;omega)
     have a2:∀w:World,(Op.stringOp .add Y (ah (hx x))).run prog w=.ok (.string q) w:=fun w=>by
      rw[h,l,hY];exact bH _ _ w (by rw[List.length_append];simp;omega)
     have c0:(0:Int)≤(j:Int):=by omega
     have sH:X.size≤200:=by rw[I.out,ak];omega
     have b6:(j:Int)≤200:=by omega
     clear sH;clear m B v hY;clear g h l A t;go_wp2_with fail
     refine(fZ x x (Nat.le_refl _) C _).mono ?_;rintro e w2 ⟨rfl,z⟩;subst z;go_wp2;go_roundw
     case rel=>exact⟨k+1,q,by omega,.inl (by omega),by go_num,rfl,by first|rfl|trivial,y⟩
     case measure=>simp[intOf];omega
    have e9:b≤k:=by omega
    have a7:(0:Int)<(k:Int):=by omega
    by_cases hke:k=b
    ·have b0:=hid hke;clear hke hka hlo;obtain⟨x,g⟩:∃x,f k=x:=⟨_,rfl⟩;have r:=O.cell k (by show k<8;exact hk);rw[lT f k hk,g]at r;have C:Hid (x<65536):=by show _<_;rw[←g];exact H6 k
     have D:Hid ((V8 f)[k]'(by show k<8;exact hk)=x):=by show _=_;rw[lT f k hk,g]
     obtain⟨q,h⟩:∃q,q=ah (TT (V8 f) a b (k+1)):=⟨_,rfl⟩;have l:=(show TT (V8 f) a b (k+1)=TT (V8 f) a b k++hx x by have:=TP (V8 f) a b x (by rw[←b0.out];show k<8;exact hk) (by have:=D.out;simp only[b0.out]at this;exact this) a0;rw[b0.out];exact this);have A:=rO x;have t:=yK (V8 f) a b k H;have y:=hid h;obtain⟨pre,m⟩:∃pre,TT (V8 f) a b k=pre++[58]:=⟨TT (V8 f) a b a++[58],by rw[b0.out,TM _ _ _ a0];simp⟩;obtain⟨c,v⟩:∃c:UInt8,c=58:=⟨_,rfl⟩;obtain⟨j,b9,b8,b7,W⟩:=last_at X pre c (by rw[I.out,m,v]);have s:((c.toNat:Int)==58)=true:=by rw[v];rfl
     have N:((c.toNat:Int) !=58)=false:=by rw[v];rfl
     clear v;have a2:∀w:World,(Op.stringOp .add X (ah (hx x))).run prog w=.ok (.string q) w:=fun w=>by
      rw[h,l,I.out];exact bH _ _ w (by omega)
     have c0:(0:Int)≤(j:Int):=by omega
     have sH:X.size≤200:=by rw[I.out,ak];omega
     have b6:(j:Int)≤200:=by omega
     clear sH;clear m;clear g h l A t;go_wp2_with fail
     refine(fZ x x (Nat.le_refl _) C _).mono ?_;rintro e w2 ⟨rfl,z⟩;subst z;go_wp2;go_roundw
     case rel=>exact⟨k+1,q,by omega,.inr (by omega),by go_num,rfl,by first|rfl|trivial,y⟩
     case measure=>simp[intOf];omega
    have b5:b<k:=by omega
    clear hke hka hlo;obtain⟨x,g⟩:∃x,f k=x:=⟨_,rfl⟩;have r:=O.cell k (by show k<8;exact hk);rw[lT f k hk,g]at r;have C:Hid (x<65536):=by show _<_;rw[←g];exact H6 k
    have D:Hid ((V8 f)[k]'(by show k<8;exact hk)=x):=by show _=_;rw[lT f k hk,g]
    obtain⟨q,h⟩:∃q,q=ah (TT (V8 f) a b (k+1)):=⟨_,rfl⟩;have l:=TN (V8 f) a b k x (by show k<8;exact hk) D a0 b5;have A:=rO x;have t:=yK (V8 f) a b k H;have y:=hid h;obtain⟨pre,d,J,m⟩:=Iu (V8 f) a b k c4 (by show k≤8;omega) (.inr ⟨a0,b5⟩);obtain⟨j,b9,b8,b7,W⟩:=last_at X pre (iO d) (by rw[I.out,m]);have B:=xI d J;obtain⟨c,v⟩:∃c,c=iO d:=⟨_,rfl⟩;rw[←v]at W B;have s:((c.toNat:Int)==58)=false:=by
     rw[beq_eq_false_iff_ne];intro e;exact B.2.2.1 (UInt8.toNat_inj.1 (by show _=58;omega))
    have a4:¬(c.toNat:Int)=58:=by simpa using s
    have N:((c.toNat:Int) !=58)=true:=by rw[bne,s];rfl
    obtain⟨Y,hY⟩:∃Y,Y=ah (TT (V8 f) a b k++[58]):=⟨_,rfl⟩;have a1:∀w:World,(Op.stringOp .add X ⟨#[58]⟩).run prog w=.ok (.string Y) w:=fun w=>by
     rw[hY,I.out];exact bH _ [58] w (by simp;omega)
    have a2:∀w:World,(Op.stringOp .add Y (ah (hx x))).run prog w=.ok (.string q) w:=fun w=>by
     rw[h,l,hY];exact bH _ _ w (by rw[List.length_append];simp;omega)
    have c0:(0:Int)≤(j:Int):=by omega
    have sH:X.size≤200:=by rw[I.out,ak];omega
    have b6:(j:Int)≤200:=by omega
    clear sH;clear m B v hY;clear g h l A t;go_wp2_with fail
    refine(fZ x x (Nat.le_refl _) C _).mono ?_;rintro e w2 ⟨rfl,z⟩;subst z;go_wp2;go_roundw
    case rel=>exact⟨k+1,q,by omega,.inr (by omega),by go_num,rfl,by first|rfl|trivial,y⟩
    case measure=>simp[intOf];omega
   obtain rfl:k=8:=by omega
   have HE:Hid (X=ah P):=by show _=_;rw[I.out,c3.out,Xu _ _ _ H.out a0 hb8]
   go_wp2;go_ret;exact⟨by rw[HE.out];rfl,d3⟩
end acN
namespace jX
open Go.RowKit Base
theorem ZH (c:Int) (w:World) (d:32≤c) (a:c≤126):Calls prog 120 #[.int .i64 0,.int .u8 c] w fun e w'=>e=.returned (.bool (iJ 0 c))∧w=w':=by
 go_enter func120,ntmps120;go_wp2;all_goals
  go_ret;refine⟨aC ?_,rfl⟩;rw[adg];rw[Bool.eq_iff_iff];simp only[Bool.or_eq_true,beq_iff_eq,decide_eq_true_eq];constructor<;>intro h<;>first|trivial|omega
theorem adF (c:Int) (w:World) (d:32≤c) (a:c≤126):Calls prog 120 #[.int .i64 1,.int .u8 c] w fun e w'=>e=.returned (.bool (iJ 1 c))∧w=w':=by
 go_enter func120,ntmps120;go_wp2;all_goals
  go_ret;refine⟨aC ?_,rfl⟩;rw[adh];unfold P1;rw[Bool.eq_iff_iff];simp only[Bool.or_eq_true,beq_iff_eq,decide_eq_true_eq];constructor<;>intro h<;>first|trivial|omega
theorem adG (c:Int) (w:World) (d:32≤c) (a:c≤126):Calls prog 120 #[.int .i64 2,.int .u8 c] w fun e w'=>e=.returned (.bool (iJ 2 c))∧w=w':=by
 go_enter func120,ntmps120;go_wp2;all_goals
  go_ret;refine⟨aC ?_,rfl⟩;rw[adi];unfold P2;rw[Bool.eq_iff_iff];simp only[Bool.or_eq_true,beq_iff_eq,decide_eq_true_eq];constructor<;>intro h<;>first|trivial|omega
end jX
namespace acj
open Go.RowKit Base bf lQ pX Ba fC mY Dj jD jw Io FX uf
theorem eG (N:List UInt8) (d:UInt8):Lib.hasSuffix (N++[d]) [93]=decide (d=93):=by
 unfold Lib.hasSuffix;rw[Bool.eq_iff_iff,List.isSuffixOf_iff_suffix,decide_eq_true_iff];constructor
 ·rintro⟨t,a⟩;have:=List.append_inj_right' a rfl;simp at this;exact this.symm
 rintro rfl;exact⟨N,rfl⟩
theorem aaC {M:List UInt8} {c:UInt8} (h:(91::M).getLast?=some c) (a:c≠93):hbr M=none:=by
 rcases List.eq_nil_or_concat M with rfl|⟨N,d,rfl⟩
 ·rfl
 have:d=c:=by
  rw[List.concat_eq_append,←List.cons_append,List.getLast?_append]at h;simpa using h
 subst this;unfold hbr;rw[List.concat_eq_append,eG,decide_eq_false a];rfl
theorem XT {M:List UInt8} (h:(91::M).getLast?=some 93):1≤M.length∧hbr M=addr (M.take (M.length - 1)):=by
 rcases List.eq_nil_or_concat M with rfl|⟨N,d,rfl⟩
 ·simp at h
 have:d=93:=by
  rw[List.concat_eq_append,←List.cons_append,List.getLast?_append]at h;simpa using h
 subst this;have a:Lib.hasSuffix (N++[93]) [93]=true:=by rw[eG];rfl
 refine⟨by simp,?_⟩;unfold hbr Lib.trimSuffix;rw[List.concat_eq_append,if_pos a,if_pos a];rfl
theorem Rt (s:ByteArray) (h:0<s.size):∃(j:Nat) (c:UInt8),(s.size:Int) - 1=(j:Int)∧s.size=j+1∧∃hj:j<s.size,s[j]=c∧s.data.toList.getLast?=some c:=by
 have a:s.data.toList.length=s.size:=Array.length_toList;refine⟨s.size - 1,s[s.size - 1],by omega,by omega,by omega,rfl,?_⟩;rw[List.getLast?_eq_getElem?,a];exact List.getElem?_eq_getElem (by rw[a];omega)
theorem XA (s:ByteArray) (M:List UInt8) (j:Nat) (h:s.data.toList=91::M) (c:s.size=j+1):(s.extract 1 j).data.toList=M.take (M.length - 1):=by
 have a:s.data.toList.length=s.size:=Array.length_toList;rw[ByteArray.data_extract];simp only[Array.toList_extract,List.extract_eq_take_drop];rw[h]at a⊢;simp at a⊢;rw[show M.length - 1=j - 1 by omega];omega
theorem Ju {s:ByteArray} (h:s.size=0):s.toList=[]:=by
 rw[Lib.toList_data];exact List.eq_nil_of_length_eq_zero (by rw[Array.length_toList];exact h)
theorem in0 (c:UInt8) (w:World):Calls prog 120 #[.int .i64 0,.int .u8 (c.toNat:Int)] w fun e w'=>e=.returned (.bool (jX.iJ 0 c.toNat))∧w=w':=by
 by_cases hf:(c.toNat:Int)<32∨126<(c.toNat:Int)
 ·exact jX.Jh 0 c.toNat w (by omega) (by omega) hf
 exact jX.ZH c.toNat w (by omega) (by omega)
theorem Ky (s:ByteArray) (w:World) (a:s.size≤1073741824):Calls prog 62 #[.int .i64 0,.string s] w fun e w'=>e=.returned (.string (ah (aG.enc 0 s.data.toList)))∧Below w.heap.size w w':=AY.ig 0 s w a in0
theorem yO (s:ByteArray) (h:0<s.size) (hh:¬s.data.toList.head?=some 91):(s.toList==[])=false∧s.toList.isEmpty=false∧¬s.toList=[]∧∃x:UInt8,s[0]=x∧((x.toNat:Int)==91)=false∧¬(x.toNat:Int)=91:=by
 have g:s.data.toList.length=s.size:=Array.length_toList;obtain⟨a,r,d⟩:∃a r,s.data.toList=a::r:=by
  cases e:s.data.toList with
  |nil=>rw[e]at g;simp at g;omega
  |cons a r=>exact⟨a,r,rfl⟩
 have c:s[0]=a:=by
  have:s.data.toList[0]'(by omega)=s[0]:=rfl;rw[←this];simp only[d,List.getElem_cons_zero]
 have i:a≠91:=by
  intro e;rw[d,e]at hh;exact hh rfl
 have f:¬(a.toNat:Int)=91:=fun e=>i (UInt8.toNat_inj.1 (by show _=91;omega));rw[Lib.toList_data,d];exact⟨rfl,rfl,by simp,a,c,by rw[beq_eq_false_iff_ne];exact f,f⟩
theorem jl (s : ByteArray) (sp : Bool) (w : World) (N : s.size ≤ 900000) : Calls prog 146 #[.string s, .bool sp] w fun e w' => e = .returned (HV (aU s.data.toList sp)) ∧ Below w.heap.size w w' := by
 have hl:s.data.toList.length=s.size:=Array.length_toList;have m:=hid hl;obtain⟨H,G⟩:∃H,H=HV (aU s.data.toList sp):=⟨_,rfl⟩;rw[←G];have B:=hid N;clear hl;by_cases hh:s.data.toList.head?=some 91
 ·have g:H=HV (hbr s.data.toList.tail):=by rw[G];unfold aU;rw[if_pos hh]
  obtain⟨M,v⟩:∃M,s.data.toList=91::M:=by
   cases e:s.data.toList with
   |nil=>rw[e]at hh;cases hh
   |cons a r=>rw[e]at hh;simp at hh;exact⟨r,by rw[hh]⟩
  have h1:1≤s.size:=by rw[←m.out,v];simp
  rw[v]at g;replace g:H=HV (hbr M):=g;have b8:s[0]=91:=by
   have:s.data.toList[0]'(by rw[m.out];omega)=s[0]:=rfl;rw[←this];simp only[v,List.getElem_cons_zero]
  have hq:(s.toList==[])=false:=by
   rw[Lib.toList_data,v];rfl
  have O:s.toList.isEmpty=false:=by rw[Lib.toList_data,v];rfl
  have a4:¬s.toList=[]:=by rw[Lib.toList_data,v];simp
  obtain⟨j,c,d1,D,d0,c9,n⟩:=Rt s h1;rw[v]at n;have c8:(j:Int)<(s.size:Int):=by omega
  have d2:(0:Int)≤(j:Int):=by omega
  have b9:(j:Int)≤900000:=by omega
  have a9:(0:Int)<(s.size:Int):=by omega
  by_cases z:c=93
  ·rw [z] at n;obtain⟨a8,a0⟩:=XT n;rw[a0]at g;have hX:=XA s M j v D;obtain⟨X,A⟩:∃X,X=s.extract 1 j:=⟨_,rfl⟩;have T:X.size≤1048576:=by rw[A,ByteArray.size_extract];omega
   rw[←A]at hX;rw[←hX]at g;have Q:2≤s.size:=by
    have:=m.out;rw[v]at this;simp at this;omega
   have d3:¬(s.size:Int)<2:=by omega
   have d4:(1:Int)≤(j:Int):=by omega
   have a7:((c.toNat:Int) !=93)=false:=by rw[z];rfl
   have l:=fun w=>Xr.jl X w T;have a3:=hid A;clear G v n a8 a0 hX T A Q D z hh N;cases hv:six X.data.toList with
   |none=>
    have q:Hid (H=.tuple #[.string (ah []),.bool false]):=by show _=_;rw[g];unfold addr;rw[hv];rfl
    rw[hv]at l;obtain⟨f,hf⟩:∃f:Nat→Nat,V8 f=lZ:=⟨fun _=>0,rfl⟩;have I:Hid (F6 none=.tuple #[.agg #[.int .u16 (f 0:Int),.int .u16 (f 1:Int),.int .u16 (f 2:Int),.int .u16 (f 3:Int),.int .u16 (f 4:Int),.int .u16 (f 5:Int),.int .u16 (f 6:Int),.int .u16 (f 7:Int)],.bool false]):=by
     show F6 none=.tuple #[.agg (aY (V8 f)).toArray,.bool false];rw[hf];rfl
    rw[I.out]at l;have HP:=hid l;clear l hv g hf;go_enter func146,ntmps146;go_wp2_with fail
    rw[←a3.out];refine(HP _).mono ?_;rintro e C ⟨rfl,t⟩;have y:=hid t;clear t;go_wp2;go_ret2;exact⟨by rw[q.out];rfl,y.alloc y.size _⟩
   |some V=>
    obtain⟨f,rfl,h6⟩:=DL hv;have hE:H=.tuple #[.string (ah (91::(jD.prt f++[93]))),.bool true]:=by rw[g];unfold addr;rw[hv,←Ag];rfl
    rw[hv]at l;have I:Hid (F6 (some (V8 f))=.tuple #[.agg #[.int .u16 (f 0:Int),.int .u16 (f 1:Int),.int .u16 (f 2:Int),.int .u16 (f 3:Int),.int .u16 (f 4:Int),.int .u16 (f 5:Int),.int .u16 (f 6:Int),.int .u16 (f 7:Int)],.bool true]):=rfl;rw[I.out]at l;have HP:=hid l;obtain⟨P,hP⟩:∃P,P=ah (jD.prt f):=⟨_,rfl⟩;have b3:Hid (∀w,Calls prog 166 #[A8 f] w fun e w'=>e=.returned (.string P)∧Below w.heap.size w w'):=by
     show ∀w,_;rw[hP];exact fun w=>acN.nM f h6 w
    obtain⟨Y,hY⟩:∃Y,Y=ah (91::jD.prt f):=⟨_,rfl⟩;obtain⟨Z,hZ⟩:∃Z,Z=ah (91::(jD.prt f++[93])):=⟨_,rfl⟩;rw[←hZ]at hE;have a5:=Ja f;have a1:∀w:World,(Op.stringOp .add ⟨#[91]⟩ P).run prog w=.ok (.string Y) w:=fun w=>by
     rw[hY,hP];exact bH [91] _ w (by simp;omega)
    have a2:∀w:World,(Op.stringOp .add Y ⟨#[93]⟩).run prog w=.ok (.string Z) w:=fun w=>by
     rw[hZ,hY];exact bH (91::jD.prt f) [93] w (by simp;omega)
    have q:=hid hE;clear l hv g hE hP hY hZ a5 h6;go_enter func146,ntmps146;go_wp2_with fail
    rw[←a3.out];refine(HP _).mono ?_;rintro e C ⟨rfl,t⟩;have y:=hid t;clear t;go_upto_region 5 with(fail)
    generalize hw3:C.alloc _=w3;have b5:Hid (Below w.heap.size w w3):=by
     show Below _ _ _;rw[←hw3];exact y.alloc y.size _
    have b0:Hid (Box w3 C.heap.size 147 (V8 f)):=by
     show Box _ _ _ _;rw[←hw3];exact zk f
    clear hw3;obtain⟨c0,c1,c2,c3,c4,c5,c6,c7⟩:=dn b0 f rfl;go_wp2_with fail
    clear c0 c1 c2 c3 c4 c5 c6 c7;refine qy b5 (b3 _) fun w4 HB4=>?_;go_wp2;go_ret2;exact⟨by rw[q.out];rfl,HB4⟩
  rw[aaC n z]at g;have q:Hid (H=.tuple #[.string (ah []),.bool false]):=g;have a7:((c.toNat:Int) !=93)=true:=by
   rw[bne_iff_ne];intro e;exact z (UInt8.toNat_inj.1 (by show _=93;omega))
  clear G v n g D z hh N;go_enter func146,ntmps146;go_wp2;go_ret2;exact⟨by rw[q.out];rfl,Below.refl _ _⟩
 cases sp with
 |true=>
  rw[G];exact acn.Vu s w N hh
 | false=>
  have HH:Hid (H=HV (RJ s.data.toList)):=by show _=_;rw[G];unfold aU;rw[if_neg hh,if_neg (by simp)]
  clear G;rcases Nat.eq_zero_or_pos s.size with h0|h0
  ·have hq : s.toList = [] := Ju h0;have O:(s.toList==[])=true:=by rw[hq];rfl
   clear hh h0 N hq;go_enter func146,ntmps146;go_wp2;go_loopw [8,50] (fun _ vk wr=>∃k:Nat,k≤s.size∧vk=.int .i64 (k:Int)∧wr=w∧Hid (oks false (s.data.toList.take k)=true)) (fun _ vk _=>s.size - (intOf vk).toNat)
   case atStart=>exact⟨0,Nat.zero_le _,rfl,rfl,rfl⟩
   case round =>
    obtain⟨k,hk,rfl,rfl,HO⟩:=hrel;have a6:s.size≤900000:=B.out;by_cases hlt:k<s.size
    ·obtain ⟨c,z⟩:∃c,s[k]=c:=⟨_,rfl⟩;have h:k<s.data.toList.length:=by rw[m.out];exact hlt
     have i:s.data.toList[k]=c:=z;cases hf:zh false c with
     |true=>
      have q:Hid (H=.tuple #[.string (ah []),.bool false]):=by
       show _=_;rw[HH.out];unfold RJ;rw[uN false _ k h (by rw[i];unfold okb;rw[hf];rfl)];rfl
      have d:=fun w=>eu c false w;rw[hf]at d;have J:=hid d;clear h i hf d;go_wp2_with fail
      refine(J _).mono ?_;rintro e C ⟨rfl,rfl⟩;go_wp2;go_ret2;exact⟨by rw[q.out];rfl,Below.refl _ _⟩
     |false=>
      have HN:Hid (oks false (s.data.toList.take (k+1))=true):=by
       show _=_;rw[jO false _ k h,HO.out,i];unfold okb;rw[hf];rfl
      have d:=fun w=>eu c false w;rw[hf]at d;have J:=hid d;clear h i hf d;go_wp2_with fail
      refine(J _).mono ?_;rintro e C ⟨rfl,rfl⟩;go_wp2;go_roundw
      case rel=>exact⟨k+1,by omega,by go_num,by first|rfl|trivial,HN⟩
      case measure=>simp[intOf];omega
    have W:oks false s.data.toList=true:=by
     have:=HO.out;rw[List.take_of_length_le (by rw[m.out];omega)]at this;exact this
    obtain⟨R,F⟩:∃R:ByteArray,R=ah (aG.enc 0 s.data.toList):=⟨_,rfl⟩;have q:Hid (H=.tuple #[.string R,.bool true]):=by
     show _=_;rw[HH.out];unfold RJ;rw[if_pos W,F];rfl
    have L:Hid (∀w,Calls prog 62 #[.int .i64 0,.string s] w fun e w'=>e=.returned (.string R)∧Below w.heap.size w w'):=by
     show ∀w,_;rw[F];exact fun w=>Ky s w (by have:=B.out;omega)
    clear W F;go_wp2_with fail
    refine(L _).mono ?_;rintro e w3 ⟨rfl,E⟩;go_wp2;go_ret2;exact⟨by rw[q.out];rfl,E⟩
  obtain⟨hq,O,a4,x,b7,hx,b6⟩:=yO s h0 hh;have a9:(0:Int)<(s.size:Int):=by omega
  clear hh N;go_enter func146,ntmps146;go_wp2;go_loopw [8,50] (fun _ vk wr=>∃k:Nat,k≤s.size∧vk=.int .i64 (k:Int)∧wr=w∧Hid (oks false (s.data.toList.take k)=true)) (fun _ vk _=>s.size - (intOf vk).toNat)
  case atStart=>exact⟨0,Nat.zero_le _,rfl,rfl,rfl⟩
  case round =>
   obtain⟨k,hk,rfl,rfl,HO⟩:=hrel;have a6:s.size≤900000:=B.out;by_cases hlt:k<s.size
   ·obtain ⟨c,z⟩:∃c,s[k]=c:=⟨_,rfl⟩;have h:k<s.data.toList.length:=by rw[m.out];exact hlt
    have i:s.data.toList[k]=c:=z;cases hf:zh false c with
    |true=>
     have q:Hid (H=.tuple #[.string (ah []),.bool false]):=by
      show _=_;rw[HH.out];unfold RJ;rw[uN false _ k h (by rw[i];unfold okb;rw[hf];rfl)];rfl
     have d:=fun w=>eu c false w;rw[hf]at d;have J:=hid d;clear h i hf d;go_wp2_with fail
     refine(J _).mono ?_;rintro e C ⟨rfl,rfl⟩;go_wp2;go_ret2;exact⟨by rw[q.out];rfl,Below.refl _ _⟩
    |false=>
     have HN:Hid (oks false (s.data.toList.take (k+1))=true):=by
      show _=_;rw[jO false _ k h,HO.out,i];unfold okb;rw[hf];rfl
     have d:=fun w=>eu c false w;rw[hf]at d;have J:=hid d;clear h i hf d;go_wp2_with fail
     refine(J _).mono ?_;rintro e C ⟨rfl,rfl⟩;go_wp2;go_roundw
     case rel=>exact⟨k+1,by omega,by go_num,by first|rfl|trivial,HN⟩
     case measure=>simp[intOf];omega
   have W:oks false s.data.toList=true:=by
    have:=HO.out;rw[List.take_of_length_le (by rw[m.out];omega)]at this;exact this
   obtain⟨R,F⟩:∃R:ByteArray,R=ah (aG.enc 0 s.data.toList):=⟨_,rfl⟩;have q:Hid (H=.tuple #[.string R,.bool true]):=by
    show _=_;rw[HH.out];unfold RJ;rw[if_pos W,F];rfl
   have L:Hid (∀w,Calls prog 62 #[.int .i64 0,.string s] w fun e w'=>e=.returned (.string R)∧Below w.heap.size w w'):=by
    show ∀w,_;rw[F];exact fun w=>Ky s w (by have:=B.out;omega)
   clear W F;go_wp2_with fail
   refine(L _).mono ?_;rintro e w3 ⟨rfl,E⟩;go_wp2;go_ret2;exact⟨by rw[q.out];rfl,E⟩
end acj
namespace jX
open Go.RowKit Base
theorem adH (c:Int) (w:World) (d:32≤c) (a:c≤126):Calls prog 120 #[.int .i64 3,.int .u8 c] w fun e w'=>e=.returned (.bool (iJ 3 c))∧w=w':=by
 go_enter func120,ntmps120;go_wp2;all_goals
  go_ret;refine⟨aC ?_,rfl⟩;rw[adk];unfold P3;rw[Bool.eq_iff_iff];simp only[Bool.or_eq_true,beq_iff_eq,decide_eq_true_eq];constructor<;>intro h<;>first|trivial|omega
theorem ZI (c:Int) (w:World) (d:32≤c) (a:c≤126):Calls prog 120 #[.int .i64 4,.int .u8 c] w fun e w'=>e=.returned (.bool (iJ 4 c))∧w=w':=by
 go_enter func120,ntmps120;go_wp2;all_goals
  go_ret;refine⟨aC ?_,rfl⟩;rw[adl];unfold P4;rw[Bool.eq_iff_iff];simp only[Bool.or_eq_true,beq_iff_eq,decide_eq_true_eq];constructor<;>intro h<;>first|trivial|omega
end jX
namespace jX
open Go.RowKit Base
theorem adI (c:Int) (w:World) (d:32≤c) (a:c≤126):Calls prog 120 #[.int .i64 5,.int .u8 c] w fun e w'=>e=.returned (.bool (iJ 5 c))∧w=w':=by
 go_enter func120,ntmps120;go_wp2;all_goals
  go_ret;refine⟨aC ?_,rfl⟩;rw[adn];unfold P5;rw[Bool.eq_iff_iff];simp only[Bool.or_eq_true,beq_iff_eq,decide_eq_true_eq];constructor<;>intro h<;>first|trivial|omega
theorem adJ (c:Int) (w:World) (d:32≤c) (a:c≤126):Calls prog 120 #[.int .i64 6,.int .u8 c] w fun e w'=>e=.returned (.bool (iJ 6 c))∧w=w':=by
 go_enter func120,ntmps120;go_wp2;all_goals
  go_ret;refine⟨aC ?_,rfl⟩;rw[ado];unfold P6;rw[Bool.eq_iff_iff];simp only[Bool.or_eq_true,beq_iff_eq,decide_eq_true_eq];constructor<;>intro h<;>first|trivial|omega
end jX
namespace acA
open Go.RowKit
open Go.Proofs.YtgockiomacchoaaGreatDoor.zf (Max)
variable {w w':World} {g:Nat} {cs ds:Array Value}
theorem Vt {B n:Nat} {e:TypeId} {v:Value} {a:List Value} (h:w.ownsRow B e 1 v n a) (d:g<B) (c:Array Value):(w.setRow g c).ownsRow B e 1 v n a:=by
 refine⟨h.1,?_⟩;rcases h.2 with hn|⟨k,cap,cur,rfl,hb,hh,rest⟩
 ·exact .inl hn
 exact .inr ⟨k,cap,cur,rfl,hb,(setRow_other _ _ _ _ (show k≠g by omega)).trans hh,rest⟩
end acA
namespace Tv
open Go.RowKit Base bf aJ vP Ulw jW fG Xa yc yF Xc Xf
variable {k:K} {m:M} {q:Value} {w:World}
theorem IU (x c:Int) (w:World):Calls prog 120 #[.int .i64 x,.int .u8 c] w fun e w'=>e=.returned (.bool (jX.iJ x c))∧w=w':=by
 by_cases ho:x<0∨6<x
 ·exact jX.YF x c w ho
 by_cases hf:c<32∨126<c
 ·exact jX.Jh x c w (by omega) (by omega) hf
 have a:x=0∨x=1∨x=2∨x=3∨x=4∨x=5∨x=6:=by omega
 rcases a with rfl|rfl|rfl|rfl|rfl|rfl|rfl
 ·exact jX.ZH c w (by omega) (by omega)
 ·exact jX.adF c w (by omega) (by omega)
 ·exact jX.adG c w (by omega) (by omega)
 ·exact jX.adH c w (by omega) (by omega)
 ·exact jX.ZI c w (by omega) (by omega)
 ·exact jX.adI c w (by omega) (by omega)
 exact jX.adJ c w (by omega) (by omega)
theorem dp:Dp:=⟨fun x c w=>IU x _ w,fun s b w h=>acj.jl s b w h⟩
theorem Y7 {base:Option U} {R:List UInt8} (a:0≤m.p): -1 - (m.buf.length:Int)≤(aX base m R).p:=by
 unfold aX;split
 all_goals(first|unfold kR|unfold fB|unfold wR|unfold jo|unfold kQ|unfold lG|unfold iV|unfold Dn|unfold kF|unfold kG|unfold gW|unfold jc|unfold dR|unfold dA|unfold eF|unfold iy|unfold qE|unfold oW|unfold wQ|skip)
 all_goals(try dsimp only)
 all_goals repeat' split
 all_goals(try simp only[xw,mv,fail,begin',meet,lI,O6,if_true,if_false,Bool.false_eq_true])
 all_goals(repeat' split)
 all_goals omega
def Pm (k:K) (s:Bs) (o:Option U) (w:World) (i:Nat):Prop:=∃m q,MX k m q w∧Inv s k.T m∧F5 k.T k.base i m o
theorem ac4 {C:List UInt8} {j:Nat} {R:List UInt8} (h:C.drop j=R):decide ((C.length:Int)≤(j:Int))=decide (R=[]):=by
 rw[←h,Bool.eq_iff_iff];simp only[decide_eq_true_eq,List.drop_eq_nil_iff];omega
theorem _root_.Go.Proofs.YtgockiomacchoaaGreatDoor.fG.MX.basis (h:MX k m q w) (s:k.base=none) (v:k.A=none) (t:k.n=0) (a:k.c=0) (b:U) (A:Option Addr) (n c:Nat):MX {k with base:=some b,A:=A,n:=n,c:=c} m q ((((((((((((((w.setCell ⟨k.g,17,none⟩ (.string (ah b.au))).setCell ⟨k.g,18,none⟩ (.string (ah b.bY))).setCell ⟨k.g,19,none⟩ (.string (ah b.bZ))).setCell ⟨k.g,20,none⟩ (.string (ah b.aU))).setCell ⟨k.g,21,none⟩ (.bool b.hh)).setCell ⟨k.g,22,none⟩ (.int .i64 b.port)).setCell ⟨k.g,23,none⟩ (.bool b.dK)).setCell ⟨k.g,24,none⟩ (.string (ah b.txt))).setCell ⟨k.g,25,none⟩ (.slice A n c)).setCell ⟨k.g,26,none⟩ (.bool b.hq)).setCell ⟨k.g,27,none⟩ (.bool b.hf)).setCell ⟨k.g,28,none⟩ (.string (ah b.bT))).setCell ⟨k.g,29,none⟩ (.string (ah b.eY))).setCell ⟨k.g,30,none⟩ (.bool true)):=by
 obtain⟨g,B,T,base,O,L,N,w0⟩:=k;cases s;cases v;cases t;cases a;have e:=iM h.row h.own;have J:=h.row;have r:=h.own;have x:=h.bD;refine⟨?_,?_,?_,h.le⟩
 ·have I:=heap_setCell_same _ g 17 _ _ (.string (ah b.au)) J;have H:=heap_setCell_same _ g 18 _ _ (.string (ah b.bY)) I;have G:=heap_setCell_same _ g 19 _ _ (.string (ah b.bZ)) H;have F:=heap_setCell_same _ g 20 _ _ (.string (ah b.aU)) G;have E:=heap_setCell_same _ g 21 _ _ (.bool b.hh) F;have D:=heap_setCell_same _ g 22 _ _ (.int .i64 b.port) E;have C:=heap_setCell_same _ g 23 _ _ (.bool b.dK) D;have z:=heap_setCell_same _ g 24 _ _ (.string (ah b.txt)) C;have y:=heap_setCell_same _ g 25 _ _ (.slice A n c) z;have l:=heap_setCell_same _ g 26 _ _ (.bool b.hq) y;have j:=heap_setCell_same _ g 27 _ _ (.bool b.hf) l;have i:=heap_setCell_same _ g 28 _ _ (.string (ah b.bT)) j;have f:=heap_setCell_same _ g 29 _ _ (.string (ah b.eY)) i;have d:=heap_setCell_same _ g 30 _ _ (.bool true) f;refine d.trans ?_;simp only[NW,List.setIfInBounds_toArray,List.set_cons_zero,List.set_cons_succ];first|done|rfl
 ·exact dQ (dQ (dQ (dQ (dQ (dQ (dQ (dQ (dQ (dQ (dQ (dQ (dQ (dQ r e) e) e) e) e) e) e) e) e) e) e) e) e) e
 exact(((((((((((((x.setCell h.le _).setCell h.le _).setCell h.le _).setCell h.le _).setCell h.le _).setCell h.le _).setCell h.le _).setCell h.le _).setCell h.le _).setCell h.le _).setCell h.le _).setCell h.le _).setCell h.le _).setCell h.le _
theorem RG {B n g:Nat} {e:TypeId} {v:Value} {a:List Value} (h:w.ownsRow B e 1 v n a) (d:g<B) (c:Array Value):(w.setRow g c).ownsRow B e 1 v n a:=acA.Vt h d c
def aeI (w:World) (o:Option U) (e:Ending) (w':World):Prop:=Below w.heap.size w w'∧∃A n c,e=.returned (.tuple #[.agg (cells (o.getD U0) (.slice A n c)),.int .i64 (if o.isSome=true then 0 else 2)])∧iC w' (o.getD U0) A n c
theorem DK (T:List UInt8) (ob:Option U) (v:Value) (w:World) (hs:T.length≤65536) (hv:(ob=none∧v=.pointer none)∨∃b gb A n c,ob=some b∧v=.pointer (some ⟨gb,0,none⟩)∧n≤100000∧Di.Ok b∧o8.Fit b 100000∧UB w gb b (.slice A n c)∧iC w b A n c):Calls prog 6 #[.string (ah T),v] w (aeI w (aJ.url T ob)):=by
 have g8:=MN.su T;obtain⟨C,hC⟩:∃x,x=clean T:=⟨_,rfl⟩;rw[←hC]at g8;rcases hv with⟨rfl,rfl⟩|⟨b,gb,A,n,c,rfl,rfl,hn,g5,d3,hB,hP⟩
 focus
  obtain⟨o,ho⟩:∃x,x=aJ.url T none:=⟨_,rfl⟩;obtain⟨s,Z⟩:∃s:Bs,s=⟨0,0,0⟩:=⟨_,rfl⟩;have a0:∃i,F5 C none i MR.m0 o:=by
   rw[hC,ho];exact Ia (MR.PZ (fun _ e=>by cases e) T)
  have d8:∀x,none=some x→Qz s x:=fun _ e=>by cases e
  have c3:Hid (s.u≤1000000∧s.t≤1000000∧s.p≤100000):=by show _∧_∧_;rw[Z];decide
 rotate_left
 focus
  obtain⟨o,ho⟩:∃x,x=aJ.url T (some b):=⟨_,rfl⟩;obtain⟨s,Z⟩:∃s:Bs,s=⟨b.bY.length+b.bZ.length,b.txt.length,b.aF.length⟩:=⟨_,rfl⟩;have a0:∃i,F5 C (some b) i MR.m0 o:=by
   rw[hC,ho];exact Ia (MR.PZ (fun x e=>by cases e;exact Z8.aar g5) T)
  have d8:∀x,(some b)=some x→Qz s x:=fun x e=>by cases e;rw[Z];exact⟨Nat.le_refl _,Nat.le_refl _,Nat.le_refl _⟩
  have c3:Hid (s.u≤1000000∧s.t≤1000000∧s.p≤100000):=by show _∧_∧_;rw[Z];(have h1:=d3.all;have h2:=dL.nH b.aF;unfold o8.pl at h1;refine⟨?_,?_,?_⟩<;>(simp only;omega))
  have k2:=hid hB;have k1:=hid hP;have m5:=hid hn;clear g5 d3 hB hP hn
 rotate_left
 all_goals
  have j1:=hid d8;have N:=hid a0;have j9:Hid (C.length≤200000):=by show _≤_;omega
  have e9:Hid (∀w:World,Calls prog 14 #[.string (ah T)] w fun e w'=>e=.returned (.string (ah C))∧Below w.heap.size w w'):=fun w=>by rw[hC];exact acw.Jf T w (by omega)
  have d5:((ah T).size:Int)≤65536:=by rw[ak];omega
  have g9:¬(65536:Int)<((ah T).size:Int):=by omega
  obtain⟨X,hX⟩:∃X,X=ah T:=⟨_,rfl⟩;rw[←hX]at g9 d5 e9;rw[←hX,←ho];clear hC ho Z a0 d8 g8 hs hX;go_enter func6,ntmps6;go_upto_region 1 with(fail)
  generalize hw:World.alloc w _=w1;have h1:UB w1 w.heap.size U0 (.slice none 0 0)∧Below w.heap.size w w1:=by
   subst hw;exact jd w _ _
  clear hw;have i7:=hid h1.1;have k3:=hid h1.2;clear h1;go_wp2_with fail
  refine(e9.out _).mono ?_;rintro e F ⟨rfl,e3⟩;have e4:=hid (i7.out.below e3);have d0:=hid (bD k3.out e3);have j5:Hid (w.heap.size<F.heap.size):=e4.out.lt;clear i7 k3 e3;go_upto_region 4 with(fail)
  obtain⟨k0,f⟩:∃k:K,k={g:=F.heap.size,B:=F.heap.size,T:=C,base:=none,A:=none,n:=0,c:=0,w0:=F}:=⟨_,rfl⟩;generalize hw:World.alloc F _=w3;have a:Hid (MX k0 MR.m0 (.slice none 0 0) w3):=by
   show MX _ _ _ _;rw[f,←hw];exact⟨(jd F _ _).1,World.ownsRow_nil _ _ _ _,(jd F _ _).2,Nat.le_refl _⟩
  clear hw
 focus
  obtain⟨w4,k8⟩:∃x,x=w3:=⟨_,rfl⟩;subst k8;obtain⟨k,l⟩:∃k:K,k=k0:=⟨_,rfl⟩;have b7:k.g=F.heap.size:=by rw[l,f]
  have G:k.w0=F:=by rw[l,f]
  have H:k.B=F.heap.size:=by rw[l,f]
  have b8:k.T=C:=by rw[l,f]
  have a4:k.base=none:=by rw[l,f]
  have j7:Hid (KB k):=by
   show KB k;have e1:k.b=U0:=by unfold K.b;rw[a4];rfl
   exact⟨by rw[e1,l,f];exact dV.nil _,by rw[l,f];exact Nat.le_refl _,by rw[l,f];exact Nat.zero_le _,by rw[G,H];exact Nat.le_refl _⟩
  have j6:Hid (k.n≤400000):=by show _≤_;rw[l,f];exact Nat.zero_le _
  have a8:Hid (MX k MR.m0 (.slice none 0 0) w4):=by show MX _ _ _ _;rw[l];exact a.out
  clear l f a;go_upto_region 6 with(fail)
  rw[←b7]
 rotate_left
 focus
  have d6:Hid (UB w3 gb b (.slice A n c)):=(k2.out.below d0.out).below (show Below F.heap.size F w3 from by have:=a.out.bD;rw[f]at this;exact this);obtain⟨k,l⟩:∃k:K,k={k0 with base:=some b,A:=A,n:=n,c:=c}:=⟨_,rfl⟩;have b7:k.g=F.heap.size:=by rw[l,f]
  have a3:k0.g=F.heap.size:=by rw[f]
  have G:k.w0=F:=by rw[l,f]
  have H:k.B=F.heap.size:=by rw[l,f]
  have b8:k.T=C:=by rw[l,f]
  have a4:k.base=some b:=by rw[l]
  have j7:Hid (KB k):=by
   show KB k;have hr:=vP.iC.below k1.out d0.out;exact⟨by rw[G,l];exact hr.1,by rw[l];exact hr.2.1,by rw[l];exact hr.2.2,by rw[G,H];exact Nat.le_refl _⟩
  have j6:Hid (k.n≤400000):=by show _≤_;have:=m5.out;rw[l];show n≤_;omega
  have a8:=hid (a.out.basis (by rw[f]) (by rw[f]) (by rw[f]) (by rw[f]) b A n c);rw[←l,a3]at a8;obtain⟨u0,u1,u2,u3,u4,u5,u6,u7,u8,u9,k6,k5,k4⟩:=d6.out.facts;have i6:=a.out.x17;have g4:=a.out.thaw 17;have i5:=a.out.x18;have g3:=a.out.thaw 18;have i4:=a.out.x19;have g2:=a.out.thaw 19;have i3:=a.out.x20;have g1:=a.out.thaw 20;have i2:=a.out.x21;have g0:=a.out.thaw 21;have i1:=a.out.x22;have f9:=a.out.thaw 22;have i0:=a.out.x23;have f8:=a.out.thaw 23;have h9:=a.out.x24;have f7:=a.out.thaw 24;have h8:=a.out.x25;have f6:=a.out.thaw 25;have h7:=a.out.x26;have f5:=a.out.thaw 26;have h6:=a.out.x27;have f4:=a.out.thaw 27;have h5:=a.out.x28;have f3:=a.out.thaw 28;have h4:=a.out.x29;have f2:=a.out.thaw 29;have h0:=a.out.x30;have f1:=a.out.thaw 30;rw[a3]at i6 i5 i4 i3 i2 i1 i0 h9 h8 h7 h6 h5 h4 h0 g4 g3 g2 g1 g0 f9 f8 f7 f6 f5 f4 f3 f2 f1;clear l f a3 a;go_upto_region 6 with(fail)
  clear u0 u1 u2 u3 u4 u5 u6 u7 u8 u9 k6 k5 k4 i6 i5 i4 i3 i2 i1 i0 h9 h8 h7 h6 h5 h4 h0 g4 g3 g2 g1 g0 f9 f8 f7 f6 f5 f4 f3 f2 f1;generalize hwk:World.setCell _ _ _=w4 at a8⊢;clear hwk d6 k2 k1;rw[←b7]
 rotate_left
 all_goals
  have d7:Hid (∃i,Pm k s o w4 i):=by
   obtain⟨i,hi⟩:=N.out;exact⟨i,_,_,a8.out,⟨Nat.zero_le _,.inr ⟨by decide,by show(0:Int)≤_;omega,⟨by decide,by decide,by show((0:Nat):Int)+((0:Nat):Int)+9*((0:Nat):Int)≤(s.u:Int)+9*((0:Int)+1);omega,by show((0:Nat):Int)≤(s.t:Int)+3*((0:Int)+1);omega,by show((0:Nat):Int)≤(s.p:Int)+1+((0:Int)+1);omega,fun _=>⟨rfl,rfl,rfl⟩,fun _=>⟨rfl,rfl⟩⟩,(fun e=>by cases e)⟩⟩,by rw[b8,a4];exact hi⟩
  have e5:Hid (∀(m':M) (q':Value) (w':World),MX k m' q' w'→UB w' w.heap.size U0 (.slice none 0 0)):=fun m' q' w' h=>by
   have h2:=h.bD;rw[H,G]at h2;exact e4.out.below h2
  have f0:Hid (∀(m':M) (q':Value) (w':World),MX k m' q' w'→Below w.heap.size w w'):=fun m' q' w' h=>by
   have h2:=h.bD;rw[H,G]at h2;exact bD d0.out h2
  have m7:Hid (w.heap.size<k.B):=by show _<_;rw[H];exact j5.out
  have b9:Hid (k.T.length≤200000):=by show _≤_;rw[b8];exact j9.out
  have j0:Hid (∀x,k.base=some x→Qz s x):=by show ∀x,_;rw[a4];exact j1.out
  clear b7 G H b8 a4 a8 N e4 d0 j5 j9 e9 j1 g9 d5;go_loopw [7] (fun _ wr=>Hid (∃i,Pm k s o wr i)) (fun _ wr=>least (Pm k s o wr))
  case atStart=>exact d7
  case round=>
   clear d7;have m4:=hid hrel.out;clear hrel;obtain⟨i,r⟩:∃i,i=least (Pm k s o wr):=⟨_,rfl⟩;obtain⟨m,q,b6,D,a1⟩:=U3 m4.out;rw[←r]at a1;have m8:=hid r;have y:=hid b6;have N:=hid a1;have j8:=hid D;have O:Hid (∀n q' w',MX k n q' w'→Hr k.T k.base m=.go n→(∃i,Pm k s o w' i)∧least (Pm k s o w')<least (Pm k s o wr)):=fun n q' w' h e=>by
    obtain⟨j,hj,hr⟩:=VY N.out e;have hp:Pm k s o w' j:=⟨n,q',h,UR j0.out j8.out e,hr⟩;exact⟨⟨j,hp⟩,by have:=least_le hp;rw[←m8.out];omega⟩
   obtain⟨st,aU⟩:∃st,m.st=st:=⟨_,rfl⟩;obtain⟨z,L⟩:∃z,m.p=z:=⟨_,rfl⟩;have e7:=hid aU;have HZ:=hid L;by_cases h19:st=19
   ·have ho:o=none:=by
     refine(run_end N.out ?_).symm;unfold Hr;rw[if_pos (aU.trans h19)]
    subst h19;have HO:=hid ho;clear b6 D a1 r aU L ho;have c2:=y.out.x2;rw[e7.out]at c2;have XU:=hid (e5.out _ _ _ y.out);have b3:=hid (f0.out _ _ _ y.out);go_wp2_with (refine aI XU.out U0 none 0 0 (.tmp 4) (.tmp 67) rfl rfl rfl rfl ?_)
    try simp only[Exit.inBlock,Exit.then]
    refine bodyPost_ret (Iq.LD (u:=U0) (p:=.slice none 0 0) rfl (XU.out.row U0 _) 2 _ rfl rfl) rfl ?_;rw[HO.out];exact⟨below_setRow b3.out (Nat.le_refl _) _,none,0,0,rfl,Qh _ rfl⟩
   have n2:((st:Int)==19)=false:=by simp;omega
   have n0:((st:Int) !=19)=true:=by simp;omega
   have Y:st<19:=by rcases D with⟨h,_⟩;rw[aU]at h;omega
   have e0: -1≤z∧z≤k.T.length∧Bq s m (z+1)∧(st=10→m.buf.all nU=true):=by
    rcases D with⟨_,h|h⟩
    ·exact absurd (aU.symm.trans h) h19
    rw[aU,L]at h;exact h
   have n3:z≤200000:=by have:=b9.out;omega
   have n4: -1≤z:=e0.1;have P:=hid e0;have j2:=hid Y;clear e0 Y;by_cases hneg:z<0
   ·have k7:z= -1:=by omega
    have l2:¬(0:Int)≤z:=by omega
    have E:Hid (Hr k.T k.base m=.go {m with p:=z+1}):=by
     show _=_;unfold Hr;rw[if_neg (by rw[aU];exact h19),if_pos (by rw[L];exact hneg),L]
    clear b6 D a1 r aU L h19 k7 hneg;have c2:=y.out.x2;have Q:=y.out.x1;have z1:=y.out.thaw 1;rw[e7.out]at c2;rw[HZ.out]at Q;have j4:=hid (y.out.p (z+1));go_wp2;go_roundw
    case rel=>exact(O.out _ _ _ j4.out E.out).1
    case measure=>exact(O.out _ _ _ j4.out E.out).2
   obtain⟨j,hj⟩:∃j:Nat,z=(j:Int):=⟨z.toNat,by omega⟩;subst hj;obtain⟨R,hR⟩:∃R,k.T.drop j=R:=⟨_,rfl⟩;have HR:=hid hR;obtain⟨e,he⟩:∃e,decide (R=[])=e:=⟨_,rfl⟩;have HE:=hid he;obtain⟨m2,a2⟩:∃x,aX k.base m R=x:=⟨_,rfl⟩;have m6:=hid a2;obtain⟨z2,b5⟩:∃z,m2.p=z:=⟨_,rfl⟩;have I:=hid b5;have l2:(0:Int)≤(j:Int):=by omega
   have g7:j≤k.T.length:=by have:=P.out.2.1;omega
   have d4:m.buf.length≤900000:=by have:=P.out.2.2.1.buf;omega
   have n6: -900002≤z2:=by have:=Y7 (m:=m) (base:=k.base) (R:=R) (by rw[L];omega);rw[a2,b5]at this;omega
   have n7:z2≤200001:=by
    have:=WC (m:=m) (base:=k.base) (R:=R) (by rw[L];omega);rw[a2,b5,L]at this;rcases this with h|⟨_,h⟩<;>omega
   have W:=fun(w':World) (h:MX k m q w')=>acv.abm dp h L hR (by have:=b9.out;omega) g7 d4 (by have:=P.out.2.2.1.tx;have:=c3.out;omega) (by rw[aU];exact P.out.2.2.2) (by omega) j7.out j6.out (by have:=b9.out;omega) (by have:=P.out.2.2.1.pt;have:=c3.out;omega) (by have:=P.out.2.2.1.cr;have:=c3.out;omega) (by rw[aU];exact j2.out);have e6:=hid W;have g6:Hr k.T k.base m=jW.out k.T e m2:=by
    unfold Hr;rw[if_neg (by rw[aU];exact h19),if_neg (by rw[L];omega),L,Int.toNat_natCast,hR,a2,ac4 hR,he]
   have a7:=hid g6;have m9:Hid ((ah k.T).size=k.T.length):=ak _;obtain⟨TL,a5⟩:∃x,k.T.length=x:=⟨_,rfl⟩;have a6:=hid a5;have i8:Hid (TL≤200000):=by show _≤_;rw[←a5];exact b9.out
   clear b6 D a1 r aU L h19 hneg hR he a2 b5 g7 d4 W g6 a5;have c2:=y.out.x2;have Q:=y.out.x1;rw[e7.out]at c2;rw[HZ.out]at Q;go_wp2_with fail
   clear Q c2;refine dO y (lu y.out HZ.out HR.out HE.out) fun w5 HMX5=>?_;go_wp2_with fail
   refine(e6.out _ HMX5.out).mono ?_;rintro e_ w6 ⟨rfl,q2,d9⟩;rw[m6.out]at d9;have b0:=hid d9;clear d9;rcases e with _|_
   ·have E:Hid (Hr k.T k.base m=.go {m2 with p:=z2+1}):=by
     show _=_;rw[a7.out,mP (.inl rfl),I.out]
    go_wp2
    go_quiet (fail)
    generalize hwd:World.drewN w6 _=w7;have d:Hid (MX k m2 q2 w7):=by show MX _ _ _ _;rw[←hwd];exact b0.out.below (Base.below_drewN (Below.refl _ _) _)
    clear hwd;have Q:=d.out.x1;have z1:=d.out.thaw 1;rw[I.out]at Q;have a9:=hid (d.out.p (z2+1));go_wp2;go_roundw
    case rel=>exact(O.out _ _ _ a9.out E.out).1
    case measure=>exact(O.out _ _ _ a9.out E.out).2
   have c0:=b0.out.x0;have Q:=b0.out.x1;rw[I.out]at Q;have e2:=m9.out;rw[a6.out]at e2;have n5:=i8.out;by_cases hend:(TL:Int)≤z2
   ·have ho:jW.ans m2=o:=by
     refine run_end N.out ?_;rw[a7.out,out_stop (by rw[a6.out,I.out];exact hend)]
    have HO:=hid ho;clear ho;go_wp2
    go_quiet (fail)
    clear c0 Q e2;generalize hwd:World.drewN w6 _=w7;have d:Hid (MX k m2 q2 w7):=by show MX _ _ _ _;rw[←hwd];exact b0.out.below (Base.below_drewN (Below.refl _ _) _)
    clear hwd;obtain⟨sv,V⟩:∃x,m2.st=x:=⟨_,rfl⟩;have i9:=hid V;by_cases h19:sv=19
    ·subst h19;have e8:Hid (o=none):=by show _=_;rw[←HO.out];unfold jW.ans;rw[if_pos V]
     clear V HO;have HO:=e8;have c2:=d.out.x2;rw[i9.out]at c2;have XU:=hid (e5.out _ _ _ d.out);have b3:=hid (f0.out _ _ _ d.out);go_wp2_with (refine aI XU.out U0 none 0 0 (.tmp 4) (.tmp 67) rfl rfl rfl rfl ?_)
     try simp only[Exit.inBlock,Exit.then]
     refine bodyPost_ret (Iq.LD (u:=U0) (p:=.slice none 0 0) rfl (XU.out.row U0 _) 2 _ rfl rfl) rfl ?_;rw[HO.out];exact⟨below_setRow b3.out (Nat.le_refl _) _,none,0,0,rfl,Qh _ rfl⟩
    have e8:Hid (o=some m2.u):=by show _=_;rw[←HO.out];unfold jW.ans;rw[if_neg (by rw[V];exact h19)]
    have n1:((sv:Int)==19)=false:=by simp;omega
    clear V h19;have c2:=d.out.x2;rw[i9.out]at c2;have XU:=hid (e5.out _ _ _ d.out);have b3:=hid (f0.out _ _ _ d.out);obtain⟨u,hu⟩:∃u,m2.u=u:=⟨_,rfl⟩;have J:=hid hu;obtain⟨pA,pc,l1,k9,l0,_⟩:=aS d.out.own;subst l1;obtain⟨pn,d1⟩:∃x,m2.u.aF.length=x:=⟨_,rfl⟩;have j3:=hid d1;clear hu k9 l0 d1;have c4:=d.out.x4;rw[J.out]at c4;have c5:=d.out.x5;rw[J.out]at c5;have c6:=d.out.x6;rw[J.out]at c6;have c7:=d.out.x7;rw[J.out]at c7;have c8:=d.out.x8;rw[J.out]at c8;have c9:=d.out.x9;rw[J.out]at c9;have m3:=d.out.x10;rw[J.out]at m3;have m1:=d.out.x11;rw[J.out]at m1;have l8:=d.out.x12;rw[j3.out]at l8;have l6:=d.out.ZX;rw[J.out]at l6;have l5:=d.out.x14;rw[J.out]at l5;have l4:=d.out.x15;rw[J.out]at l4;have l3:=d.out.x16;rw[J.out]at l3;go_wp2_with (refine aI XU.out u pA pn pc (.tmp 4) (.tmp 71) rfl rfl rfl rfl ?_)
    try simp only[Exit.inBlock,Exit.then]
    have d2:=RG d.out.own m7.out (cells u (.slice pA pn pc));refine bodyPost_ret (Iq.LD (u:=u) (p:=.slice pA pn pc) rfl (XU.out.row u _) 0 _ rfl rfl) rfl ?_;rw[e8.out,J.out];refine⟨below_setRow b3.out (Nat.le_refl _) _,pA,pn,pc,rfl,?_⟩;rw[j3.out,J.out]at d2;obtain⟨A',c',e',h1,h2,h3⟩:=aS d2;cases e';exact⟨h3,h1,h2⟩
   have E:Hid (Hr k.T k.base m=.go {m2 with p:=z2+1}):=by
    show _=_;rw[a7.out,mP (.inr (by rw[a6.out,I.out];omega)),I.out]
   go_wp2
   go_quiet (fail)
   clear c0 Q e2;generalize hwd:World.drewN w6 _=w7;have d:Hid (MX k m2 q2 w7):=by show MX _ _ _ _;rw[←hwd];exact b0.out.below (Base.below_drewN (Below.refl _ _) _)
   clear hwd;have Q:=d.out.x1;have z1:=d.out.thaw 1;rw[I.out]at Q;have a9:=hid (d.out.p (z2+1));go_wp2;go_roundw
   case rel=>exact(O.out _ _ _ a9.out E.out).1
   case measure=>exact(O.out _ _ _ a9.out E.out).2
theorem LP {T:ByteArray} {u:U} (d:aJ.url T.data.toList none=some u) (a:T.size≤65536) (w:World):Calls prog 6 #[.string T,.pointer none] w fun e w'=>∃A' n' c',e=.returned (.tuple #[.agg #[.string (ah u.au),.string (ah u.bY),.string (ah u.bZ),.string (ah u.aU),.bool u.hh,.int .i64 u.port,.bool u.dK,.string (ah u.txt),.slice A' n' c',.bool u.hq,.bool u.hf,.string (ah u.bT),.string (ah u.eY)],.int .i64 0])∧Pt w' u A' n' c'∧Below w.heap.size w w':=by
 have h:=DK T.data.toList none _ w (by rw[dl];exact a) (.inl ⟨rfl,rfl⟩);rw[bF,d]at h;exact h.mono fun e w' ⟨h1,A,n,c,h2,h3⟩=>⟨A,n,c,h2,⟨h3⟩,h1⟩
theorem LM {T:ByteArray} {u:U} (a:u=U0) (f:aJ.url T.data.toList none=none) (d:T.size≤65536) (w:World):Calls prog 6 #[.string T,.pointer none] w fun e w'=>∃A' n' c',e=.returned (.tuple #[.agg #[.string (ah u.au),.string (ah u.bY),.string (ah u.bZ),.string (ah u.aU),.bool u.hh,.int .i64 u.port,.bool u.dK,.string (ah u.txt),.slice A' n' c',.bool u.hq,.bool u.hf,.string (ah u.bT),.string (ah u.eY)],.int .i64 2])∧Pt w' u A' n' c'∧Below w.heap.size w w':=by
 subst a;have h:=DK T.data.toList none _ w (by rw[dl];exact d) (.inl ⟨rfl,rfl⟩);rw[bF,f]at h;exact h.mono fun e w' ⟨h1,A,n,c,h2,h3⟩=>⟨A,n,c,h2,⟨h3⟩,h1⟩
theorem Jm {T:ByteArray} {b u:U} {N:Nat} (a:Di.Ok b) (hf:o8.Fit b N) (j:N≤100000) (f:aJ.url T.data.toList (some b)=some u) (d:T.size≤65536) (gb:Nat) (A:Option Addr) (n c:Nat) (g:n≤100000) (w:World) (k:UB w gb b (.slice A n c)) (i:Pt w b A n c):Calls prog 6 #[.string T,.pointer (some ⟨gb,0,none⟩)] w fun e w'=>∃A' n' c',e=.returned (.tuple #[.agg #[.string (ah u.au),.string (ah u.bY),.string (ah u.bZ),.string (ah u.aU),.bool u.hh,.int .i64 u.port,.bool u.dK,.string (ah u.txt),.slice A' n' c',.bool u.hq,.bool u.hf,.string (ah u.bT),.string (ah u.eY)],.int .i64 0])∧Pt w' u A' n' c'∧Below w.heap.size w w':=by
 have h:=DK T.data.toList (some b) _ w (by rw[dl];exact d) (.inr ⟨b,gb,A,n,c,rfl,rfl,g,a,hf.mono j,k,i.aF⟩);rw[bF,f]at h;exact h.mono fun e w' ⟨h1,A,n,c,h2,h3⟩=>⟨A,n,c,h2,⟨h3⟩,h1⟩
theorem Jl {T:ByteArray} {b u:U} {N:Nat} (a:Di.Ok b) (hf:o8.Fit b N) (k:N≤100000) (d:u=U0) (g:aJ.url T.data.toList (some b)=none) (f:T.size≤65536) (gb:Nat) (A:Option Addr) (n c:Nat) (i:n≤100000) (w:World) (l:UB w gb b (.slice A n c)) (j:Pt w b A n c):Calls prog 6 #[.string T,.pointer (some ⟨gb,0,none⟩)] w fun e w'=>∃A' n' c',e=.returned (.tuple #[.agg #[.string (ah u.au),.string (ah u.bY),.string (ah u.bZ),.string (ah u.aU),.bool u.hh,.int .i64 u.port,.bool u.dK,.string (ah u.txt),.slice A' n' c',.bool u.hq,.bool u.hf,.string (ah u.bT),.string (ah u.eY)],.int .i64 2])∧Pt w' u A' n' c'∧Below w.heap.size w w':=by
 subst d;have h:=DK T.data.toList (some b) _ w (by rw[dl];exact f) (.inr ⟨b,gb,A,n,c,rfl,rfl,i,a,hf.mono k,l,j.aF⟩);rw[bF,g]at h;exact h.mono fun e w' ⟨h1,A,n,c,h2,h3⟩=>⟨A,n,c,h2,⟨h3⟩,h1⟩
end Tv
