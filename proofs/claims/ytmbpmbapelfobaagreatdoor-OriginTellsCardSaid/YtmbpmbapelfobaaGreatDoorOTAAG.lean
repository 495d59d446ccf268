/- Lemmas. -/
import Derived.Test.YtmbpmbapelfobaaGreatDoorOTAAF
import Derived.Sort.Grow
set_option linter.unusedSimpArgs false
set_option linter.unusedVariables false
set_option maxRecDepth 100000
set_option maxHeartbeats 64000000
namespace Go.Proofs.YtmbpmbapelfobaaGreatDoor
open Tryz
namespace N7
open Go.RowKit Base aV dw lX KN YJ NZ
theorem Iy (L:List UInt8) (h:num L=none):Gw L=.tuple #[.int .u64 0,.bool false]:=by unfold Gw;rw[h]
theorem Iz (L:List UInt8) (v:Nat) (h:num L=some v):Gw L=.tuple #[.int .u64 (sat v),.bool true]:=by unfold Gw;rw[h]
theorem IB (L:List UInt8) (h:num L=none):Gx L= -1:=by unfold Gx;rw[h];rfl
theorem IC (L:List UInt8) (v:Nat) (h:num L=some v):∃D:Nat,Gx L=D∧D≤17592186044431∧((D<1099511627776∧D=v)∨(1099511627776≤D∧1099511627776≤v)):=by
 have c:=XI L;have a:v=val (yT L).1 (yT L).2:=by
  unfold num at h;split at h
  ·cases h
  split at h
  ·exact(Option.some.inj h).symm
  cases h
 refine⟨big (yT L).1 (yT L).2,by unfold Gx;rw[h];rfl,Vk _ (by omega) _,?_⟩;have:=YW (yT L).1 (by omega) (yT L).2;rw[←a]at this;exact this
theorem QS (L:List UInt8):(lst L).length≤L.length:=by
 unfold lst;cases h:(dh L).getLast? with
 |none=>simp
 |some x=>exact nX L x (List.mem_of_getLast? h)
theorem VH (s:ByteArray) (w:World) (hs:s.size≤900000):Calls prog 163 #[.string s] w fun e w'=>e=.returned (.bool (ends s.data.toList))∧Below w.heap.size w w':=by
 have J:s.data.toList.length=s.size:=Array.length_toList;obtain⟨K,E⟩:∃K,K=lst (vN s.data.toList):=⟨_,rfl⟩;obtain⟨o,L⟩:∃o,o=ends s.data.toList:=⟨_,rfl⟩;have t:o=((num K).isSome||(decide (K≠[])&&fV 10 K)):=by rw[L,E];rfl
 obtain⟨U,D⟩:∃U,U=ah (vN s.data.toList):=⟨_,rfl⟩;have q:U.data.toList=vN s.data.toList:=by rw[D];rfl
 have T:U.size≤900000:=by rw[D,ak];have:=xO s.data.toList;omega
 obtain⟨g,l,A⟩:=SE U;rw[q,←E]at g;obtain⟨d,m⟩:∃a,a=Lib.lastIndexByte U 46:=⟨_,rfl⟩;rw[←m]at g l A;obtain⟨n,P⟩:∃n:Nat,(n:Int)=d+1:=⟨(d+1).toNat,by omega⟩;have x:n=(d+1).toNat:=by omega
 rw[←x]at g;obtain⟨Y,C⟩:∃Y,Y=ah K:=⟨_,rfl⟩;have a0:U.extract n U.size=Y:=by rw[dJ.ext_drop _ _ _ rfl,q,g,C]
 have B:Y.data.toList=K:=by rw[C];rfl
 have i:Y.size≤1073741824:=by
  have h1:=QS (vN s.data.toList);have h2:=xO s.data.toList;rw[C,ak,E];omega
 have V:(n:Int)≤(U.size:Int):=by omega
 have W:(0:Int)≤(n:Int):=by omega
 have j:(Y.toList==[])=decide (K=[]):=by rw[C];unfold ah;rw[ByteArray.toList_mk,Bool.eq_iff_iff];simp
 have Q:=hid t;have HU:=hid D;have N:=hid m;have HN:Hid (d+1=(n:Int)):=P.symm;have k:=hid B;rw[←L];have Z: -1≤d:=l;have X:d<900000:=by omega
 clear L t E D q g l A m P x C B J;go_enter func163,ntmps163;go_wp2_with fail
 refine(Dn s _ (by omega)).mono ?_;rintro e w2 ⟨rfl,I⟩;subst I;rw[←HU.out];go_wp2_with fail
 refine(strings_LastIndexByte U 46 _ (by omega)).mono ?_;rintro e w3 ⟨rfl,H⟩;subst H;rw[←N.out];have hN:=HN.out;cases hk:num K with
 |some v=>
  have HV:=hid (Iz K v hk);have F:Hid (o=true):=by show _=_;rw[Q.out,hk];rfl
  clear hk;go_wp2_with fail
  refine(jf Y _ i).mono ?_;rw[k.out,HV.out];rintro e O ⟨rfl,f⟩;subst f;go_wp2;go_ret;exact⟨aH F.symm,Below.refl _ _⟩
 |none=>
  have HV:=hid (Iy K hk);have F:Hid (o=(decide (K≠[])&&fV 10 K)):=by show _=_;rw[Q.out,hk];rfl
  clear hk;by_cases hke:K=[]
  ·have c:(Y.toList==[])=true:=by rw[j];exact decide_eq_true hke
   have z:Y.toList=[]:=by simpa using c
   have y:(Y.toList !=[])=false:=by rw[bne,c];rfl
   have r:Hid (o=false):=by show _=_;rw[F.out,decide_eq_false (fun h=>h hke)];rfl
   clear j hke;go_wp2_with fail
   refine(jf Y _ i).mono ?_;rw[k.out,HV.out];rintro e O ⟨rfl,f⟩;subst f;go_wp2;go_ret;exact⟨aH r.symm,Below.refl _ _⟩
  have c:(Y.toList==[])=false:=by rw[j];exact decide_eq_false hke
  have z:Y.toList.isEmpty=false:=by
   cases h:Y.toList with
   |nil=>rw[h]at c;cases c
   |cons _ _=>rfl
  have y:(Y.toList !=[])=true:=by rw[bne,c];rfl
  have r:Hid (o=fV 10 K):=by show _=_;rw[F.out,decide_eq_true hke];rfl
  clear j hke;go_wp2_with fail
  refine(jf Y _ i).mono ?_;rw[k.out,HV.out];rintro e O ⟨rfl,f⟩;subst f;go_wp2_with fail
  refine(jH Y 10 _ i).mono ?_;rw[k.out];rintro e w5 ⟨rfl,G⟩;subst G;go_wp2;go_ret;exact⟨aH r.symm,Below.refl _ _⟩
theorem last_any {α:Type} (l:List α) (n:Nat) (a:n=l.length) (c:0<n):∃h:n - 1<l.length,l.getLast?=some l[n - 1]:=by
 subst a;exact⟨by omega,by rw[List.getLast?_eq_getElem?,List.getElem?_eq_getElem]⟩
theorem Dc (s:ByteArray) (w:World) (hs:s.size≤900000):Calls prog 172 #[.string s] w fun e w'=>e=.returned (.bool (ends s.data.toList))∧Below w.heap.size w w':=by
 have Z:s.data.toList.length=s.size:=Array.length_toList;obtain⟨K,T⟩:∃K,K=lst (vN s.data.toList):=⟨_,rfl⟩;obtain⟨o,ho⟩:∃o,o=ends s.data.toList:=⟨_,rfl⟩;have H:o=((num K).isSome||(decide (K≠[])&&fV 10 K)):=by rw[ho,T];rfl
 obtain⟨R,hR⟩:∃R,R=prt (dh s.data.toList):=⟨_,rfl⟩;have l:R=dh (vN s.data.toList):=by rw[hR,MP]
 have a0:R.length≤s.size+1:=by have W:=oP (vN s.data.toList);have V:=xO s.data.toList;rw[l];omega
 have r:0<R.length:=by rw[l];exact List.length_pos_iff.2 (oG _)
 obtain⟨a,f⟩:=last_any R R.length rfl r;have O:R[R.length - 1]=K:=by
  rw[T];unfold lst;rw[←l,f];rfl
 obtain⟨Y,C⟩:∃Y,Y=ah K:=⟨_,rfl⟩;have N:Y.data.toList=K:=by rw[C];rfl
 have E:K.length=Y.size:=by rw[C,ak]
 have b0:Y.size≤900000:=by
  have W:=QS (vN s.data.toList);have V:=xO s.data.toList;rw[C,ak,T];omega
 have J:(Y.toList==[])=decide (K=[]):=by rw[C];unfold ah;rw[ByteArray.toList_mk,Bool.eq_iff_iff];simp
 have HO:=hid H;have HR:=hid hR;have B:=hid N;have P:=hid E;have a3:Hid (∀n,n=R.length→∃h:n - 1<R.length,R[n - 1]=K):=by
  rintro n rfl;exact⟨a,O⟩
 have HY:=hid C;rw[←ho];clear ho H T hR l f O a C N Z E;go_enter func172,ntmps172;go_wp2_with fail
 refine(Ah s _ hs).mono ?_;rw[←HR.out];rintro e w2 ⟨A,n,c,rfl,hn,b5,a1,G,L⟩;rw[←hn]at a0 r;obtain⟨W,V⟩:=a3 n hn;obtain⟨g,off,rfl,hg,i⟩:=G.spot r;have a2:=i (n - 1) (by rw[List.length_map,List.length_map];exact W);rw[List.getElem_map,List.getElem_map,V,←HY.out]at a2;have HB:=hid L;have b3:((n:Int) - 1).toNat=n - 1:=by omega
 unfold maxLen at a1;clear hn G i W V L;obtain⟨m,y⟩:∃m,m=decide (K≠[]):=⟨_,rfl⟩;have a5:=hid y;have q:(Y.toList==[])= !m:=by rw[J,y];by_cases h:K=[]<;>simp[h]
 have a8:(Y.toList !=[])=m:=by rw[bne,q,Bool.not_not]
 have a9:Y.toList.isEmpty= !m:=by
  rw[←q];cases Y.toList<;>rfl
 clear J y;go_wp2;go_loopw [5,6,19] (fun vd _ vk wr=>∃k:Nat,k≤Y.size∧vk=.int .i64 (k:Int)∧wr=w2∧vd=.bool (m&&fV 10 (K.take k))) (fun _ _ vk _=>Y.size - (intOf vk).toNat)
 case atStart=>exact⟨0,Nat.zero_le _,rfl,rfl,by simp[fV]⟩
 case round=>
  obtain⟨k,t,rfl,rfl,rfl⟩:=hrel;obtain⟨d,hd⟩:∃d,d=(m&&fV 10 (K.take k)):=⟨_,rfl⟩;rw[←hd];have HD:=hid hd;clear hd;by_cases a:k<Y.size
  ·obtain⟨x,hx⟩:∃x,Y[k]=x:=⟨_,rfl⟩;have I:k<K.length:=by rw[P.out];exact a
   have F:K[k]=x:=by
    have:Y.data.toList[k]?=some x:=by rw[←hx];exact Lib.data_getElem? Y k a
    rw[B.out]at this;obtain⟨_,e⟩:=List.getElem?_eq_some_iff.1 this;exact e
   have HS:Hid (K.take (k+1)=K.take k++[x]):=by rw[←F];exact fQ _ k I
   have Q:Hid ((m&&fV 10 (K.take (k+1)))=(d&&mP 10 x)):=by
    show _=_;rw[HS.out,HD.out];unfold fV;rw[List.all_append,List.all_cons,List.all_nil,Bool.and_true,Bool.and_assoc]
   obtain⟨b,hb⟩:∃b,b=dw.digit x.toNat:=⟨_,rfl⟩;have a7:=hid hb;have a6:Hid (b=mP 10 x):=hb.trans (sS x);clear I F hb;cases d with
   |true=>
    go_wp2_with fail
    refine(nK.iJ _ _).mono ?_;rintro e w3 ⟨rfl,X⟩;subst X;rw[←a7.out];go_wp2;go_roundw
    case rel=>exact⟨k+1,by omega,by go_num,by first|rfl|trivial,by rw[Q.out,a6.out];rfl⟩
    case measure=>simp[intOf];omega
   |false=>
    go_wp2;go_roundw
    case rel=>exact⟨k+1,by omega,by go_num,by first|rfl|trivial,by rw[Q.out];rfl⟩
    case measure=>simp[intOf];omega
  obtain rfl:k=Y.size:=by omega
  have a4:Hid (d=(m&&fV 10 K)):=by show _=_;rw[HD.out,List.take_of_length_le (by rw[P.out];exact Nat.le_refl _)]
  have HE:Hid (o=((num K).isSome||d)):=by show _=_;rw[HO.out,a4.out,a5.out]
  cases d with
  |true=>
   have j:Hid (o=true):=by show _=_;rw[HE.out,Bool.or_true]
   go_wp2;go_ret;exact⟨aH j.symm,HB⟩
  |false=>
   cases t:num K with
   |none=>
    have HV:=hid (IB K t);have j:Hid (o=false):=by show _=_;rw[HE.out,t];rfl
    clear t;go_wp2_with fail
    refine(ji Y _ (by omega)).mono ?_;rw[B.out,HV.out];rintro e w4 ⟨rfl,z⟩;go_wp2;go_ret;exact⟨aH j.symm,bD HB z⟩
   |some v=>
    obtain⟨D,hD,_,_⟩:=IC K v t;have HV:=hid hD;have j:Hid (o=true):=by show _=_;rw[HE.out,t];rfl
    have b6:(0:Int)≤(D:Int):=by omega
    clear t hD;go_wp2_with fail
    refine(ji Y _ (by omega)).mono ?_;rw[B.out,HV.out];rintro e w4 ⟨rfl,z⟩;go_wp2;go_ret;exact⟨aH j.symm,bD HB z⟩
end N7
namespace vI
open Go.RowKit Base lX KN NZ N7
def nO (o:Option Nat):Value:=match o with
 |some v=>.tuple #[.int .u32 v,.bool true]
 |none=>.tuple #[.int .u32 0,.bool false]
theorem jy (o:Option Nat) (h:o=none):nO o=.tuple #[.int .u32 0,.bool false]:=by rw[h];rfl
theorem tH (o:Option Nat) (v:Nat) (h:o=some v):nO o=.tuple #[.int .u32 v,.bool true]:=by rw[h];rfl
theorem drop_at {α:Type} (R:List α) (k:Nat) (p:α) (a:k<R.length) (h:R[k]=p):R.drop k=p::R.drop (k+1):=by rw[←h];exact List.drop_eq_getElem_cons a
theorem Ve (a c:Nat) (p:List UInt8) (r:List (List UInt8)) (h:num p=none):xU a c (p::r)=none:=by
 cases r<;>(unfold xU;rw[h])
theorem yX (a c:Nat) (p:List UInt8) (v:Nat) (h:num p=some v) (d:v<a):xU a c [p]=some (c+v):=by unfold xU;rw[h];simp only;rw[if_pos d]
theorem CP (a c:Nat) (p:List UInt8) (v:Nat) (h:num p=some v) (d:¬v<a):xU a c [p]=none:=by unfold xU;rw[h];simp only;rw[if_neg d]
theorem Em (a c:Nat) (p q:List UInt8) (r:List (List UInt8)) (v:Nat) (h:num p=some v) (d:v≤255):xU a c (p::q::r)=xU (a / 256) (c+v*(a / 256)) (q::r):=by
 conv=>lhs;unfold xU
 rw[h];simp only;rw[if_pos d]
theorem Bg (a c:Nat) (p q:List UInt8) (r:List (List UInt8)) (v:Nat) (h:num p=some v) (d:¬v≤255):xU a c (p::q::r)=none:=by unfold xU;rw[h];simp only;rw[if_neg d]
theorem drop_end {α:Type} (R:List α) (k:Nat) (h:R.length=k):R.drop k=[]:=by subst h;exact List.drop_length
def mk:Nat→Nat
 |0=>4294967296
 |1=>16777216
 |2=>65536
 |3=>256
 |_=>1
theorem XE (v m:Nat) (a:m≤4294967296):v<m↔sat v<m:=by unfold sat;omega
theorem XD (v:Nat) (h:sat v<4294967296):sat v=v:=by unfold sat at h⊢;omega
theorem jS (s:ByteArray) (w:World) (hs:s.size≤900000) (hM:Max w):Calls prog 164 #[.string s] w fun e w'=>e=.returned (nO (Dx s.data.toList))∧Below w.heap.size w w':=by
 have a5:s.data.toList.length=s.size:=Array.length_toList;obtain⟨S,hS⟩:∃S,S=Dx s.data.toList:=⟨_,rfl⟩;obtain⟨R,hR⟩:∃R,R=dh (vN s.data.toList):=⟨_,rfl⟩;have b3:S=if R.length≤4 then xU 4294967296 0 R else none:=by rw[hS,hR];rfl
 obtain⟨U,hU⟩:∃U,U=ah (vN s.data.toList):=⟨_,rfl⟩;have a9:U.data.toList=vN s.data.toList:=by rw[hU];rfl
 have b8:(vN s.data.toList).length≤s.size:=by rw[←a5];exact xO _
 have c6:U.size≤900000:=by rw[hU,ak];omega
 have a6:0<R.length:=by rw[hR];exact List.length_pos_iff.2 (oG _)
 have b9:R.length≤900001:=by have:=oP (vN s.data.toList);rw[hR];omega
 have a1:Hid (∀p ∈ R,p.length≤900000):=by
  intro p W;rw[hR]at W;have:=nX _ p W;omega
 have b0:dh U.data.toList=R:=by rw[a9,hR]
 have c2:=hid b0;have HU:=hid hU;have c3:=hid hM;have b6:=hid b3;rw[←hS];clear hS b3 hR hU a9 b8 b0 hM a5;go_enter func164,ntmps164;go_wp2_with fail
 refine(Dn s _ (by omega)).mono ?_;rintro e w2 ⟨rfl,b7⟩;subst b7;rw[←HU.out];go_wp2_with fail
 refine(Un U _ (by omega) c3).mono ?_;rw[c2.out];rintro e w3 ⟨A,n,c,rfl,hn,c7,c0,a7,hb⟩;rw[←hn]at a6 b9;obtain⟨g,off,rfl,hg,E⟩:=a7.spot a6;have a3:=hid E;have HB:=hid hb;have Q:=hid hn;unfold maxLen at c0;clear hn a7 E hb;by_cases h4:n≤4
 ·have b5:¬(3:Int)<(n:Int) - 1:=by omega
  have c1:Hid (S=xU 4294967296 0 (R.drop 0)):=by show _=_;rw[b6.out,if_pos (by rw[←Q.out];exact h4),List.drop_zero]
  go_wp2;obtain⟨q,hq⟩:∃q:Int,q=(n:Int) - 1:=⟨_,rfl⟩;rw[←hq];have HQ:=hid hq;clear hq b5;generalize decide ((3:Int)<q)=dd;go_loopw [6,7,8,9,10,21] (fun va _ _ _ _ vk wr=>∃(k a:Nat),k≤n∧vk=.int .i64 (k:Int)∧wr=w3∧va=.int .u64 (a:Int)∧a<4294967296∧Hid (k<n→a+mk k≤4294967296)∧Hid (S=xU (mk k) a (R.drop k))) (fun _ _ _ _ _ vk _=>n - (intOf vk).toNat)
  case atStart=>exact⟨0,0,Nat.zero_le _,rfl,rfl,rfl,by omega,fun _=>Nat.le_refl _,c1⟩
  case round=>
   obtain⟨k,a,hk,rfl,rfl,rfl,Z,c5,HW⟩:=hrel;by_cases hlt:k<n
   ·have f := c5 hlt;have D:k=0∨k=1∨k=2∨k=3:=by omega
    have y:mk k≤4294967296:=by rcases D with rfl|rfl|rfl|rfl<;>decide
    obtain⟨p,W⟩:∃p,p=R[k]'(by rw[←Q.out];exact hlt):=⟨_,rfl⟩;obtain⟨Y,hY⟩:∃Y,Y=ah p:=⟨_,rfl⟩;have z:=a3 k (by rw[List.length_map,List.length_map,←Q.out];exact hlt);rw[List.getElem_map,List.getElem_map,←W,←hY]at z;have H:Hid (Y.data.toList=p):=by show _=_;rw[hY];rfl
    have B:Y.size≤1073741824:=by
     rw[hY,ak];have:=a1 p (by rw[W];exact List.getElem_mem _);omega
    have L:Hid (R.drop k=p::R.drop (k+1)):=drop_at R k p (by rw[←Q.out];exact hlt) W.symm;clear W hY;cases hnp:num p with
    |none=>
     have HV:=hid (Iy p hnp);have l:=hid (jy S (by rw[HW.out,L.out];exact Ve _ _ _ _ hnp));clear hnp y f;rcases D with rfl|rfl|rfl|rfl
     all_goals
      try rw[Nat.add_zero]at z
      go_wp2_with fail
      refine(jf Y _ B).mono ?_;rw[H.out,HV.out];rintro e w4 ⟨rfl,j⟩;subst j;go_wp2;go_ret2;exact⟨by rw[l.out];rfl,HB⟩
    | some v=>
     have HV:=hid (Iz p v hnp);obtain⟨x,hx⟩:∃x,x=sat v:=⟨_,rfl⟩;have N:x≤4294967296:=by rw[hx];unfold sat;omega
     rw[←hx]at HV;have V:(0:Int)≤(x:Int):=by omega
     have r:(x:Int)≤4294967296:=by omega
     by_cases hq:n=k+1
     ·have G:R.drop (k+1)=[]:=drop_end R _ (by rw[←Q.out];exact hq);have hA:((k:Int)==q)=true:=by have:=HQ.out;simp;omega
      have hB:¬(k:Int)<q:=by have:=HQ.out;omega
      have hC:4 - q=4 - (k:Int):=by have:=HQ.out;omega
      have a2:=hid hq;clear hq;by_cases hxm:x<mk k
      ·have C:x=v:=by rw[hx];exact XD v (by rw[←hx];omega)
       have l:=hid ((show S=xU (mk k) a [p]by rw[HW.out,L.out,G]).trans (yX (mk k) a p v hnp ((XE v (mk k) y).2 (by rw[←hx];exact hxm))));have I:=hid C;have c4:=hid G;have d:Hid ((a:Int)+(x:Int)=((a+v:Nat):Int)):=by show _=_;rw[I.out];omega
       have i:(x:Int)<(mk k:Int):=by omega
       have m:(a:Int)+(mk k:Int)≤4294967296:=by omega
       have F:(0:Int)≤(a:Int):=by omega
       have P:Hid (a+v<4294967296):=by have:=I.out;show _<_;omega
       have a0:Hid (S=xU (mk (k+1)) (a+v) (R.drop (k+1))):=by show _=_;rw[c4.out];exact l
       clear hnp hx C G hxm N r f y;rcases D with rfl|rfl|rfl|rfl
       all_goals
        try rw[Nat.add_zero]at z
        simp only[mk,Int.cast_ofNat_Int]at hA hB i m;simp only[Int.cast_ofNat_Int,Int.reduceSub]at hC;generalize (x:Int)=X at i V d HV;generalize (a:Int)=AC at m F d⊢;go_wp2_with fail
        refine(jf Y _ B).mono ?_;rw[H.out,HV.out];rintro e w4 ⟨rfl,j⟩;subst j;go_wp2;go_roundw
        case rel=>exact⟨_,a+v,by have:=a2.out;omega,by go_num,by first|rfl|trivial,by first|exact int_eq d|(rw[←d.out]),P,fun h=>absurd h (by have:=a2.out;omega),a0⟩
        case measure=>(have:=a2.out;simp[intOf];omega)
      have l:=hid (jy S ((show S=xU (mk k) a [p]by rw[HW.out,L.out,G]).trans (CP (mk k) a p v hnp (fun h=>hxm (by rw[hx];exact(XE v (mk k) y).1 h)))));have i:¬(x:Int)<(mk k:Int):=by omega
      clear hnp hx G hxm N f y;rcases D with rfl|rfl|rfl|rfl
      all_goals
       try rw[Nat.add_zero]at z
       simp only[mk,Int.cast_ofNat_Int]at hA hB i;simp only[Int.cast_ofNat_Int,Int.reduceSub]at hC;generalize (x:Int)=X at i V r HV;generalize (a:Int)=AC;go_wp2_with fail
       refine(jf Y _ B).mono ?_;rw[H.out,HV.out];rintro e w4 ⟨rfl,j⟩;subst j;go_wp2;go_ret2;exact⟨by rw[l.out];rfl,HB⟩
     have hA:((k:Int)==q)=false:=by have:=HQ.out;simp;omega
     have hB:(k:Int)<q:=by have:=HQ.out;omega
     have O:k=0∨k=1∨k=2:=by omega
     have t:k+1<n:=by omega
     obtain⟨p2,a8⟩:∃p2,p2=R[k+1]'(by rw[←Q.out];exact t):=⟨_,rfl⟩;have J:Hid (R.drop (k+1)=p2::R.drop (k+2)):=drop_at R (k+1) p2 (by rw[←Q.out];exact t) a8.symm;have T:=hid t;clear a8 hq t y D;by_cases hxm:x≤255
     ·have C:x=v:=by rw[hx];exact XD v (by rw[←hx];omega)
      have l:=(show S=xU (mk k) a (p::p2::R.drop (k+2))by rw[HW.out,L.out,J.out]).trans (Em (mk k) a p p2 (R.drop (k+2)) v hnp (by omega));rw[show mk k / 256=mk (k+1)by rcases O with rfl|rfl|rfl<;>rfl,←J.out]at l
      have a0:=hid l;have I:=hid C;have d:Hid ((a:Int)+(x:Int)*(mk (k+1):Int)=((a+v*mk (k+1):Nat):Int)):=by show _=_;rw[I.out];simp
      have i:(x:Int)≤255:=by omega
      have m:(a:Int)+(mk k:Int)≤4294967296:=by omega
      have F:(0:Int)≤(a:Int):=by omega
      have P:Hid (a+v*mk (k+1)<4294967296∧a+v*mk (k+1)+mk (k+1)≤4294967296):=by have:=I.out;show _∧_;rcases O with rfl|rfl|rfl<;>simp only[mk]at f⊢<;>omega
      clear hnp hx C hxm N r f l;rcases O with rfl|rfl|rfl
      all_goals
       try rw[Nat.add_zero]at z
       simp only[mk,Int.cast_ofNat_Int]at hA hB m;simp only[mk,Nat.reduceAdd,Int.cast_ofNat_Int]at d;generalize (x:Int)=X at i V d HV;generalize (a:Int)=AC at m F d⊢;go_wp2_with fail
       refine(jf Y _ B).mono ?_;rw[H.out,HV.out];rintro e w4 ⟨rfl,j⟩;subst j;go_wp2;go_roundw
       case rel=>exact⟨_,_,by have:=T.out;omega,by go_num,by first|rfl|trivial,by first|exact int_eq d|(rw[←d.out]),P.out.1,fun _=>P.out.2,a0⟩
       case measure=>(have:=T.out;simp[intOf];omega)
     have l:=hid (jy S ((show S=xU (mk k) a (p::p2::R.drop (k+2))by rw[HW.out,L.out,J.out]).trans (Bg (mk k) a p p2 (R.drop (k+2)) v hnp (fun h=>hxm (by rw[hx];unfold sat;omega)))));have i:¬(x:Int)≤255:=by omega
     have a4:(255:Int)<(x:Int):=by omega
     clear hnp hx hxm N f;rcases O with rfl|rfl|rfl
     all_goals
      try rw[Nat.add_zero]at z
      simp only[Int.cast_ofNat_Int]at hA hB;generalize (x:Int)=X at i a4 r HV;generalize (a:Int)=AC;go_wp2_with fail
      refine(jf Y _ B).mono ?_;rw[H.out,HV.out];rintro e w4 ⟨rfl,j⟩;subst j;go_wp2;go_ret2;exact⟨by rw[l.out];rfl,HB⟩
   obtain rfl:k=n:=by omega
   have l:=hid (tH S a (by rw[HW.out,drop_end R k Q.out.symm];rfl));have F:(0:Int)≤(a:Int):=by omega
   have m:(a:Int)<4294967296:=by omega
   clear Z;generalize (a:Int)=AC at F m l⊢;go_wp2;go_ret2;exact⟨by rw[l.out];rfl,HB⟩
 have b5:(3:Int)<(n:Int) - 1:=by omega
 have l:=hid (jy S (by rw[b6.out,if_neg (by rw[←Q.out];exact h4)]));go_wp2;go_ret2;exact⟨by rw[l.out];rfl,HB⟩
end vI
namespace YK
open Go.RowKit Base aV lX YJ NZ N7 vI
theorem Wy:mk 0=4294967296∧mk 1=16777216∧mk 2=65536∧mk 3=256:=⟨rfl,rfl,rfl,rfl⟩
theorem Af (s:ByteArray) (w:World) (hs:s.size≤900000):Calls prog 173 #[.string s] w fun e w'=>e=.returned (nO (Dx s.data.toList))∧Below w.heap.size w w':=by
 have a8:s.data.toList.length=s.size:=Array.length_toList;obtain⟨S,hS⟩:∃S,S=Dx s.data.toList:=⟨_,rfl⟩;obtain⟨R,hR⟩:∃R,R=prt (dh s.data.toList):=⟨_,rfl⟩;have H:R=dh (vN s.data.toList):=by rw[hR,MP]
 have b5:S=if R.length≤4 then xU 4294967296 0 R else none:=by rw[hS,H];rfl
 have c0:(vN s.data.toList).length≤s.size:=by rw[←a8];exact xO _
 have a9:0<R.length:=by rw[H];exact List.length_pos_iff.2 (oG _)
 have c1:R.length≤900001:=by have:=oP (vN s.data.toList);rw[H];omega
 have a6:Hid (∀p ∈ R,p.length≤900000):=by
  intro p hp;rw[H]at hp;have:=nX _ p hp;omega
 have HR:=hid hR;have b7:=hid b5;rw[←hS];clear hS b5 hR H c0 a8;go_enter func173,ntmps173;go_wp2_with fail
 refine(Ah s _ hs).mono ?_;rw[←HR.out];rintro e w3 ⟨A,n,c,rfl,hn,c6,c2,b0,hb⟩;rw[←hn]at a9 c1;have b8:=hid b0;have b9:=hid hb;have HN:=hid hn;unfold maxLen at c2;clear hn b0 hb;by_cases h4:n≤4
 ·have b6:¬(4:Int)<(n:Int):=by omega
  have c3:Hid (S=xU 4294967296 0 (R.drop 0)):=by show _=_;rw[b7.out,if_pos (by rw[←HN.out];exact h4),List.drop_zero]
  go_wp2;generalize decide ((4:Int)<(n:Int))=dd;go_loopw [5,6,7,8,16] (fun vm va _ _ vk wr=>∃(k a:Nat),k≤n∧vk=.int .i64 (k:Int)∧(k<n→vm=.int .i64 (mk k:Int))∧va=.int .i64 (a:Int)∧a<4294967296∧Hid (Below w.heap.size w wr)∧Hid (dW wr A n ((R.map ah).map Value.string))∧Hid (k<n→a+mk k≤4294967296)∧Hid (S=xU (mk k) a (R.drop k))) (fun _ _ _ _ vk _=>n - (intOf vk).toNat)
  case atStart=>exact⟨0,0,Nat.zero_le _,rfl,fun _=>rfl,rfl,by omega,b9,b8,fun _=>Nat.le_refl _,c3⟩
  case round=>
   clear b6;obtain⟨k,a,hk,rfl,D,rfl,i,HB,a5,c5,HW⟩:=hrel;by_cases hlt:k<n
   ·have j := c5 hlt;have F:k=0∨k=1∨k=2∨k=3:=by omega
    have E:mk k≤4294967296:=by rcases F with rfl|rfl|rfl|rfl<;>decide
    obtain rfl:=D hlt;obtain⟨p,hp⟩:∃p,p=R[k]'(by rw[←HN.out];exact hlt):=⟨_,rfl⟩;obtain⟨Y,hY⟩:∃Y,Y=ah p:=⟨_,rfl⟩;obtain⟨g,off,rfl,hg,G⟩:=a5.spot a9;have B:=G k (by rw[List.length_map,List.length_map,←HN.out];exact hlt);rw[List.getElem_map,List.getElem_map,←hp,←hY]at B;have J:Hid (Y.data.toList=p):=by show _=_;rw[hY];rfl
    have C:Y.size≤1073741824:=by
     rw[hY,ak];have:=a6 p (by rw[hp];exact List.getElem_mem _);omega
    have O:Hid (R.drop k=p::R.drop (k+1)):=drop_at R k p (by rw[←HN.out];exact hlt) hp.symm;have t:(0:Int)≤(a:Int):=by omega
    clear hp hY G;cases hnp:num p with
    |none=>
     have HV:=hid (IB p hnp);have m:=hid (jy S (by rw[HW.out,O.out];exact Ve _ _ _ _ hnp));clear hnp E j i;rcases F with rfl|rfl|rfl|rfl
     all_goals
      try rw[Nat.add_zero]at B
      simp only[Wy];generalize (a:Int)=AC at t⊢;go_wp2_with fail
      refine(ji Y _ C).mono ?_;rw[J.out,HV.out];rintro e P ⟨rfl,d⟩;have l:Hid (Below w.heap.size w P):=bD HB d;clear d;go_wp2;go_ret2;exact⟨by rw[m.out];rfl,l⟩
    | some v=>
     obtain⟨x,hx,V,T⟩:=IC p v hnp;have HV:=hid hx;have Z:(0:Int)≤(x:Int):=by omega
     have W:¬(x:Int)<0:=by omega
     have y:(x:Int)≤17592186044431:=by omega
     clear hx;by_cases hq:n=k+1
     ·have I:R.drop (k+1)=[]:=drop_end R _ (by rw[←HN.out];exact hq);have hB:¬(k:Int)<(n:Int) - 1:=by omega
      have a2:=hid hq;clear hq;by_cases hxm:x<mk k
      ·have Q:x=v:=by omega
       have m:=hid ((show S=xU (mk k) a [p]by rw[HW.out,O.out,I]).trans (yX (mk k) a p v hnp (by omega)));have c4:=hid I;have f:Hid ((a:Int)+(x:Int)=((a+v:Nat):Int)):=by show _=_;omega
       have q:(x:Int)<(mk k:Int):=by omega
       have r:(a:Int)+(mk k:Int)≤4294967296:=by omega
       have a1:Hid (a+v<4294967296):=by show _<_;omega
       have a4:Hid (S=xU (mk (k+1)) (a+v) (R.drop (k+1))):=by show _=_;rw[c4.out];exact m
       clear hnp Q I hxm V j i T E;rcases F with rfl|rfl|rfl|rfl
       all_goals
        try rw[Nat.add_zero]at B
        simp only[Wy,Int.cast_ofNat_Int]at hB q r⊢;generalize (x:Int)=X at q Z W y f HV;generalize (a:Int)=AC at r t f⊢;go_wp2_with fail
        refine(ji Y _ C).mono ?_;rw[J.out,HV.out];rintro e P ⟨rfl,d⟩;have l:Hid (Below w.heap.size w P):=bD HB d;have L:=hid (a5.below d);clear d;go_wp2;go_roundw
        case rel=>exact⟨_,a+v,by have:=a2.out;omega,by go_num,fun h=>absurd h (by have:=a2.out;omega),by first|exact int_eq f|(rw[←f.out]),a1,l,L,fun h=>absurd h (by have:=a2.out;omega),a4⟩
        case measure=>(have:=a2.out;simp[intOf];omega)
      have m:=hid (jy S ((show S=xU (mk k) a [p]by rw[HW.out,O.out,I]).trans (CP (mk k) a p v hnp (by omega))));have q:(mk k:Int)≤(x:Int):=by omega
      clear hnp I hxm V j i T E;rcases F with rfl|rfl|rfl|rfl
      all_goals
       try rw[Nat.add_zero]at B
       simp only[Wy,Int.cast_ofNat_Int]at hB q⊢;generalize (x:Int)=X at q Z W y HV;generalize (a:Int)=AC at t⊢;go_wp2_with fail
       refine(ji Y _ C).mono ?_;rw[J.out,HV.out];rintro e P ⟨rfl,d⟩;have l:Hid (Below w.heap.size w P):=bD HB d;clear d;go_wp2;go_ret2;exact⟨by rw[m.out];rfl,l⟩
     have hB:(k:Int)<(n:Int) - 1:=by omega
     have a0:k=0∨k=1∨k=2:=by omega
     have z:k+1<n:=by omega
     obtain⟨p2,b3⟩:∃p2,p2=R[k+1]'(by rw[←HN.out];exact z):=⟨_,rfl⟩;have N:Hid (R.drop (k+1)=p2::R.drop (k+2)):=drop_at R (k+1) p2 (by rw[←HN.out];exact z) b3.symm;have a3:=hid z;clear b3 hq z F;by_cases hxm:x≤255
     ·have Q:x=v:=by omega
      have m:=(show S=xU (mk k) a (p::p2::R.drop (k+2))by rw[HW.out,O.out,N.out]).trans (Em (mk k) a p p2 (R.drop (k+2)) v hnp (by omega));rw[show mk k / 256=mk (k+1)by rcases a0 with rfl|rfl|rfl<;>rfl,←N.out]at m
      have a4:=hid m;have f:Hid ((a:Int)+(x:Int)*(mk (k+1):Int)=((a+v*mk (k+1):Nat):Int)):=by show _=_;rw[Q];simp
      have q:(x:Int)≤255:=by omega
      have r:(a:Int)+(mk k:Int)≤4294967296:=by omega
      have a1:Hid (a+v*mk (k+1)<4294967296∧a+v*mk (k+1)+mk (k+1)≤4294967296):=by show _∧_;rcases a0 with rfl|rfl|rfl<;>simp only[mk]at j⊢<;>omega
      clear hnp Q hxm V j i T m E;rcases a0 with rfl|rfl|rfl
      all_goals
       try rw[Nat.add_zero]at B
       simp only[Wy,Int.cast_ofNat_Int]at hB r⊢;simp only[mk,Nat.reduceAdd,Int.cast_ofNat_Int]at f;generalize (x:Int)=X at q Z W y f HV;generalize (a:Int)=AC at r t f⊢;go_wp2_with fail
       refine(ji Y _ C).mono ?_;rw[J.out,HV.out];rintro e P ⟨rfl,d⟩;have l:Hid (Below w.heap.size w P):=bD HB d;have L:=hid (a5.below d);clear d;go_wp2;go_roundw
       case rel=>exact⟨_,_,by have:=a3.out;omega,by go_num,fun _=>rfl,by first|exact int_eq f|(rw[←f.out]),a1.out.1,l,L,fun _=>a1.out.2,a4⟩
       case measure=>(have:=a3.out;simp[intOf];omega)
     have m:=hid (jy S ((show S=xU (mk k) a (p::p2::R.drop (k+2))by rw[HW.out,O.out,N.out]).trans (Bg (mk k) a p p2 (R.drop (k+2)) v hnp (by omega))));have a7:(255:Int)<(x:Int):=by omega
     clear hnp hxm V j i T E;rcases a0 with rfl|rfl|rfl
     all_goals
      try rw[Nat.add_zero]at B
      simp only[Wy,Int.cast_ofNat_Int]at hB⊢;generalize (x:Int)=X at a7 Z W y HV;generalize (a:Int)=AC at t⊢;go_wp2_with fail
      refine(ji Y _ C).mono ?_;rw[J.out,HV.out];rintro e P ⟨rfl,d⟩;have l:Hid (Below w.heap.size w P):=bD HB d;clear d;go_wp2;go_ret2;exact⟨by rw[m.out];rfl,l⟩
   obtain rfl:k=n:=by omega
   have m:=hid (tH S a (by rw[HW.out,drop_end R k HN.out.symm];rfl));have t:(0:Int)≤(a:Int):=by omega
   have r:(a:Int)<4294967296:=by omega
   clear i D;generalize (a:Int)=AC at t r m⊢;go_wp2;go_ret2;exact⟨by rw[m.out];rfl,HB⟩
 have b6:(4:Int)<(n:Int):=by omega
 have m:=hid (jy S (by rw[b7.out,if_neg (by rw[←HN.out];exact h4)]));go_wp2;go_ret2;exact⟨by rw[m.out];rfl,b9⟩
end YK
namespace Tab
open Go.RowKit Base
def Pow (w:World):Prop:=Lib.TabIs prog w "internal/strconv.uint64pow10" .u64 Lib.pow10Tab
theorem yN:prog.globalNamed "internal/strconv.uint64pow10" =some 3:=by kernel_rfl
theorem acV {W:World} {l:List (String×DataW Unit)} (h:laidMet prog l W) (f:("internal/strconv.uint64pow10",Lib.tabData .u64 Lib.pow10Tab) ∈ l):Pow W:=by
 obtain⟨j,i,cs,e,p,d,c,a,g⟩:=Lib.laidMet.reads h f;obtain rfl:=Option.some.inj (yN.symm.trans d);obtain rfl:=Option.some.inj ((show(prog.globals[3]?).map (·.type)=some 166 by kernel_rfl).symm.trans c);show World.var? _ _ _=_;rw[a,←Lib.cells_of_tab (k:=.u64) (zs:=Lib.pow10Tab) underlying166 underlying142 (by kernel_rfl) (by kernel_rfl) g]
theorem Pow.below {w w':World} (h:Pow w) (a:Below w.heap.size w w'):Pow w':=Joins.tab_stays yN h a (Nat.le_refl _)
theorem below_grow (w:World) (k:Nat) (a:Array Obj):Below w.heap.size w (Sort.grow (w.drewN k) a):=
 ⟨rfl,rfl,rfl,by rw[Sort.size_grow];exact Nat.le_add_right _ _,fun g hg=>by
  show(w.heap++a)[g]?=w.heap[g]?
  rw[Array.getElem?_append_left hg]⟩
theorem V7 (n:Nat):Lib.itoa (n:Int)=Lib.decDigits n:=by unfold Lib.itoa;rw[if_neg (by omega)];simp
theorem zL (n:Nat) (c:n≤9223372036854775807) (w:World) (a:Pow w):
  Calls prog 21 #[.int .i64 (n:Int)] w fun e w'=>e=.returned (.string (ah (Lib.decDigits n)))∧Below w.heap.size w w':=
 (strconv_Itoa (n:Int) (by omega) (by omega) w a).mono fun e w' ⟨he,k,os,hw⟩=>⟨by rw[he,V7];rfl,by rw[hw];exact below_grow w k os⟩
end Tab
namespace yx
open Go.RowKit Base aV
theorem nS (k:Nat):∀n,n<10^(k+1)→(Lib.decDigits n).length≤k+1:=by
 induction k with
 |zero=>intro n h;rw[Lib.decDigits,dif_pos (by omega)];simp
 |succ k ih=>
  intro n h;rw[Lib.decDigits];split
  ·simp
  have:=ih (n / 10) (by rw[Nat.pow_succ]at h;omega);rw[List.length_append];simp;omega
theorem PY (n:Nat):((UInt8.ofNat (48+n%10)).toNat:Int)=48+(n:Int)%10:=by simp;omega
theorem one_row (c:UInt8) (w:World):dW (w.alloc (.cells #[.int .u8 (c.toNat:Int)] 5)) (some ⟨w.heap.size,0,none⟩) 1 (aU [c]):=iT w [c] 5 (0,0)
theorem pU (n:Nat) (h:n≤18446744073709551615):(Lib.decDigits n).length≤20:=nS 19 n (by omega)
theorem kC:∀(N n:Nat),n<N→n≤18446744073709551615→∀w:World,Calls prog 201 #[.int .u64 (n:Int)] w fun e w'=>e=.returned (.string (ah (Lib.decDigits n)))∧Below w.heap.size w w'
 |0,n,h,_,w=>absurd h (by omega)
 |N+1,n,hN,hn,w=>by
  obtain⟨c,f⟩:∃c:UInt8,c=UInt8.ofNat (48+n%10):=⟨_,rfl⟩
  have a:(c.toNat:Int)=48+(n:Int)%10:=by rw[f];exact PY n
  have z:(n:Int).tmod 10=(n:Int)%10:=Int.tmod_eq_emod_of_nonneg (by omega)
  have y:IntKind.u8.wrap ((n:Int)%10)=(n:Int)%10:=by rw[IntKind.wrap_u8];omega
  have q3:IntKind.u8.wrap (48+(n:Int)%10)=(c.toNat:Int):=by rw[IntKind.wrap_u8,a];omega
  have x:48+(n:Int)%10=(c.toNat:Int):=a.symm
  have aS:=fun w:World=>bI (P:=prog) (w:=w.alloc (.cells #[.int .u8 (c.toNat:Int)] 5)) 55 9 5 underlying55 underlying5 underlying9 [c] 1 (one_row c w)
  by_cases h9:n<10
  ·have l:Hid (Lib.decDigits n=[c]):=by rw[Lib.decDigits,dif_pos h9,f,Nat.mod_eq_of_lt h9];rfl
   have i:(n:Int)≤9:=by omega
   clear f a
   go_enter func201,ntmps201
   go_wp2
   go_ret
   exact⟨by rw[l.out];rfl,(Below.refl _ _).alloc (Nat.le_refl _) _⟩
  ·have i:9<(n:Int):=by omega
   obtain⟨m,r⟩:∃m,m=n / 10:=⟨_,rfl⟩
   have l:Hid (Lib.decDigits n=Lib.decDigits m++[c]):=by rw[Lib.decDigits,dif_neg h9,f,r];rfl
   have s:(n:Int) / 10=(m:Int):=by omega
   have v:(n:Int).tdiv 10=(m:Int):=by rw[Int.tdiv_eq_ediv_of_nonneg (by omega)];exact s
   have d:=pU m (by omega)
   have j:=hid d
   have q:=kC N m (by omega) (by omega)
   have k:=hid q
   have A:∀w:World,(Op.stringOp .add (ah (Lib.decDigits m)) (ah [c])).run prog w=.ok (.string (ah (Lib.decDigits m++[c]))) w:=fun w=>bH _ _ w (by have:=j.out;simp;omega)
   clear f a r d q
   go_enter func201,ntmps201
   go_wp2_with fail
   refine(k _).mono ?_
   rintro e t ⟨rfl,g⟩
   go_wp2
   go_ret
   exact⟨by rw[l.out];rfl,bD ((Below.refl _ _).alloc (Nat.le_refl _) _) g⟩
def p1 (n:Nat):List UInt8:=Lib.decDigits (n / 16777216)++[46]
def p2 (n:Nat):List UInt8:=p1 n++Lib.decDigits (n / 65536%256)++[46]
def p3 (n:Nat):List UInt8:=p2 n++Lib.decDigits (n / 256%256)++[46]
def pr (n:Nat):List UInt8:=p3 n++Lib.decDigits (n%256)
theorem Dw (n:Nat) (h:n<256):(Lib.decDigits n).length≤3:=nS 2 n (by omega)
theorem O7 (n:Nat) (h:n<4294967296):(p1 n).length≤4:=by have:=Dw (n / 16777216) (by omega);simp[p1];omega
theorem O8 (n:Nat) (h:n<4294967296):(p2 n).length≤8:=by have:=Dw (n / 65536%256) (by omega);have:=O7 n h;simp[p2];omega
theorem O9 (n:Nat) (h:n<4294967296):(p3 n).length≤12:=by have:=Dw (n / 256%256) (by omega);have:=O8 n h;simp[p3];omega
theorem acW (n:Nat) (h:n<4294967296):(pr n).length≤15:=by have:=Dw (n%256) (by omega);have:=O9 n h;simp[pr];omega
theorem Ji (a:Nat) (h:a<4294967296):bits .and .u32 (a:Int) 255=((a%256:Nat):Int):=by
 have:=u32_and_nat a 255 h (by omega);rw[show((255:Nat):Int)=255 from rfl]at this;rw[this];congr 1;exact Nat.and_two_pow_sub_one_eq_mod a 8
def pj (n:Nat):Nat→List UInt8
 |0=>[]
 |1=>p1 n
 |2=>p2 n
 |3=>p3 n
 |_=>pr n
theorem qp (n:Nat) (H:n<4294967296) (w:World) (L:Tab.Pow w):Calls prog 165 #[.int .u32 (n:Int)] w fun e w'=>e=.returned (.string (ah (pr n)))∧Below w.heap.size w w':=by
 have G:=hid L;have N:(n:Int)<4294967296:=by omega
 have O:0≤(n:Int):=by omega
 have l:Hid ((p1 n).length≤4∧(p2 n).length≤8∧(p3 n).length≤12):=⟨O7 n H,O8 n H,O9 n H⟩;clear L;go_enter func165,ntmps165;go_wp2;go_loopw [3,4] (fun vo vs wr=>∃j:Nat,j≤4∧vo=.string (ah (pj n j))∧vs=.int .i64 (24 - 8*(j:Int))∧Hid (Below w.heap.size w wr)) (fun _ vs _=>(intOf vs+8).toNat)
 case atStart=>exact⟨0,by omega,rfl,rfl,Below.refl _ _⟩
 case round=>
  obtain⟨j,P,rfl,rfl,x⟩:=hrel;have I:j=0∨j=1∨j=2∨j=3∨j=4:=by omega
  rcases I with rfl|rfl|rfl|rfl|rfl
  ·obtain⟨b,s⟩:∃b,b=n / 16777216:=⟨_,rfl⟩;have c:b<256:=by omega
   obtain⟨a,D⟩:∃a,a=n / 16777216:=⟨_,rfl⟩;have g:a<4294967296:=by omega
   have A:(n:Int) / 16777216=(a:Int):=by omega
   have t:bits .and .u32 (a:Int) 255=(b:Int):=by rw[Ji a g];omega
   have d:=Dw b c;have h:=hid d;have m:=hid s;have C:(a:Int)<4294967296:=by omega
   have B:(b:Int)<256:=by omega
   have i:∀w:World,(Op.stringOp .add (ah (pj n 0)) (ah (Lib.decDigits b))).run prog w=.ok (.string (ah (pj n 0++Lib.decDigits b))) w:=fun w=>bH _ _ w (by have r:=l.out;have F:=h.out;simp only[pj]at r⊢;simp;omega);have y:∀w:World,(Op.stringOp .add (ah (pj n 0++Lib.decDigits b)) ⟨#[46]⟩).run prog w=.ok (.string (ah (pj n 1))) w:=fun w=>by
    have e:pj n 1=pj n 0++Lib.decDigits b++[46]:=by rw[m.out];rfl
    rw[e];exact bH _ [46] w (by have r:=l.out;have F:=h.out;simp only[pj]at r⊢;simp;omega)
   clear s D g d;generalize hX:ah (pj n 0)=X at i⊢;generalize hY:ah (Lib.decDigits b)=Y at i;generalize hZ:ah (pj n 0++Lib.decDigits b)=Z at i y;generalize hV:ah (pj n 1)=V at y;have k:=hid hY;have v:=hid hV;clear hV;clear hX hY hZ;go_wp2_with fail
   refine(Tab.zL b (by omega) _ (G.below x)).mono ?_;rw[k.out];rintro e z ⟨rfl,f⟩;have q:Hid (Below w.heap.size w z):=bD x f;clear f;go_wp2;go_roundw
   case rel=>exact⟨1,by omega,by rw[v.out],rfl,q⟩
   case measure=>simp[intOf]
  ·obtain⟨b,s⟩:∃b,b=n / 65536%256:=⟨_,rfl⟩;have c:b<256:=by omega
   obtain⟨a,D⟩:∃a,a=n / 65536:=⟨_,rfl⟩;have g:a<4294967296:=by omega
   have A:(n:Int) / 65536=(a:Int):=by omega
   have t:bits .and .u32 (a:Int) 255=(b:Int):=by rw[Ji a g];omega
   have d:=Dw b c;have h:=hid d;have m:=hid s;have C:(a:Int)<4294967296:=by omega
   have B:(b:Int)<256:=by omega
   have i:∀w:World,(Op.stringOp .add (ah (pj n 1)) (ah (Lib.decDigits b))).run prog w=.ok (.string (ah (pj n 1++Lib.decDigits b))) w:=fun w=>bH _ _ w (by have r:=l.out;have F:=h.out;simp only[pj]at r⊢;simp;omega);have y:∀w:World,(Op.stringOp .add (ah (pj n 1++Lib.decDigits b)) ⟨#[46]⟩).run prog w=.ok (.string (ah (pj n 2))) w:=fun w=>by
    have e:pj n 2=pj n 1++Lib.decDigits b++[46]:=by rw[m.out];rfl
    rw[e];exact bH _ [46] w (by have r:=l.out;have F:=h.out;simp only[pj]at r⊢;simp;omega)
   clear s D g d;generalize hX:ah (pj n 1)=X at i⊢;generalize hY:ah (Lib.decDigits b)=Y at i;generalize hZ:ah (pj n 1++Lib.decDigits b)=Z at i y;generalize hV:ah (pj n 2)=V at y;have k:=hid hY;have v:=hid hV;clear hV;clear hX hY hZ;go_wp2_with fail
   refine(Tab.zL b (by omega) _ (G.below x)).mono ?_;rw[k.out];rintro e z ⟨rfl,f⟩;have q:Hid (Below w.heap.size w z):=bD x f;clear f;go_wp2;go_roundw
   case rel=>exact⟨2,by omega,by rw[v.out],rfl,q⟩
   case measure=>simp[intOf]
  ·obtain⟨b,s⟩:∃b,b=n / 256%256:=⟨_,rfl⟩;have c:b<256:=by omega
   obtain⟨a,D⟩:∃a,a=n / 256:=⟨_,rfl⟩;have g:a<4294967296:=by omega
   have A:(n:Int) / 256=(a:Int):=by omega
   have t:bits .and .u32 (a:Int) 255=(b:Int):=by rw[Ji a g];omega
   have d:=Dw b c;have h:=hid d;have m:=hid s;have C:(a:Int)<4294967296:=by omega
   have B:(b:Int)<256:=by omega
   have i:∀w:World,(Op.stringOp .add (ah (pj n 2)) (ah (Lib.decDigits b))).run prog w=.ok (.string (ah (pj n 2++Lib.decDigits b))) w:=fun w=>bH _ _ w (by have r:=l.out;have F:=h.out;simp only[pj]at r⊢;simp;omega);have y:∀w:World,(Op.stringOp .add (ah (pj n 2++Lib.decDigits b)) ⟨#[46]⟩).run prog w=.ok (.string (ah (pj n 3))) w:=fun w=>by
    have e:pj n 3=pj n 2++Lib.decDigits b++[46]:=by rw[m.out];rfl
    rw[e];exact bH _ [46] w (by have r:=l.out;have F:=h.out;simp only[pj]at r⊢;simp;omega)
   clear s D g d;generalize hX:ah (pj n 2)=X at i⊢;generalize hY:ah (Lib.decDigits b)=Y at i;generalize hZ:ah (pj n 2++Lib.decDigits b)=Z at i y;generalize hV:ah (pj n 3)=V at y;have k:=hid hY;have v:=hid hV;clear hV;clear hX hY hZ;go_wp2_with fail
   refine(Tab.zL b (by omega) _ (G.below x)).mono ?_;rw[k.out];rintro e z ⟨rfl,f⟩;have q:Hid (Below w.heap.size w z):=bD x f;clear f;go_wp2;go_roundw
   case rel=>exact⟨3,by omega,by rw[v.out],rfl,q⟩
   case measure=>simp[intOf]
  ·obtain⟨b,s⟩:∃b,b=n%256:=⟨_,rfl⟩;have c:b<256:=by omega
   obtain⟨a,D⟩:∃a,a=n:=⟨_,rfl⟩;have g:a<4294967296:=by omega
   have A:(n:Int) / 1=(a:Int):=by omega
   have t:bits .and .u32 (a:Int) 255=(b:Int):=by rw[Ji a g];omega
   have d:=Dw b c;have h:=hid d;have m:=hid s;have C:(a:Int)<4294967296:=by omega
   have B:(b:Int)<256:=by omega
   have i:∀w:World,(Op.stringOp .add (ah (pj n 3)) (ah (Lib.decDigits b))).run prog w=.ok (.string (ah (pj n 3++Lib.decDigits b))) w:=fun w=>bH _ _ w (by have r:=l.out;have F:=h.out;simp only[pj]at r⊢;simp;omega);have E:Hid (pj n 3++Lib.decDigits b=pj n 4):=by show _=_;rw[m.out];rfl
   clear s D g d;generalize hX:ah (pj n 3)=X at i⊢;generalize hY:ah (Lib.decDigits b)=Y at i;generalize hZ:ah (pj n 3++Lib.decDigits b)=Z at i;have k:=hid hY;have J:=hid hZ;clear hX hY hZ;go_wp2_with fail
   refine(Tab.zL b (by omega) _ (G.below x)).mono ?_;rw[k.out];rintro e z ⟨rfl,f⟩;have q:Hid (Below w.heap.size w z):=bD x f;clear f;go_wp2;go_roundw
   case rel=>exact⟨4,by omega,by rw[←J.out,E.out],rfl,q⟩
   case measure=>simp[intOf]
  go_wp2;go_ret;exact⟨rfl,x⟩
end yx
namespace abU
open Go.RowKit Base aV yx
theorem Ag (n:Nat) (m:n<4294967296) (w:World):Calls prog 174 #[.int .u32 (n:Int)] w fun e w'=>e=.returned (.string (ah (pr n)))∧Below w.heap.size w w':=by
 have s:=O7 n m;have r:=O8 n m;have q:=O9 n m;obtain⟨a,F⟩:∃a,a=n / 16777216:=⟨_,rfl⟩;have i:a<256:=by omega
 have y:=Dw a i;obtain⟨b,E⟩:∃b,b=n / 65536%256:=⟨_,rfl⟩;have h:b<256:=by omega
 have x:=Dw b h;obtain⟨c,D⟩:∃c,c=n / 256%256:=⟨_,rfl⟩;have g:c<256:=by omega
 have v:=Dw c g;obtain⟨d,C⟩:∃d,d=n%256:=⟨_,rfl⟩;have f:d<256:=by omega
 have t:=Dw d f;have q1:(n:Int).tdiv 16777216=(a:Int):=by rw[Int.tdiv_eq_ediv_of_nonneg (by omega)];omega
 have q2:((n:Int).tdiv 65536).tmod 256=(b:Int):=by rw[Int.tdiv_eq_ediv_of_nonneg (by omega),Int.tmod_eq_emod_of_nonneg (by omega)];omega
 have q3:((n:Int).tdiv 256).tmod 256=(c:Int):=by rw[Int.tdiv_eq_ediv_of_nonneg (by omega),Int.tmod_eq_emod_of_nonneg (by omega)];omega
 have q4:(n:Int).tmod 256=(d:Int):=by rw[Int.tmod_eq_emod_of_nonneg (by omega)];omega
 have r1:(n:Int) / 16777216=(a:Int):=by omega
 have r2:(n:Int) / 65536%256=(b:Int):=by omega
 have r3:(n:Int) / 256%256=(c:Int):=by omega
 have r4:(n:Int)%256=(d:Int):=by omega
 have P:p1 n=Lib.decDigits a++[46]:=by rw[F];rfl
 have O:p2 n=p1 n++Lib.decDigits b++[46]:=by rw[E];rfl
 have N:p3 n=p2 n++Lib.decDigits c++[46]:=by rw[D];rfl
 have L:pr n=p3 n++Lib.decDigits d:=by rw[C];rfl
 have B:∀w:World,(Op.stringOp .add (ah (Lib.decDigits a)) ⟨#[46]⟩).run prog w=.ok (.string (ah (p1 n))) w:=fun w=>by rw[P];exact bH _ [46] w (by simp;omega)
 have l:∀w:World,(Op.stringOp .add (ah (p1 n)) (ah (Lib.decDigits b))).run prog w=.ok (.string (ah (p1 n++Lib.decDigits b))) w:=fun w=>bH _ _ w (by omega);have A:∀w:World,(Op.stringOp .add (ah (p1 n++Lib.decDigits b)) ⟨#[46]⟩).run prog w=.ok (.string (ah (p2 n))) w:=fun w=>by rw[O];exact bH _ [46] w (by simp;omega)
 have k:∀w:World,(Op.stringOp .add (ah (p2 n)) (ah (Lib.decDigits c))).run prog w=.ok (.string (ah (p2 n++Lib.decDigits c))) w:=fun w=>bH _ _ w (by omega);have z:∀w:World,(Op.stringOp .add (ah (p2 n++Lib.decDigits c)) ⟨#[46]⟩).run prog w=.ok (.string (ah (p3 n))) w:=fun w=>by rw[N];exact bH _ [46] w (by simp;omega)
 have j:∀w:World,(Op.stringOp .add (ah (p3 n)) (ah (Lib.decDigits d))).run prog w=.ok (.string (ah (pr n))) w:=fun w=>by rw[L];exact bH _ _ w (by omega)
 generalize ah (p1 n)=P1 at B l;generalize ah (p1 n++Lib.decDigits b)=P2 at l A;generalize ah (p2 n)=P3 at A k;generalize ah (p2 n++Lib.decDigits c)=P4 at k z;generalize ah (p3 n)=P5 at z j;generalize ah (pr n)=P6 at j⊢;have W:=hid (fun w=>kC (a+1) a (by omega) (by omega) w);have V:=hid (fun w=>kC (b+1) b (by omega) (by omega) w);have T:=hid (fun w=>kC (c+1) c (by omega) (by omega) w);have Q:=hid (fun w=>kC (d+1) d (by omega) (by omega) w);generalize ah (Lib.decDigits a)=S1 at B W;generalize ah (Lib.decDigits b)=S2 at l V;generalize ah (Lib.decDigits c)=S3 at k T;generalize ah (Lib.decDigits d)=S4 at j Q;have X:(n:Int)<4294967296:=by omega
 have Y:0≤(n:Int):=by omega
 have a2:(a:Int)<256:=by omega
 have a1:(b:Int)<256:=by omega
 have a0:(c:Int)<256:=by omega
 have Z:(d:Int)<256:=by omega
 clear P O N L s r q y x v t F E D C i h g f;go_enter func174,ntmps174;go_wp2_with fail
 refine(W _).mono ?_;rintro e w2 ⟨rfl,J⟩;have H2:=hid J;clear J;go_wp2_with fail
 refine(V _).mono ?_;rintro e w3 ⟨rfl,I⟩;have H3:=hid (bD H2 I);clear I;go_wp2_with fail
 refine(T _).mono ?_;rintro e w4 ⟨rfl,H⟩;have H4:=hid (bD H3 H);clear H;go_wp2_with fail
 refine(Q _).mono ?_;rintro e w5 ⟨rfl,G⟩;have H5:=hid (bD H4 G);clear G;go_wp2;go_ret;exact⟨rfl,H5⟩
end abU
namespace jV
open Go.RowKit Base
def P1 (c:Int):Prop:=c=32∨c=34∨c=60∨c=62∨c=96
instance (c:Int):Decidable (P1 c):=by unfold P1;exact inferInstance
def P2 (c:Int):Prop:=c=32∨c=34∨c=35∨c=60∨c=62
instance (c:Int):Decidable (P2 c):=by unfold P2;exact inferInstance
def P3 (c:Int):Prop:=c=32∨c=34∨c=35∨c=60∨c=62∨c=39
instance (c:Int):Decidable (P3 c):=by unfold P3;exact inferInstance
def P4 (c:Int):Prop:=c=32∨c=34∨c=35∨c=60∨c=62∨c=63∨c=94∨c=96∨c=123∨c=125
instance (c:Int):Decidable (P4 c):=by unfold P4;exact inferInstance
def P5 (c:Int):Prop:=c=32∨c=34∨c=35∨c=60∨c=62∨c=63∨c=94∨c=96∨c=123∨c=125∨c=47∨c=58∨c=59∨c=61∨c=64∨c=91∨c=92∨c=93∨c=124
instance (c:Int):Decidable (P5 c):=by unfold P5;exact inferInstance
def P6 (c:Int):Prop:=c=32∨c=34∨c=35∨c=60∨c=62∨c=63∨c=94∨c=96∨c=123∨c=125∨c=47∨c=58∨c=59∨c=61∨c=64∨c=91∨c=92∨c=93∨c=124∨c=36∨c=37∨c=38∨c=43∨c=44
instance (c:Int):Decidable (P6 c):=by unfold P6;exact inferInstance
def iC (k c:Int):Bool:=decide (0≤k∧k≤6∧(c<32∨126<c∨k=1∧P1 c∨k=2∧P2 c∨k=3∧P3 c∨k=4∧P4 c∨k=5∧P5 c∨k=6∧P6 c))
def S:Int→List UInt8
 |1=>[32,34,60,62,96]
 |2=>[32,34,35,60,62]
 |3=>[32,34,35,60,62,39]
 |4=>[32,34,35,60,62,63,94,96,123,125]
 |5=>[32,34,35,60,62,63,94,96,123,125,47,58,59,61,64,91,92,93,124]
 |6=>[32,34,35,60,62,63,94,96,123,125,47,58,59,61,64,91,92,93,124,36,37,38,43,44]
 |_=>[]
theorem ag5 (k:Int) (e:0≤k∧k≤6) (c:UInt8) (i:32≤(c.toNat:Int)) (h:(c.toNat:Int)≤126):decide (0≤Lib.indexByte (S k) c)=iC k c.toNat:=by
 obtain⟨f,g⟩:=e;have a:k=0∨k=1∨k=2∨k=3∨k=4∨k=5∨k=6:=by omega
 have H:∀n:Fin 256,(32≤n.val∧n.val≤126)→∀k:Fin 7,decide (0≤Lib.indexByte (S (k.val:Int)) (UInt8.ofNat n.val))=iC (k.val:Int) (n.val:Int):=by decide+kernel
 have d:=H ⟨c.toNat,c.toNat_lt⟩ ⟨by simp;omega,by simp;omega⟩ ⟨k.toNat,by omega⟩;simpa[Int.toNat_of_nonneg f]using d
theorem DU (k c:Int) (h:k<0∨6<k):iC k c=false:=by unfold iC;rw[decide_eq_false_iff_not];omega
theorem QI (k c:Int) (d:0≤k) (a:k≤6) (h:c<32∨126<c):iC k c=true:=by unfold iC;rw[decide_eq_true_iff];omega
theorem afg (c:Int):iC 0 c=decide (c<32∨126<c):=by unfold iC;congr 1;simp
theorem afh (c:Int):iC 1 c=decide (c<32∨126<c∨P1 c):=by unfold iC;congr 1;simp
theorem afi (c:Int):iC 2 c=decide (c<32∨126<c∨P2 c):=by unfold iC;congr 1;simp
theorem afj (c:Int):iC 3 c=decide (c<32∨126<c∨P3 c):=by unfold iC;congr 1;simp
theorem afk (c:Int):iC 4 c=decide (c<32∨126<c∨P4 c):=by unfold iC;congr 1;simp
theorem afl (c:Int):iC 5 c=decide (c<32∨126<c∨P5 c):=by unfold iC;congr 1;simp
theorem afm (c:Int):iC 6 c=decide (c<32∨126<c∨P6 c):=by unfold iC;congr 1;simp
theorem GV (k:Int) (w:World) (d:0≤k) (c:k≤6):Calls prog 144 #[.int .i64 k] w fun e w'=>e=.returned (.string (ah (S k)))∧w=w':=by
 have a:k=0∨k=1∨k=2∨k=3∨k=4∨k=5∨k=6:=by omega
 rcases a with rfl|rfl|rfl|rfl|rfl|rfl|rfl
 all_goals
  go_enter func144,ntmps144;go_wp2;go_ret;exact⟨rfl,rfl⟩
theorem Jw (k:Int) (c:UInt8) (w:World):Calls prog 105 #[.int .i64 k,.int .u8 (c.toNat:Int)] w fun e w'=>e=.returned (.bool (iC k c.toNat))∧w=w':=by
 by_cases ho:k<0∨6<k
 ·have a:=hid (DU k c.toNat ho);rcases ho with ho|ho
  all_goals
   go_enter func105,ntmps105;go_wp2;go_ret;rw[a.out];exact⟨rfl,rfl⟩
 have f:0≤k:=by omega
 have d:k≤6:=by omega
 by_cases hf:(c.toNat:Int)<32∨126<(c.toNat:Int)
 ·have a:=hid (QI k c.toNat f d hf);rcases hf with hf|hf
  ·go_enter func105,ntmps105;go_wp2;go_ret;rw[a.out];exact⟨rfl,rfl⟩
  have j:¬(c.toNat:Int)<32:=by omega
  go_enter func105,ntmps105;go_wp2;go_ret;rw[a.out];exact⟨rfl,rfl⟩
 have i:32≤(c.toNat:Int):=by omega
 have h:(c.toNat:Int)≤126:=by omega
 have a:=hid (ag5 k ⟨f,d⟩ c i h);go_enter func105,ntmps105;go_wp2_with fail
 refine(GV k _ f d).mono ?_;rintro e g ⟨rfl,rfl⟩;go_wp2_with fail
 refine(strings_IndexByte _ _ _).mono ?_;rintro e g ⟨rfl,rfl⟩;rw[show(ah (S k)).data.toList=S k from rfl,show((c.toNat:Int).toNat).toUInt8=c by simp];go_wp2_with fail
 go_ret;exact⟨aH (by rw[←a.out,decide_eq_false (show ¬(c.toNat:Int)<32 by omega),decide_eq_false (show ¬126<(c.toNat:Int)by omega)];simp),rfl⟩
theorem aaj (k c:Int) (w:World) (a:k<0∨6<k):Calls prog 120 #[.int .i64 k,.int .u8 c] w fun e w'=>e=.returned (.bool (iC k c))∧w=w':=by
 have d:=hid (DU k c a);rcases a with a|a
 all_goals
  go_enter func120,ntmps120;go_wp2;go_ret;rw[d.out];exact⟨rfl,rfl⟩
theorem JV (k c:Int) (w:World) (f:0≤k) (d:k≤6) (hf:c<32∨126<c):Calls prog 120 #[.int .i64 k,.int .u8 c] w fun e w'=>e=.returned (.bool (iC k c))∧w=w':=by
 have a:=hid (QI k c f d hf);rcases hf with hf|hf
 ·go_enter func120,ntmps120;go_wp2;go_ret;rw[a.out];exact⟨rfl,rfl⟩
 have g:¬c<32:=by omega
 go_enter func120,ntmps120;go_wp2;go_ret;rw[a.out];exact⟨rfl,rfl⟩
end jV
namespace aP
open Go.RowKit Base jV
def lq (n:Nat):UInt8:=if n<10 then UInt8.ofNat (48+n)else UInt8.ofNat (55+n)
def one (k:Int) (c:UInt8):List UInt8:=if iC k c.toNat=true then[37,lq (c.toNat / 16),lq (c.toNat%16)]else[c]
def enc (k:Int) (L:List UInt8):List UInt8:=L.flatMap (one k)
theorem oL (k:Int) (L:List UInt8) (c:UInt8):enc k (L++[c])=enc k L++one k c:=by simp[enc]
theorem JG (k:Int) (c:UInt8):1≤(one k c).length∧(one k c).length≤3:=by unfold one;split<;>simp
theorem fE (k:Int) (L:List UInt8):(enc k L).length≤3*L.length:=by
 induction L with
 |nil=>simp[enc]
 |cons c L ih=>
  have h:=JG k c;have e:enc k (c::L)=one k c++enc k L:=by simp[enc]
  rw[e,List.length_append,List.length_cons];omega
theorem BF (k:Nat) (h:k<(⟨#[48,49,50,51,52,53,54,55,56,57,65,66,67,68,69,70]⟩:ByteArray).size):(⟨#[48,49,50,51,52,53,54,55,56,57,65,66,67,68,69,70]⟩:ByteArray)[k]'h=lq k:=by
 have c:k<16:=h;have a:k=0∨k=1∨k=2∨k=3∨k=4∨k=5∨k=6∨k=7∨k=8∨k=9∨k=10∨k=11∨k=12∨k=13∨k=14∨k=15:=by omega
 rcases a with rfl|rfl|rfl|rfl|rfl|rfl|rfl|rfl|rfl|rfl|rfl|rfl|rfl|rfl|rfl|rfl<;>rfl
theorem Ut (a b c:Int):∀u ∈ [Value.int .u8 a,Value.int .u8 b,Value.int .u8 c],u.oneCell'=true:=by
 intro u d;simp at d;rcases d with rfl|rfl|rfl<;>rfl
attribute [local go_sem ↓] Go.wp_at_zero Go.wp_at_succ
theorem iK (k : Int) (A : Option Addr) (n H : Nat) (L : List UInt8) (w : World) (h : dW w A n (aU L)) (hm : n ≤ 1073741824) :
  Calls prog 40 #[.int .i64 k,.slice A n H] w fun e w'=>e=.returned (.string (ah (enc k L)))∧Below w.heap.size w w':=by
 have N:L.length=n:=by rw[←bM];exact h.1
 have z:=hid N;clear N;obtain⟨C,hi,s,r,q⟩:=info_parts rD;have Q:=hid h;clear h;go_enter func40,ntmps40;go_wp2_with (at_make;refine wpList_make_own _ rfl _ _ 55 rfl w.heap.size 5 C (.int .u8 0) 1 underlying55 hi s r .i64 .i64 _ n rfl rfl rfl (by rw[q];omega) (by unfold maxLen;omega) (Nat.le_refl _) ?_)
 intro T i x;have l:Below w.heap.size w T:=(Below.refl _ _).grown x (Nat.le_refl _) (by intro k h;cases h);clear x;go_wp2;go_loopw [5,13] (fun v vk wr=>∃(j:Nat),j≤n∧vk=.int .i64 j∧wr.ownsRow w.heap.size 5 1 v (enc k (L.take j)).length (aU (enc k (L.take j)))∧Below w.heap.size w wr) (fun _ vk _=>n - (intOf vk).toNat)
 case atStart=>exact⟨0,Nat.zero_le _,rfl,i,l⟩
 case round=>
  clear i l;obtain⟨j,hj,rfl,d,a⟩:=hrel;by_cases hlt:j<n
  ·obtain ⟨b,off,rfl,hb,_⟩:=(Q).spot (by omega);obtain⟨c,hx⟩:∃c,c=L[j]'(by rw[z.out];exact hlt):=⟨_,rfl⟩;have F:wr.cell? ⟨b,off+j,none⟩=some (.int .u8 (c.toNat:Int)):=by
    rw[hx,←Q.out.byte j (by rw[z.out];exact hlt)];exact a.cell (p:=⟨b,off+j,none⟩) hb
   have O:Hid (L.take (j+1)=L.take j++[c]):=by
    rw[hx];exact List.take_succ_eq_append_getElem (by rw[z.out];exact hlt)
   clear hx;have E:=fE k (L.take j);have J:(L.take j).length≤j:=List.length_take_le _ _;obtain⟨m,t⟩:∃m,m=(enc k (L.take j)).length:=⟨_,rfl⟩;rw[←t]at E d;have P:=hid t;clear t;have a0:(c.toNat:Int)<256:=by have:=c.toNat_lt;omega
   cases hin:iC k c.toNat
   ·have y:=hid hin;clear hin;go_wp2_with fail
    refine(Jw _ _ _).mono ?_;rintro e B ⟨rfl,rfl⟩;rw[y.out];go_wp2_with (at_builtin;refine bJ rfl _ _ 55 rfl w.heap.size 5 C (.int .u8 0) 1 underlying55 hi s r q rfl _ m _ rfl d a a.size [.int .u8 (c.toNat:Int)] 1 rfl rfl (by intro u I;simp at I;subst I;rfl) (by unfold maxLen;omega) (by omega) ?_)
    intro V B f g;clear d a;go_wp2;go_roundw
    case rel=>exact⟨j+1,by omega,by go_num,by
      have G:one k c=[c]:=by unfold one;rw[y.out];rfl
      rw[O.out,oL,G,List.length_append,eG,←P.out];exact f,g⟩
    case measure=>simp[intOf];omega
   ·have y:=hid hin;clear hin;go_wp2_with fail
    refine(Jw _ _ _).mono ?_;rintro e B ⟨rfl,rfl⟩;rw[y.out];go_wp2;have q1:(0:Int)≤(c.toNat:Int) / 16:=by omega
    have q2:(c.toNat:Int) / 16<16:=by omega
    have q3:(0:Int)≤(c.toNat:Int)%16:=by omega
    have Z:(c.toNat:Int)%16<16:=by omega
    have Y:=Qc c;have X:∀h,(⟨#[48,49,50,51,52,53,54,55,56,57,65,66,67,68,69,70]⟩:ByteArray)[((c.toNat:Int) / 16).toNat]'h=lq (c.toNat / 16):=fun h=>BF _ h;have W:∀h,(⟨#[48,49,50,51,52,53,54,55,56,57,65,66,67,68,69,70]⟩:ByteArray)[((c.toNat:Int)%16).toNat]'h=lq (c.toNat%16):=fun h=>BF _ h
    go_region_held3 (fun _=>True) (trivial) ((refine ND (by rfl) _ _ 55 (by rfl) w.heap.size 5 C (.int .u8 0) 1 underlying55 hi s r q (by rfl) _ m _ (by rfl) d a a.size [.int .u8 37,.int .u8 ((lq (c.toNat / 16)).toNat:Int),.int .u8 ((lq (c.toNat%16)).toNat:Int)] 3 (by rfl) (by decide) (by rfl) (Ut _ _ _) (by unfold maxLen;omega) (by omega) ⟨(Below.refl _ _).drew,fun _=>rfl,by simp⟩ ?_;intro V B f g))
    all_goals
     clear d a q1 q2 q3 Z Y X W;go_wp2;go_roundw
     case rel=>exact⟨j+1,by omega,by go_num,by
       have G:one k c=[37,lq (c.toNat / 16),lq (c.toNat%16)]:=by unfold one;rw[if_pos y.out]
       rw[O.out,oL,G,List.length_append,eG,←P.out];exact f,g⟩
     case measure=>simp[intOf];omega
  ·obtain rfl:j=n:=by omega
   have HE:Hid (L.take j=L):=by
    rw[←z.out];exact List.take_length
   rw[HE.out]at d;obtain⟨A',c',rfl,_,_,D⟩:=aW d;have aS:=bI 55 9 5 underlying55 underlying5 underlying9 _ c' D;go_wp2;go_ret;exact⟨rfl,a⟩
end aP
namespace AX
open Go.RowKit Base jV aP
theorem I8 (a b c:UInt8) (w:World):dW (w.alloc (.cells #[.int .u8 (a.toNat:Int),.int .u8 (b.toNat:Int),.int .u8 (c.toNat:Int)] 5)) (some ⟨w.heap.size,0,none⟩) 3 (aU [a,b,c]):=
 dW.lT rfl (by simp) (fun j hj=>by
  have e:j<3:=hj
  rw[World.cell?_alloc_mark]
  have d:j=0∨j=1∨j=2:=by omega
  rcases d with rfl|rfl|rfl<;>rfl)
attribute [local go_sem ↓] Go.wp_at_zero Go.wp_at_succ
theorem adH (c:UInt8):IntKind.u8.wrap ((c.toNat:Int) / 16)=(c.toNat:Int) / 16:=by
 have H:∀n:Fin 256,IntKind.u8.wrap ((n.val:Int) / 16)=(n.val:Int) / 16:=by decide+kernel
 exact H ⟨c.toNat,c.toNat_lt⟩
theorem ads (c:UInt8):(c.toNat:Int).tmod 16=(c.toNat:Int)%16:=Int.tmod_eq_emod_of_nonneg (by omega)
theorem one_any (c:UInt8) (w:World):Calls prog 121 #[.int .u8 (c.toNat:Int)] w fun e w'=>e=.returned (.string (ah [37,lq (c.toNat / 16),lq (c.toNat%16)]))∧Below w.heap.size w w':=by
 have f:(c.toNat:Int)<256:=by have:=c.toNat_lt;omega
 have m:(0:Int)≤(c.toNat:Int) / 16:=by omega
 have l:(c.toNat:Int) / 16<16:=by omega
 have q3:(0:Int)≤(c.toNat:Int)%16:=by omega
 have k:(c.toNat:Int)%16<16:=by omega
 have j:∀h,(⟨#[48,49,50,51,52,53,54,55,56,57,65,66,67,68,69,70]⟩:ByteArray)[((c.toNat:Int) / 16).toNat]'h=lq (c.toNat / 16):=fun h=>BF _ h;have i:∀h,(⟨#[48,49,50,51,52,53,54,55,56,57,65,66,67,68,69,70]⟩:ByteArray)[((c.toNat:Int)%16).toNat]'h=lq (c.toNat%16):=fun h=>BF _ h;have aS:=bI 55 9 5 underlying55 underlying5 underlying9 _ 3 (I8 37 (lq (c.toNat / 16)) (lq (c.toNat%16)) w);have d:dW (w.alloc (.cells #[.int .u8 ((37:UInt8).toNat:Int),.int .u8 ((lq (c.toNat / 16)).toNat:Int),.int .u8 ((lq (c.toNat%16)).toNat:Int)] 5)).drew (some ⟨w.heap.size,0,none⟩) 3 (aU [37,lq (c.toNat / 16),lq (c.toNat%16)]):=I8 37 (lq (c.toNat / 16)) (lq (c.toNat%16)) w;have a:=bI 55 9 5 underlying55 underlying5 underlying9 _ 3 d;rw[show((37:UInt8).toNat:Int)=37 from rfl]at aS a;have g:=adH c;have qb:=ads c;go_enter func121,ntmps121;go_wp2
 go_region
 go_wp2;go_ret;exact⟨rfl,((Below.refl _ _).alloc (Nat.le_refl _) _).drew⟩
theorem bH (X Y:List UInt8) (w:World) (h:X.length+Y.length≤9223372036854775807):(Op.stringOp .add (ah X) (ah Y)).run prog w=.ok (.string (ah (X++Y))) w:=by
 rw[run_string_add_sum w _ _ (by rw[ak,ak];exact h)];congr 2
theorem J8 (s:ByteArray) (k:Nat) (h:k<s.size):s.extract k (k+1)=ah [s[k]]:=by
 apply ByteArray.ext;have a:k<s.data.size:=h;apply Array.ext';rw[ByteArray.data_extract];simp[ah,Array.toList_extract,List.extract_eq_take_drop];rw[List.drop_eq_getElem_cons (by simpa using a)];rfl
theorem iw (k:Int) (s:ByteArray) (w:World) (C:s.size≤1073741824) (d:∀(c:UInt8) (w:World),Calls prog 120 #[.int .i64 k,.int .u8 (c.toNat:Int)] w fun e w'=>e=.returned (.bool (iC k c.toNat))∧w=w'):
  Calls prog 65 #[.int .i64 k,.string s] w fun e w'=>e=.returned (.string (ah (enc k s.data.toList)))∧Below w.heap.size w w':=by
 have z:s.data.toList.length=s.size:=Array.length_toList;have x:=hid z;have y:=hid d;go_enter func65,ntmps65;go_wp2;go_loopw [5,9] (fun v vk wr=>∃(j:Nat) (X:List UInt8),j≤s.size∧vk=.int .i64 j∧v=.string (ah X)∧X.length≤3*j∧Hid (X=enc k (s.data.toList.take j))∧Below w.heap.size w wr) (fun _ vk _=>s.size - (intOf vk).toNat)
 case atStart=>exact⟨0,[],Nat.zero_le _,rfl,rfl,Nat.le_refl _,rfl,Below.refl _ _⟩
 case round=>
  obtain⟨j,X,D,rfl,rfl,E,q,a⟩:=hrel;by_cases hlt:j<s.size
  ·obtain ⟨c,r⟩:∃c,s[j]=c:=⟨_,rfl⟩;have t:Hid (s.data.toList.take (j+1)=s.data.toList.take j++[c]):=by
    rw[←r,List.take_succ_eq_append_getElem (by rw[x.out];exact hlt)];rfl
   have g:=J8 s j hlt;rw[r]at g;have A:(c.toNat:Int)<256:=by have:=c.toNat_lt;omega
   cases d:iC k c.toNat
   ·have i:=hid d;go_wp2_with fail
    refine(y _ _).mono ?_;rintro e l ⟨rfl,rfl⟩;rw[i.out];have h:=bH X [c] wr (by simp;omega);go_wp2;go_roundw
    case rel=>exact⟨j+1,X++[c],by omega,by go_num,rfl,by simp;omega,by
      have n:one k c=[c]:=by unfold one;rw[i.out];rfl
      rw[t.out,oL,n,q.out];exact rfl,a⟩
    case measure=>simp[intOf];omega
   ·have i:=hid d;go_wp2_with fail
    refine(y _ _).mono ?_;rintro e l ⟨rfl,rfl⟩;rw[i.out];go_wp2_with fail
    refine(one_any _ _).mono ?_;rintro e l ⟨rfl,m⟩;have h:=bH X [37,lq (c.toNat / 16),lq (c.toNat%16)] l (by simp;omega);have f:=a.trans (m.mono a.size);go_wp2;go_roundw
    case rel=>exact⟨j+1,X++[37,lq (c.toNat / 16),lq (c.toNat%16)],by omega,by go_num,rfl,by simp;omega,by
      have n:one k c=[37,lq (c.toNat / 16),lq (c.toNat%16)]:=by unfold one;rw[if_pos i.out]
      rw[t.out,oL,n,q.out];exact rfl,f⟩
    case measure=>simp[intOf];omega
  ·obtain rfl:j=s.size:=by omega
   have B:Hid (X=enc k s.data.toList):=by
    rw[q.out,←x.out,List.take_length];exact rfl
   go_wp2;go_ret;rw[B.out];exact⟨rfl,a⟩
end AX
