/- Lemmas. -/
import Derived.Test.YtgockiomacchoaaGreatDoorPRBAF
import Derived.Sort.Grow
set_option linter.unusedSimpArgs false
set_option linter.unusedVariables false
set_option maxRecDepth 100000
set_option maxHeartbeats 64000000
namespace Go.Proofs.YtgockiomacchoaaGreatDoor
open Tryz
namespace MV
open Go.RowKit Base lQ JU
def Max (w:World):Prop:=∃m,w.cell? ⟨0,0,none⟩=some (.int .i64 m)
theorem C9 (s:ByteArray) (w:World) (d:s.size≤1073741824):Calls prog 186 #[.string s] w fun e w'=>e=.returned (.string (ah (vS s.data.toList)))∧w=w':=by
 go_enter func186,ntmps186;go_wp2_with fail
 refine(strings_TrimSuffix s ⟨#[46]⟩ _ (by omega)).mono ?_;rintro e c ⟨rfl,a⟩;subst a;go_wp2;go_ret;exact⟨rfl,rfl⟩
theorem rE:∀(L:List UInt8) (k:Nat),L.count 46≤k→Lib.splitK [46] 0 k L=cO L
 |[],0,_=>rfl
 |[],k+1,_=>rfl
 |b::l,0,h=>by
  have a:b≠46:=by rintro rfl;simp at h
  have c:=rE l 0 (by rw[List.count_cons_of_ne (by simpa using a)]at h;exact h)
  show[b::l]=_
  rw[cO,if_neg a,←c]
  rfl
 | b :: l, k + 1, h => by
  by_cases a:b=46
  ·subst a
   have c:=rE l k (by simp at h;omega)
   have e:Lib.index (46::l) [46]=0:=by rw[Lib.index,if_pos (by simp[List.isPrefixOf])]
   rw[cO,if_pos rfl,Lib.splitK,e,if_neg (by decide)]
   show[]::_=_
   rw[←c]
   rfl
  ·have g:l.count 46≤k+1:=by rw[List.count_cons_of_ne (by simpa using a)]at h;exact h
   have c:=rE l (k+1) g
   have e:Lib.index (b::l) [46]=if Lib.index l [46]== -1 then -1 else Lib.index l [46]+1:=by rw[Lib.index,if_neg (by simp[List.isPrefixOf,Ne.symm a])]
   rw[Lib.splitK]at c⊢
   rw[cO,if_neg a,←c,e]
   by_cases hm:Lib.index l [46]= -1
   ·rw[hm]
    rfl
   ·have f:=Lib.index_ge l [46]
    obtain⟨j,d⟩:∃j:Nat,Lib.index l [46]=j:=⟨(Lib.index l [46]).toNat,by omega⟩
    have n:((j:Int)== -1)=false:=beq_eq_false_iff_ne.2 (by omega)
    have m:((j:Int)+1== -1)=false:=beq_eq_false_iff_ne.2 (by omega)
    have i:((j:Int)+1).toNat=j+1:=by omega
    simp only[d,n,Bool.false_eq_true,if_false,m,i]
    simp
def Read (w:World) (l:List (List UInt8)) (e:Ending) (w':World):Prop:=∃A n c,e=.returned (.slice A n c)∧n=l.length∧n≤c∧c≤maxLen∧dV w' A n ((l.map ah).map Value.string)∧Below w.heap.size w w'
theorem SC (s:ByteArray) (w:World) (h:s.size≤1073741824) (g:Max w):Calls prog 189 #[.string s,.string ⟨#[46]⟩] w (Read w (cO s.data.toList)):=by
 obtain⟨m,f⟩:=g;refine(strings_Split s ⟨#[46]⟩ m w (by omega) f (Nat.le_refl _)).mono ?_;rintro e w' ⟨rfl,rfl⟩;have c:=Lib.splitB_data ⟨#[46]⟩ 0 (Lib.countB s ⟨#[46]⟩) s;rw[show(⟨#[46]⟩:ByteArray).data.toList=[46]from rfl,rE _ _ (by rw[←Lib.count_one];exact Nat.le_refl _)]at c;have a:=Lib.splitB_all ⟨#[46]⟩ (Nat.le_refl _) 0 _ s rfl;have i:=Lib.countB_le ⟨#[46]⟩ (Nat.le_refl _) s.size s (Nat.le_refl _);generalize Lib.splitB ⟨#[46]⟩ 0 (Lib.countB s ⟨#[46]⟩) s=B at c a⊢;have d:B=(cO s.data.toList).map ah:=by
  rw[←c,List.map_map]
  conv=>lhs;rw[←List.map_id B]
  exact List.map_congr_left fun x _=>(bF x).symm
 unfold Read;rw[←d];refine⟨_,_,_,rfl,by rw[←a,d,List.length_map],Nat.le_refl _,by unfold maxLen;omega,?_,(Below.refl _ _).alloc (Nat.le_refl _) _⟩;exact dV.lJ (by rw[List.length_map,a]) (by simp) (fun j hj=>by
  rw[Nat.zero_add,World.cell?_alloc_mark];simp)
theorem iT:(prog.info? 9).map (fun i=>(i.zero,i.size,i.bytes))=some (some (.string ByteArray.empty),1,16):=by kernel_rfl
theorem ext_mid (s:ByteArray) (a b:Nat):s.extract a b=ah ((s.data.toList.take b).drop a):=by
 apply ByteArray.ext;apply Array.ext';rw[ByteArray.data_extract];simp only[ah,Array.toList_extract,List.extract_eq_take_drop];rw[List.drop_take]
def DW (w:World) (l:List (List UInt8)) (e:Ending) (w':World):Prop:=∃v,e=.returned v∧w'.ownsRow w.heap.size 9 1 v l.length ((l.map ah).map Value.string)∧Below w.heap.size w w'
theorem Jg (s:ByteArray) (w:World) (hs:s.size≤900000):
  Calls prog 209 #[.string s,.int .u8 46] w (DW w (cO s.data.toList)):=by
 have A:s.data.toList.length=s.size:=Array.length_toList;obtain⟨i0,hi,y,x,v⟩:=info_parts iT;have n:=hid A;clear A;obtain⟨R,G⟩:∃R,R=cO s.data.toList:=⟨_,rfl⟩;have a2:R.length≤s.size+1:=by have:=oI s.data.toList;rw[←G,n.out]at this;exact this
 rw[←G];have HR:=hid G;clear G;go_enter func209,ntmps209;go_wp2;go_loopw [5,6,7,11] (fun vo vf _ vk wr=>∃(k f:Nat) (j:List (List UInt8)),k≤s.size+1∧f≤k∧j.length≤k∧vk=.int .i64 (k:Int)∧vf=.int .i64 (f:Int)∧Hid (wr.ownsRow w.heap.size 9 1 vo j.length ((j.map ah).map Value.string))∧Hid (Below w.heap.size w wr)∧Hid (k≤s.size→cO (s.data.toList.take k)=j++[(s.data.toList.take k).drop f])∧Hid (k=s.size+1→R=j)) (fun _ _ _ vk _=>s.size+1 - (intOf vk).toNat)
 case atStart=>exact⟨0,0,[],Nat.zero_le _,Nat.le_refl _,Nat.le_refl _,rfl,rfl,World.ownsRow_nil _ _ _ _,Below.refl _ _,fun _=>rfl,fun h=>absurd h (by omega)⟩
 case round=>
  obtain⟨k,f,j,a3,P,L,rfl,rfl,F,H,HW,HE⟩:=hrel;obtain⟨m,N⟩:∃m,m=j.length:=⟨_,rfl⟩;rw[←N]at L;have t:=hid N;clear N;by_cases hlt:k<s.size+1
  ·have r:Hid (cO (s.data.toList.take k)=j++[(s.data.toList.take k).drop f]):=HW (by omega);obtain⟨X,Q⟩:∃X,X=s.extract f k:=⟨_,rfl⟩;have a1:s.extract f k=X:=Q.symm;have HX:Hid (X=ah ((s.data.toList.take k).drop f)):=by show _=_;rw[Q,ext_mid]
   have a4:(f:Int)≤(k:Int):=by omega
   clear Q;by_cases hks:k<s.size
   ·obtain ⟨c,hc⟩:∃c,s[k]=c:=⟨_,rfl⟩;have B:k<s.data.toList.length:=by rw[n.out];exact hks
    have D:s.data.toList[k]=c:=hc;have HS:Hid (s.data.toList.take (k+1)=s.data.toList.take k++[c]):=by rw[←D];exact dH _ k B
    have E:Hid ((s.data.toList.take k).length=k):=by show _=_;rw[List.length_take,n.out];omega
    have q1:((k:Int)==(s.size:Int))=false:=by simp;omega
    have O:(k:Int)≤(s.size:Int):=by omega
    clear B D;by_cases h46:c=46
    ·have q2:((c.toNat:Int)==46)=true:=by rw[h46];rfl
     have Y:Hid (cO (s.data.toList.take (k+1))=(j++[(s.data.toList.take k).drop f])++[(s.data.toList.take (k+1)).drop (k+1)]):=by
      show _=_;rw[HS.out,h46,rU,r.out];congr 2;rw[List.drop_eq_nil_of_le];rw[List.length_append,E.out];exact Nat.le_refl _
     have l:Hid (k+1=s.size+1→R=j++[(s.data.toList.take k).drop f]):=fun h=>absurd h (by omega);have e:=F.out;have i:=H.out;rw[←t.out]at e;clear h46;go_wp2_with (at_builtin;refine bJ rfl _ _ 23 rfl w.heap.size 9 i0 (.string ByteArray.empty) 16 underlying23 hi y x v rfl _ m _ rfl e i i.size [.string X] 1 rfl rfl (by intro u z;simp at z;subst z;rfl) (by unfold maxLen;omega) (by omega) ?_)
     intro J I a g;have q:Hid (I.ownsRow w.heap.size 9 1 J (j++[(s.data.toList.take k).drop f]).length (((j++[(s.data.toList.take k).drop f]).map ah).map Value.string)):=by
      show World.ownsRow _ _ _ _ _ _ _;rw[List.length_append,List.map_append,List.map_append,←t.out];show World.ownsRow _ _ _ _ _ (m+1) (_++[Value.string (ah ((s.data.toList.take k).drop f))]);rw[←HX.out];simpa using a
     have V:=hid g;clear e i a g;go_wp2;go_roundw
     case rel=>exact⟨k+1,k+1,j++[(s.data.toList.take k).drop f],by omega,Nat.le_refl _,by rw[List.length_append,←t.out];show m+1≤_;omega,by go_num,by go_num,q,V,fun _=>Y,l⟩
     case measure=>simp[intOf];omega
    ·have q2:((c.toNat:Int)==46)=false:=EM (d:=46) h46;have Y:Hid (cO (s.data.toList.take (k+1))=j++[(s.data.toList.take (k+1)).drop f]):=by
      show _=_;obtain⟨a0,x',e1,e2⟩:=oV c h46 (s.data.toList.take k);have h3:=r.symm.trans e1;obtain⟨h4,T⟩:=List.append_inj' h3 rfl;have T:(s.data.toList.take k).drop f=x':=by simpa using T
      rw[HS.out,e2,←h4,←T,List.drop_append_of_le_length (by rw[E.out];exact P)]
     have l:Hid (k+1=s.size+1→R=j):=fun h=>absurd h (by omega);clear h46;go_wp2;go_roundw
     case rel=>exact⟨k+1,f,j,by omega,by omega,by rw[←t.out];omega,by go_num,rfl,F,H,fun _=>Y,l⟩
     case measure=>simp[intOf];omega
   ·have C:k=s.size:=by omega
    have q1:((k:Int)==(s.size:Int))=true:=by simp;omega
    have O:(k:Int)≤(s.size:Int):=by omega
    have l:Hid (k+1=s.size+1→R=j++[(s.data.toList.take k).drop f]):=by
     intro _;rw[←r.out,HR.out,List.take_of_length_le (by rw[n.out,C];exact Nat.le_refl _)]
    have Z:Hid (k+1≤s.size→cO (s.data.toList.take (k+1))=(j++[(s.data.toList.take k).drop f])++[(s.data.toList.take (k+1)).drop (k+1)]):=fun h=>absurd h (by omega);have e:=F.out;have i:=H.out;rw[←t.out]at e;clear C;go_wp2_with (at_builtin;refine bJ rfl _ _ 23 rfl w.heap.size 9 i0 (.string ByteArray.empty) 16 underlying23 hi y x v rfl _ m _ rfl e i i.size [.string X] 1 rfl rfl (by intro u z;simp at z;subst z;rfl) (by unfold maxLen;omega) (by omega) ?_)
    intro J I a g;have q:Hid (I.ownsRow w.heap.size 9 1 J (j++[(s.data.toList.take k).drop f]).length (((j++[(s.data.toList.take k).drop f]).map ah).map Value.string)):=by
     show World.ownsRow _ _ _ _ _ _ _;rw[List.length_append,List.map_append,List.map_append,←t.out];show World.ownsRow _ _ _ _ _ (m+1) (_++[Value.string (ah ((s.data.toList.take k).drop f))]);rw[←HX.out];simpa using a
    have V:=hid g;clear e i a g;go_wp2;go_roundw
    case rel=>exact⟨k+1,k+1,j++[(s.data.toList.take k).drop f],by omega,Nat.le_refl _,by rw[List.length_append,←t.out];show m+1≤_;omega,by go_num,by go_num,q,V,Z,l⟩
    case measure=>simp[intOf];omega
  ·obtain rfl:k=s.size+1:=by omega
   obtain⟨vA,vc,rfl,_,_,_⟩:=aS F;have W:Hid (DW w R (.returned (.slice vA j.length vc)) wr):=by
    rw[HE.out rfl];exact⟨_,rfl,F,H⟩
   go_wp2;go_ret;exact W
theorem Ak (s:ByteArray) (w:World) (P:s.size≤900000):Calls prog 195 #[.string s] w (Read w (prt (cO s.data.toList))):=by
 have t:s.data.toList.length=s.size:=Array.length_toList;obtain⟨R,E⟩:∃R,R=cO s.data.toList:=⟨_,rfl⟩;have H:R.length≤s.size+1:=by have:=oI s.data.toList;rw[←E,t]at this;exact this
 have v:0<R.length:=by rw[E];exact List.length_pos_iff.2 (og _)
 obtain⟨n,J⟩:∃n,n=R.length:=⟨_,rfl⟩;rw[←E];have T:=hid E;rw[←J]at H v;have j:=hid J;clear E t J;go_enter func195,ntmps195;go_wp2_with fail
 refine(Jg s _ P).mono ?_;rw[←T.out];rintro e G ⟨V,rfl,a,D⟩;rw[←j.out]at a;obtain⟨A,c,rfl,z,C,y⟩:=aS a;have k:=hid y;have O:=hid D;have q:=hid C;clear a y D;unfold maxLen at C;obtain⟨g,f,rfl,W,d⟩:=k.spot v;by_cases h1:1<n
 ·have l:=d (n - 1) (by rw[List.length_map,List.length_map,←j.out];omega);rw[List.getElem_map,List.getElem_map]at l;obtain⟨x,hx⟩:∃x,x=R[n - 1]'(by rw[←j.out];omega):=⟨_,rfl⟩;rw[←hx]at l;have i:Hid (R.getLast?=some x):=by
   show _=_;rw[List.getLast?_eq_getElem?,←j.out,hx,List.getElem?_eq_getElem]
  have I:((n:Int) - 1).toNat=n - 1:=by omega
  have L:(1:Int)<(n:Int):=by omega
  have Q:f+((n:Int) - 1).toNat=f+(n - 1):=by omega
  obtain⟨X,m⟩:∃X,X=ah x:=⟨_,rfl⟩;rw[←m]at l;clear d hx;by_cases hxe:x=[]
  ·have N:(X.toList==[])=true:=by rw[m,hxe];unfold ah;rw[ByteArray.toList_mk];rfl
   have B:X.toList=[]:=by rw[m,hxe];unfold ah;rw[ByteArray.toList_mk]
   have F:Hid (prt R=R.take (n - 1)):=by show _=_;unfold prt;rw[if_pos ⟨by rw[←j.out];exact h1,by rw[i.out,hxe]⟩,←j.out]
   have r:Hid (Read w (prt R) (.returned (.slice (some ⟨g,f,none⟩) (n - 1) c)) G):=by
    rw[F.out];refine⟨_,_,_,rfl,by rw[List.length_take,←j.out];omega,by omega,q,?_,O⟩;have:=k.upto (n - 1) (by omega);rw[List.map_take,List.map_take];exact this
   clear hxe m;go_wp2;go_ret;first|exact r|(have:=r.out;simpa[I]using this)
  have N:(X.toList==[])=false:=by rw[m];unfold ah;rw[ByteArray.toList_mk];simpa using hxe
  have B:X.toList.isEmpty=false:=by rw[m];unfold ah;rw[ByteArray.toList_mk];simpa using hxe
  have F:Hid (prt R=R):=by show _=_;unfold prt;rw[if_neg (fun h=>hxe (by have:=h.2;rw[i.out]at this;simpa using this))]
  have r:Hid (Read w (prt R) (.returned (.slice (some ⟨g,f,none⟩) n c)) G):=by
   rw[F.out];exact⟨_,_,_,rfl,j,z,q,k,O⟩
  clear hxe m;go_wp2;go_ret;exact r
 have F:Hid (prt R=R):=by show _=_;unfold prt;rw[if_neg (fun h=>h1 (by rw[j.out];exact h.1))]
 have L:¬(1:Int)<(n:Int):=by omega
 have r:Hid (Read w (prt R) (.returned (.slice (some ⟨g,f,none⟩) n c)) G):=by
  rw[F.out];exact⟨_,_,_,rfl,j,z,q,k,O⟩
 clear d;go_wp2;go_ret;exact r
end MV
namespace MW
open Go.RowKit Base bf dI lQ JU Xl MV
theorem sN (L:List UInt8) (h:num L=none):vU L=.tuple #[.int .u64 0,.bool false]:=by unfold vU;rw[h]
theorem sO (L:List UInt8) (v:Nat) (h:num L=some v):vU L=.tuple #[.int .u64 (sat v),.bool true]:=by unfold vU;rw[h]
theorem sQ (L:List UInt8) (h:num L=none):vV L= -1:=by unfold vV;rw[h];rfl
theorem sS (L:List UInt8) (v:Nat) (h:num L=some v):∃D:Nat,vV L=D∧D≤17592186044431∧((D<1099511627776∧D=v)∨(1099511627776≤D∧1099511627776≤v)):=by
 have c:=V7 L;have a:v=val (zi L).1 (zi L).2:=by
  unfold num at h;split at h
  ·cases h
  split at h
  ·exact(Option.some.inj h).symm
  cases h
 refine⟨big (zi L).1 (zi L).2,by unfold vV;rw[h];rfl,Eb _ (by omega) _,?_⟩;have:=Xv (zi L).1 (by omega) (zi L).2;rw[←a]at this;exact this
theorem PY (L:List UInt8):(lst L).length≤L.length:=by
 unfold lst;cases h:(cO L).getLast? with
 |none=>simp
 |some x=>exact nN L x (List.mem_of_getLast? h)
theorem UD (s:ByteArray) (w:World) (hs:s.size≤900000):Calls prog 160 #[.string s] w fun e w'=>e=.returned (.bool (ends s.data.toList))∧Below w.heap.size w w':=by
 have J:s.data.toList.length=s.size:=Array.length_toList;obtain⟨K,E⟩:∃K,K=lst (vS s.data.toList):=⟨_,rfl⟩;obtain⟨o,L⟩:∃o,o=ends s.data.toList:=⟨_,rfl⟩;have t:o=((num K).isSome||(decide (K≠[])&&dM 10 K)):=by rw[L,E];rfl
 obtain⟨U,D⟩:∃U,U=ah (vS s.data.toList):=⟨_,rfl⟩;have q:U.data.toList=vS s.data.toList:=by rw[D];rfl
 have T:U.size≤900000:=by rw[D,ak];have:=xY s.data.toList;omega
 obtain⟨g,l,A⟩:=QU U;rw[q,←E]at g;obtain⟨d,m⟩:∃a,a=Lib.lastIndexByte U 46:=⟨_,rfl⟩;rw[←m]at g l A;obtain⟨n,P⟩:∃n:Nat,(n:Int)=d+1:=⟨(d+1).toNat,by omega⟩;have x:n=(d+1).toNat:=by omega
 rw[←x]at g;obtain⟨Y,C⟩:∃Y,Y=ah K:=⟨_,rfl⟩;have a0:U.extract n U.size=Y:=by rw[eH.ext_drop _ _ _ rfl,q,g,C]
 have B:Y.data.toList=K:=by rw[C];rfl
 have i:Y.size≤1073741824:=by
  have h1:=PY (vS s.data.toList);have h2:=xY s.data.toList;rw[C,ak,E];omega
 have V:(n:Int)≤(U.size:Int):=by omega
 have W:(0:Int)≤(n:Int):=by omega
 have j:(Y.toList==[])=decide (K=[]):=by rw[C];unfold ah;rw[ByteArray.toList_mk,Bool.eq_iff_iff];simp
 have Q:=hid t;have HU:=hid D;have N:=hid m;have HN:Hid (d+1=(n:Int)):=P.symm;have k:=hid B;rw[←L];have Z: -1≤d:=l;have X:d<900000:=by omega
 clear L t E D q g l A m P x C B J;go_enter func160,ntmps160;go_wp2_with fail
 refine(C9 s _ (by omega)).mono ?_;rintro e w2 ⟨rfl,I⟩;subst I;rw[←HU.out];go_wp2_with fail
 refine(strings_LastIndexByte U 46 _ (by omega)).mono ?_;rintro e w3 ⟨rfl,H⟩;subst H;rw[←N.out];have hN:=HN.out;cases hk:num K with
 |some v=>
  have HV:=hid (sO K v hk);have F:Hid (o=true):=by show _=_;rw[Q.out,hk];rfl
  clear hk;go_wp2_with fail
  refine(dw Y _ i).mono ?_;rw[k.out,HV.out];rintro e O ⟨rfl,f⟩;subst f;go_wp2;go_ret;exact⟨aC F.symm,Below.refl _ _⟩
 |none=>
  have HV:=hid (sN K hk);have F:Hid (o=(decide (K≠[])&&dM 10 K)):=by show _=_;rw[Q.out,hk];rfl
  clear hk;by_cases hke:K=[]
  ·have c:(Y.toList==[])=true:=by rw[j];exact decide_eq_true hke
   have z:Y.toList=[]:=by simpa using c
   have y:(Y.toList !=[])=false:=by rw[bne,c];rfl
   have r:Hid (o=false):=by show _=_;rw[F.out,decide_eq_false (fun h=>h hke)];rfl
   clear j hke;go_wp2_with fail
   refine(dw Y _ i).mono ?_;rw[k.out,HV.out];rintro e O ⟨rfl,f⟩;subst f;go_wp2;go_ret;exact⟨aC r.symm,Below.refl _ _⟩
  have c:(Y.toList==[])=false:=by rw[j];exact decide_eq_false hke
  have z:Y.toList.isEmpty=false:=by
   cases h:Y.toList with
   |nil=>rw[h]at c;cases c
   |cons _ _=>rfl
  have y:(Y.toList !=[])=true:=by rw[bne,c];rfl
  have r:Hid (o=dM 10 K):=by show _=_;rw[F.out,decide_eq_true hke];rfl
  clear j hke;go_wp2_with fail
  refine(dw Y _ i).mono ?_;rw[k.out,HV.out];rintro e O ⟨rfl,f⟩;subst f;go_wp2_with fail
  refine(fZ Y 10 _ i).mono ?_;rw[k.out];rintro e w5 ⟨rfl,G⟩;subst G;go_wp2;go_ret;exact⟨aC r.symm,Below.refl _ _⟩
theorem last_any {α:Type} (l:List α) (n:Nat) (a:n=l.length) (c:0<n):∃h:n - 1<l.length,l.getLast?=some l[n - 1]:=by
 subst a;exact⟨by omega,by rw[List.getLast?_eq_getElem?,List.getElem?_eq_getElem]⟩
theorem CQ (s:ByteArray) (w:World) (hs:s.size≤900000):Calls prog 169 #[.string s] w fun e w'=>e=.returned (.bool (ends s.data.toList))∧Below w.heap.size w w':=by
 have Z:s.data.toList.length=s.size:=Array.length_toList;obtain⟨K,T⟩:∃K,K=lst (vS s.data.toList):=⟨_,rfl⟩;obtain⟨o,ho⟩:∃o,o=ends s.data.toList:=⟨_,rfl⟩;have H:o=((num K).isSome||(decide (K≠[])&&dM 10 K)):=by rw[ho,T];rfl
 obtain⟨R,hR⟩:∃R,R=prt (cO s.data.toList):=⟨_,rfl⟩;have l:R=cO (vS s.data.toList):=by rw[hR,Lm]
 have a0:R.length≤s.size+1:=by have W:=oI (vS s.data.toList);have V:=xY s.data.toList;rw[l];omega
 have r:0<R.length:=by rw[l];exact List.length_pos_iff.2 (og _)
 obtain⟨a,f⟩:=last_any R R.length rfl r;have O:R[R.length - 1]=K:=by
  rw[T];unfold lst;rw[←l,f];rfl
 obtain⟨Y,C⟩:∃Y,Y=ah K:=⟨_,rfl⟩;have N:Y.data.toList=K:=by rw[C];rfl
 have E:K.length=Y.size:=by rw[C,ak]
 have b3:Y.size≤900000:=by
  have W:=PY (vS s.data.toList);have V:=xY s.data.toList;rw[C,ak,T];omega
 have J:(Y.toList==[])=decide (K=[]):=by rw[C];unfold ah;rw[ByteArray.toList_mk,Bool.eq_iff_iff];simp
 have HO:=hid H;have HR:=hid hR;have B:=hid N;have P:=hid E;have a3:Hid (∀n,n=R.length→∃h:n - 1<R.length,R[n - 1]=K):=by
  rintro n rfl;exact⟨a,O⟩
 have HY:=hid C;rw[←ho];clear ho H T hR l f O a C N Z E;go_enter func169,ntmps169;go_wp2_with fail
 refine(Ak s _ hs).mono ?_;rw[←HR.out];rintro e w2 ⟨A,n,c,rfl,hn,b6,a1,G,L⟩;rw[←hn]at a0 r;obtain⟨W,V⟩:=a3 n hn;obtain⟨g,b0,rfl,hg,i⟩:=G.spot r;have a2:=i (n - 1) (by rw[List.length_map,List.length_map];exact W);rw[List.getElem_map,List.getElem_map,V,←HY.out]at a2;have HB:=hid L;have b5:((n:Int) - 1).toNat=n - 1:=by omega
 unfold maxLen at a1;clear hn G i W V L;obtain⟨m,y⟩:∃m,m=decide (K≠[]):=⟨_,rfl⟩;have a5:=hid y;have q:(Y.toList==[])= !m:=by rw[J,y];by_cases h:K=[]<;>simp[h]
 have a8:(Y.toList !=[])=m:=by rw[bne,q,Bool.not_not]
 have a9:Y.toList.isEmpty= !m:=by
  rw[←q];cases Y.toList<;>rfl
 clear J y;go_wp2;go_loopw [5,6,19] (fun vd _ vk wr=>∃k:Nat,k≤Y.size∧vk=.int .i64 (k:Int)∧wr=w2∧vd=.bool (m&&dM 10 (K.take k))) (fun _ _ vk _=>Y.size - (intOf vk).toNat)
 case atStart=>exact⟨0,Nat.zero_le _,rfl,rfl,by simp[dM]⟩
 case round=>
  obtain⟨k,t,rfl,rfl,rfl⟩:=hrel;obtain⟨d,hd⟩:∃d,d=(m&&dM 10 (K.take k)):=⟨_,rfl⟩;rw[←hd];have HD:=hid hd;clear hd;by_cases a:k<Y.size
  ·obtain⟨x,hx⟩:∃x,Y[k]=x:=⟨_,rfl⟩;have I:k<K.length:=by rw[P.out];exact a
   have F:K[k]=x:=by
    have:Y.data.toList[k]?=some x:=by rw[←hx];exact Lib.data_getElem? Y k a
    rw[B.out]at this;obtain⟨_,e⟩:=List.getElem?_eq_some_iff.1 this;exact e
   have HS:Hid (K.take (k+1)=K.take k++[x]):=by rw[←F];exact dH _ k I
   have Q:Hid ((m&&dM 10 (K.take (k+1)))=(d&&ku 10 x)):=by
    show _=_;rw[HS.out,HD.out];unfold dM;rw[List.all_append,List.all_cons,List.all_nil,Bool.and_true,Bool.and_assoc]
   obtain⟨b,hb⟩:∃b,b=dI.digit x.toNat:=⟨_,rfl⟩;have a7:=hid hb;have a6:Hid (b=ku 10 x):=hb.trans (sF x);clear I F hb;cases d with
   |true=>
    go_wp2_with fail
    refine(jf.iG _ _).mono ?_;rintro e w3 ⟨rfl,X⟩;subst X;rw[←a7.out];go_wp2;go_roundw
    case rel=>exact⟨k+1,by omega,by go_num,by first|rfl|trivial,by rw[Q.out,a6.out];rfl⟩
    case measure=>simp[intOf];omega
   |false=>
    go_wp2;go_roundw
    case rel=>exact⟨k+1,by omega,by go_num,by first|rfl|trivial,by rw[Q.out];rfl⟩
    case measure=>simp[intOf];omega
  obtain rfl:k=Y.size:=by omega
  have a4:Hid (d=(m&&dM 10 K)):=by show _=_;rw[HD.out,List.take_of_length_le (by rw[P.out];exact Nat.le_refl _)]
  have HE:Hid (o=((num K).isSome||d)):=by show _=_;rw[HO.out,a4.out,a5.out]
  cases d with
  |true=>
   have j:Hid (o=true):=by show _=_;rw[HE.out,Bool.or_true]
   go_wp2;go_ret;exact⟨aC j.symm,HB⟩
  |false=>
   cases t:num K with
   |none=>
    have HV:=hid (sQ K t);have j:Hid (o=false):=by show _=_;rw[HE.out,t];rfl
    clear t;go_wp2_with fail
    refine(bP Y _ (by omega)).mono ?_;rw[B.out,HV.out];rintro e w4 ⟨rfl,z⟩;go_wp2;go_ret;exact⟨aC j.symm,bD HB z⟩
   |some v=>
    obtain⟨D,hD,_,_⟩:=sS K v t;have HV:=hid hD;have j:Hid (o=true):=by show _=_;rw[HE.out,t];rfl
    have b7:(0:Int)≤(D:Int):=by omega
    clear t hD;go_wp2_with fail
    refine(bP Y _ (by omega)).mono ?_;rw[B.out,HV.out];rintro e w4 ⟨rfl,z⟩;go_wp2;go_ret;exact⟨aC j.symm,bD HB z⟩
end MW
namespace vM
open Go.RowKit Base lQ JU MV MW
def o8 (o:Option Nat):Value:=match o with
 |some v=>.tuple #[.int .u32 v,.bool true]
 |none=>.tuple #[.int .u32 0,.bool false]
theorem dh (o:Option Nat) (h:o=none):o8 o=.tuple #[.int .u32 0,.bool false]:=by rw[h];rfl
theorem sW (o:Option Nat) (v:Nat) (h:o=some v):o8 o=.tuple #[.int .u32 v,.bool true]:=by rw[h];rfl
theorem drop_at {α:Type} (R:List α) (k:Nat) (p:α) (a:k<R.length) (h:R[k]=p):R.drop k=p::R.drop (k+1):=by rw[←h];exact List.drop_eq_getElem_cons a
theorem vW (a c:Nat) (p:List UInt8) (r:List (List UInt8)) (h:num p=none):kV a c (p::r)=none:=by
 cases r<;>(unfold kV;rw[h])
theorem kW (a c:Nat) (p:List UInt8) (v:Nat) (h:num p=some v) (d:v<a):kV a c [p]=some (c+v):=by unfold kV;rw[h];simp only;rw[if_pos d]
theorem jy (a c:Nat) (p:List UInt8) (v:Nat) (h:num p=some v) (d:¬v<a):kV a c [p]=none:=by unfold kV;rw[h];simp only;rw[if_neg d]
theorem uj (a c:Nat) (p q:List UInt8) (r:List (List UInt8)) (v:Nat) (h:num p=some v) (d:v≤255):kV a c (p::q::r)=kV (a / 256) (c+v*(a / 256)) (q::r):=by
 conv=>lhs;unfold kV
 rw[h];simp only;rw[if_pos d]
theorem ni (a c:Nat) (p q:List UInt8) (r:List (List UInt8)) (v:Nat) (h:num p=some v) (d:¬v≤255):kV a c (p::q::r)=none:=by unfold kV;rw[h];simp only;rw[if_neg d]
theorem drop_end {α:Type} (R:List α) (k:Nat) (h:R.length=k):R.drop k=[]:=by subst h;exact List.drop_length
def mk:Nat→Nat
 |0=>4294967296
 |1=>16777216
 |2=>65536
 |3=>256
 |_=>1
theorem wW (v m:Nat) (a:m≤4294967296):v<m↔sat v<m:=by unfold sat;omega
theorem yU (v:Nat) (h:sat v<4294967296):sat v=v:=by unfold sat at h⊢;omega
theorem jl (s:ByteArray) (w:World) (hs:s.size≤900000) (hM:Max w):Calls prog 161 #[.string s] w fun e w'=>e=.returned (o8 (Dl s.data.toList))∧Below w.heap.size w w':=by
 have a5:s.data.toList.length=s.size:=Array.length_toList;obtain⟨S,hS⟩:∃S,S=Dl s.data.toList:=⟨_,rfl⟩;obtain⟨R,hR⟩:∃R,R=cO (vS s.data.toList):=⟨_,rfl⟩;have b3:S=if R.length≤4 then kV 4294967296 0 R else none:=by rw[hS,hR];rfl
 obtain⟨U,hU⟩:∃U,U=ah (vS s.data.toList):=⟨_,rfl⟩;have a9:U.data.toList=vS s.data.toList:=by rw[hU];rfl
 have b8:(vS s.data.toList).length≤s.size:=by rw[←a5];exact xY _
 have c7:U.size≤900000:=by rw[hU,ak];omega
 have a6:0<R.length:=by rw[hR];exact List.length_pos_iff.2 (og _)
 have b9:R.length≤900001:=by have:=oI (vS s.data.toList);rw[hR];omega
 have a1:Hid (∀p ∈ R,p.length≤900000):=by
  intro p W;rw[hR]at W;have:=nN _ p W;omega
 have b0:cO U.data.toList=R:=by rw[a9,hR]
 have c2:=hid b0;have HU:=hid hU;have c3:=hid hM;have b6:=hid b3;rw[←hS];clear hS b3 hR hU a9 b8 b0 hM a5;go_enter func161,ntmps161;go_wp2_with fail
 refine(C9 s _ (by omega)).mono ?_;rintro e w2 ⟨rfl,b7⟩;subst b7;rw[←HU.out];go_wp2_with fail
 refine(SC U _ (by omega) c3).mono ?_;rw[c2.out];rintro e w3 ⟨A,n,c,rfl,hn,c8,c0,a7,hb⟩;rw[←hn]at a6 b9;obtain⟨g,c6,rfl,hg,E⟩:=a7.spot a6;have a3:=hid E;have HB:=hid hb;have Q:=hid hn;unfold maxLen at c0;clear hn a7 E hb;by_cases h4:n≤4
 ·have b5:¬(3:Int)<(n:Int) - 1:=by omega
  have c1:Hid (S=kV 4294967296 0 (R.drop 0)):=by show _=_;rw[b6.out,if_pos (by rw[←Q.out];exact h4),List.drop_zero]
  go_wp2;obtain⟨q,hq⟩:∃q:Int,q=(n:Int) - 1:=⟨_,rfl⟩;rw[←hq];have HQ:=hid hq;clear hq b5;generalize decide ((3:Int)<q)=dd;go_loopw [6,7,8,9,10,21] (fun va _ _ _ _ vk wr=>∃(k a:Nat),k≤n∧vk=.int .i64 (k:Int)∧wr=w3∧va=.int .u64 (a:Int)∧a<4294967296∧Hid (k<n→a+mk k≤4294967296)∧Hid (S=kV (mk k) a (R.drop k))) (fun _ _ _ _ _ vk _=>n - (intOf vk).toNat)
  case atStart=>exact⟨0,0,Nat.zero_le _,rfl,rfl,rfl,by omega,fun _=>Nat.le_refl _,c1⟩
  case round=>
   obtain⟨k,a,hk,rfl,rfl,rfl,Z,c5,HW⟩:=hrel;by_cases hlt:k<n
   ·have f := c5 hlt;have D:k=0∨k=1∨k=2∨k=3:=by omega
    have y:mk k≤4294967296:=by rcases D with rfl|rfl|rfl|rfl<;>decide
    obtain⟨p,W⟩:∃p,p=R[k]'(by rw[←Q.out];exact hlt):=⟨_,rfl⟩;obtain⟨Y,hY⟩:∃Y,Y=ah p:=⟨_,rfl⟩;have z:=a3 k (by rw[List.length_map,List.length_map,←Q.out];exact hlt);rw[List.getElem_map,List.getElem_map,←W,←hY]at z;have H:Hid (Y.data.toList=p):=by show _=_;rw[hY];rfl
    have B:Y.size≤1073741824:=by
     rw[hY,ak];have:=a1 p (by rw[W];exact List.getElem_mem _);omega
    have L:Hid (R.drop k=p::R.drop (k+1)):=drop_at R k p (by rw[←Q.out];exact hlt) W.symm;clear W hY;cases hnp:num p with
    |none=>
     have HV:=hid (sN p hnp);have l:=hid (dh S (by rw[HW.out,L.out];exact vW _ _ _ _ hnp));clear hnp y f;rcases D with rfl|rfl|rfl|rfl
     all_goals
      try rw[Nat.add_zero]at z
      go_wp2_with fail
      refine(dw Y _ B).mono ?_;rw[H.out,HV.out];rintro e w4 ⟨rfl,j⟩;subst j;go_wp2;go_ret2;exact⟨by rw[l.out];rfl,HB⟩
    | some v=>
     have HV:=hid (sO p v hnp);obtain⟨x,hx⟩:∃x,x=sat v:=⟨_,rfl⟩;have N:x≤4294967296:=by rw[hx];unfold sat;omega
     rw[←hx]at HV;have V:(0:Int)≤(x:Int):=by omega
     have r:(x:Int)≤4294967296:=by omega
     by_cases hq:n=k+1
     ·have G:R.drop (k+1)=[]:=drop_end R _ (by rw[←Q.out];exact hq);have hA:((k:Int)==q)=true:=by have:=HQ.out;simp;omega
      have hB:¬(k:Int)<q:=by have:=HQ.out;omega
      have hC:4 - q=4 - (k:Int):=by have:=HQ.out;omega
      have a2:=hid hq;clear hq;by_cases hxm:x<mk k
      ·have C:x=v:=by rw[hx];exact yU v (by rw[←hx];omega)
       have l:=hid ((show S=kV (mk k) a [p]by rw[HW.out,L.out,G]).trans (kW (mk k) a p v hnp ((wW v (mk k) y).2 (by rw[←hx];exact hxm))));have I:=hid C;have c4:=hid G;have d:Hid ((a:Int)+(x:Int)=((a+v:Nat):Int)):=by show _=_;rw[I.out];omega
       have i:(x:Int)<(mk k:Int):=by omega
       have m:(a:Int)+(mk k:Int)≤4294967296:=by omega
       have F:(0:Int)≤(a:Int):=by omega
       have P:Hid (a+v<4294967296):=by have:=I.out;show _<_;omega
       have a0:Hid (S=kV (mk (k+1)) (a+v) (R.drop (k+1))):=by show _=_;rw[c4.out];exact l
       clear hnp hx C G hxm N r f y;rcases D with rfl|rfl|rfl|rfl
       all_goals
        try rw[Nat.add_zero]at z
        simp only[mk,Int.cast_ofNat_Int]at hA hB i m;simp only[Int.cast_ofNat_Int,Int.reduceSub]at hC;generalize (x:Int)=X at i V d HV;generalize (a:Int)=AC at m F d⊢;go_wp2_with fail
        refine(dw Y _ B).mono ?_;rw[H.out,HV.out];rintro e w4 ⟨rfl,j⟩;subst j;go_wp2;go_roundw
        case rel=>exact⟨_,a+v,by have:=a2.out;omega,by go_num,by first|rfl|trivial,by first|exact int_eq d|(rw[←d.out]),P,fun h=>absurd h (by have:=a2.out;omega),a0⟩
        case measure=>(have:=a2.out;simp[intOf];omega)
      have l:=hid (dh S ((show S=kV (mk k) a [p]by rw[HW.out,L.out,G]).trans (jy (mk k) a p v hnp (fun h=>hxm (by rw[hx];exact(wW v (mk k) y).1 h)))));have i:¬(x:Int)<(mk k:Int):=by omega
      clear hnp hx G hxm N f y;rcases D with rfl|rfl|rfl|rfl
      all_goals
       try rw[Nat.add_zero]at z
       simp only[mk,Int.cast_ofNat_Int]at hA hB i;simp only[Int.cast_ofNat_Int,Int.reduceSub]at hC;generalize (x:Int)=X at i V r HV;generalize (a:Int)=AC;go_wp2_with fail
       refine(dw Y _ B).mono ?_;rw[H.out,HV.out];rintro e w4 ⟨rfl,j⟩;subst j;go_wp2;go_ret2;exact⟨by rw[l.out];rfl,HB⟩
     have hA:((k:Int)==q)=false:=by have:=HQ.out;simp;omega
     have hB:(k:Int)<q:=by have:=HQ.out;omega
     have O:k=0∨k=1∨k=2:=by omega
     have t:k+1<n:=by omega
     obtain⟨p2,a8⟩:∃p2,p2=R[k+1]'(by rw[←Q.out];exact t):=⟨_,rfl⟩;have J:Hid (R.drop (k+1)=p2::R.drop (k+2)):=drop_at R (k+1) p2 (by rw[←Q.out];exact t) a8.symm;have T:=hid t;clear a8 hq t y D;by_cases hxm:x≤255
     ·have C:x=v:=by rw[hx];exact yU v (by rw[←hx];omega)
      have l:=(show S=kV (mk k) a (p::p2::R.drop (k+2))by rw[HW.out,L.out,J.out]).trans (uj (mk k) a p p2 (R.drop (k+2)) v hnp (by omega));rw[show mk k / 256=mk (k+1)by rcases O with rfl|rfl|rfl<;>rfl,←J.out]at l
      have a0:=hid l;have I:=hid C;have d:Hid ((a:Int)+(x:Int)*(mk (k+1):Int)=((a+v*mk (k+1):Nat):Int)):=by show _=_;rw[I.out];simp
      have i:(x:Int)≤255:=by omega
      have m:(a:Int)+(mk k:Int)≤4294967296:=by omega
      have F:(0:Int)≤(a:Int):=by omega
      have P:Hid (a+v*mk (k+1)<4294967296∧a+v*mk (k+1)+mk (k+1)≤4294967296):=by have:=I.out;show _∧_;rcases O with rfl|rfl|rfl<;>simp only[mk]at f⊢<;>omega
      clear hnp hx C hxm N r f l;rcases O with rfl|rfl|rfl
      all_goals
       try rw[Nat.add_zero]at z
       simp only[mk,Int.cast_ofNat_Int]at hA hB m;simp only[mk,Nat.reduceAdd,Int.cast_ofNat_Int]at d;generalize (x:Int)=X at i V d HV;generalize (a:Int)=AC at m F d⊢;go_wp2_with fail
       refine(dw Y _ B).mono ?_;rw[H.out,HV.out];rintro e w4 ⟨rfl,j⟩;subst j;go_wp2;go_roundw
       case rel=>exact⟨_,_,by have:=T.out;omega,by go_num,by first|rfl|trivial,by first|exact int_eq d|(rw[←d.out]),P.out.1,fun _=>P.out.2,a0⟩
       case measure=>(have:=T.out;simp[intOf];omega)
     have l:=hid (dh S ((show S=kV (mk k) a (p::p2::R.drop (k+2))by rw[HW.out,L.out,J.out]).trans (ni (mk k) a p p2 (R.drop (k+2)) v hnp (fun h=>hxm (by rw[hx];unfold sat;omega)))));have i:¬(x:Int)≤255:=by omega
     have a4:(255:Int)<(x:Int):=by omega
     clear hnp hx hxm N f;rcases O with rfl|rfl|rfl
     all_goals
      try rw[Nat.add_zero]at z
      simp only[Int.cast_ofNat_Int]at hA hB;generalize (x:Int)=X at i a4 r HV;generalize (a:Int)=AC;go_wp2_with fail
      refine(dw Y _ B).mono ?_;rw[H.out,HV.out];rintro e w4 ⟨rfl,j⟩;subst j;go_wp2;go_ret2;exact⟨by rw[l.out];rfl,HB⟩
   obtain rfl:k=n:=by omega
   have l:=hid (sW S a (by rw[HW.out,drop_end R k Q.out.symm];rfl));have F:(0:Int)≤(a:Int):=by omega
   have m:(a:Int)<4294967296:=by omega
   clear Z;generalize (a:Int)=AC at F m l⊢;go_wp2;go_ret2;exact⟨by rw[l.out];rfl,HB⟩
 have b5:(3:Int)<(n:Int) - 1:=by omega
 have l:=hid (dh S (by rw[b6.out,if_neg (by rw[←Q.out];exact h4)]));go_wp2;go_ret2;exact⟨by rw[l.out];rfl,HB⟩
end vM
namespace Xm
open Go.RowKit Base bf lQ Xl MV MW vM
theorem abK:mk 0=4294967296∧mk 1=16777216∧mk 2=65536∧mk 3=256:=⟨rfl,rfl,rfl,rfl⟩
theorem Ai (s:ByteArray) (w:World) (hs:s.size≤900000):Calls prog 170 #[.string s] w fun e w'=>e=.returned (o8 (Dl s.data.toList))∧Below w.heap.size w w':=by
 have a8:s.data.toList.length=s.size:=Array.length_toList;obtain⟨S,hS⟩:∃S,S=Dl s.data.toList:=⟨_,rfl⟩;obtain⟨R,hR⟩:∃R,R=prt (cO s.data.toList):=⟨_,rfl⟩;have H:R=cO (vS s.data.toList):=by rw[hR,Lm]
 have b5:S=if R.length≤4 then kV 4294967296 0 R else none:=by rw[hS,H];rfl
 have c0:(vS s.data.toList).length≤s.size:=by rw[←a8];exact xY _
 have a9:0<R.length:=by rw[H];exact List.length_pos_iff.2 (og _)
 have c1:R.length≤900001:=by have:=oI (vS s.data.toList);rw[H];omega
 have a6:Hid (∀p ∈ R,p.length≤900000):=by
  intro p hp;rw[H]at hp;have:=nN _ p hp;omega
 have HR:=hid hR;have b7:=hid b5;rw[←hS];clear hS b5 hR H c0 a8;go_enter func170,ntmps170;go_wp2_with fail
 refine(Ak s _ hs).mono ?_;rw[←HR.out];rintro e w3 ⟨A,n,c,rfl,hn,c7,c2,b0,hb⟩;rw[←hn]at a9 c1;have b8:=hid b0;have b9:=hid hb;have HN:=hid hn;unfold maxLen at c2;clear hn b0 hb;by_cases h4:n≤4
 ·have b6:¬(4:Int)<(n:Int):=by omega
  have c3:Hid (S=kV 4294967296 0 (R.drop 0)):=by show _=_;rw[b7.out,if_pos (by rw[←HN.out];exact h4),List.drop_zero]
  go_wp2;generalize decide ((4:Int)<(n:Int))=dd;go_loopw [5,6,7,8,16] (fun vm va _ _ vk wr=>∃(k a:Nat),k≤n∧vk=.int .i64 (k:Int)∧(k<n→vm=.int .i64 (mk k:Int))∧va=.int .i64 (a:Int)∧a<4294967296∧Hid (Below w.heap.size w wr)∧Hid (dV wr A n ((R.map ah).map Value.string))∧Hid (k<n→a+mk k≤4294967296)∧Hid (S=kV (mk k) a (R.drop k))) (fun _ _ _ _ vk _=>n - (intOf vk).toNat)
  case atStart=>exact⟨0,0,Nat.zero_le _,rfl,fun _=>rfl,rfl,by omega,b9,b8,fun _=>Nat.le_refl _,c3⟩
  case round=>
   clear b6;obtain⟨k,a,hk,rfl,D,rfl,i,HB,a5,c5,HW⟩:=hrel;by_cases hlt:k<n
   ·have j := c5 hlt;have F:k=0∨k=1∨k=2∨k=3:=by omega
    have E:mk k≤4294967296:=by rcases F with rfl|rfl|rfl|rfl<;>decide
    obtain rfl:=D hlt;obtain⟨p,hp⟩:∃p,p=R[k]'(by rw[←HN.out];exact hlt):=⟨_,rfl⟩;obtain⟨Y,hY⟩:∃Y,Y=ah p:=⟨_,rfl⟩;obtain⟨g,c6,rfl,hg,G⟩:=a5.spot a9;have B:=G k (by rw[List.length_map,List.length_map,←HN.out];exact hlt);rw[List.getElem_map,List.getElem_map,←hp,←hY]at B;have J:Hid (Y.data.toList=p):=by show _=_;rw[hY];rfl
    have C:Y.size≤1073741824:=by
     rw[hY,ak];have:=a6 p (by rw[hp];exact List.getElem_mem _);omega
    have O:Hid (R.drop k=p::R.drop (k+1)):=drop_at R k p (by rw[←HN.out];exact hlt) hp.symm;have t:(0:Int)≤(a:Int):=by omega
    clear hp hY G;cases hnp:num p with
    |none=>
     have HV:=hid (sQ p hnp);have m:=hid (dh S (by rw[HW.out,O.out];exact vW _ _ _ _ hnp));clear hnp E j i;rcases F with rfl|rfl|rfl|rfl
     all_goals
      try rw[Nat.add_zero]at B
      simp only[abK];generalize (a:Int)=AC at t⊢;go_wp2_with fail
      refine(bP Y _ C).mono ?_;rw[J.out,HV.out];rintro e P ⟨rfl,d⟩;have l:Hid (Below w.heap.size w P):=bD HB d;clear d;go_wp2;go_ret2;exact⟨by rw[m.out];rfl,l⟩
    | some v=>
     obtain⟨x,hx,V,T⟩:=sS p v hnp;have HV:=hid hx;have Z:(0:Int)≤(x:Int):=by omega
     have W:¬(x:Int)<0:=by omega
     have y:(x:Int)≤17592186044431:=by omega
     clear hx;by_cases hq:n=k+1
     ·have I:R.drop (k+1)=[]:=drop_end R _ (by rw[←HN.out];exact hq);have hB:¬(k:Int)<(n:Int) - 1:=by omega
      have a2:=hid hq;clear hq;by_cases hxm:x<mk k
      ·have Q:x=v:=by omega
       have m:=hid ((show S=kV (mk k) a [p]by rw[HW.out,O.out,I]).trans (kW (mk k) a p v hnp (by omega)));have c4:=hid I;have f:Hid ((a:Int)+(x:Int)=((a+v:Nat):Int)):=by show _=_;omega
       have q:(x:Int)<(mk k:Int):=by omega
       have r:(a:Int)+(mk k:Int)≤4294967296:=by omega
       have a1:Hid (a+v<4294967296):=by show _<_;omega
       have a4:Hid (S=kV (mk (k+1)) (a+v) (R.drop (k+1))):=by show _=_;rw[c4.out];exact m
       clear hnp Q I hxm V j i T E;rcases F with rfl|rfl|rfl|rfl
       all_goals
        try rw[Nat.add_zero]at B
        simp only[abK,Int.cast_ofNat_Int]at hB q r⊢;generalize (x:Int)=X at q Z W y f HV;generalize (a:Int)=AC at r t f⊢;go_wp2_with fail
        refine(bP Y _ C).mono ?_;rw[J.out,HV.out];rintro e P ⟨rfl,d⟩;have l:Hid (Below w.heap.size w P):=bD HB d;have L:=hid (a5.below d);clear d;go_wp2;go_roundw
        case rel=>exact⟨_,a+v,by have:=a2.out;omega,by go_num,fun h=>absurd h (by have:=a2.out;omega),by first|exact int_eq f|(rw[←f.out]),a1,l,L,fun h=>absurd h (by have:=a2.out;omega),a4⟩
        case measure=>(have:=a2.out;simp[intOf];omega)
      have m:=hid (dh S ((show S=kV (mk k) a [p]by rw[HW.out,O.out,I]).trans (jy (mk k) a p v hnp (by omega))));have q:(mk k:Int)≤(x:Int):=by omega
      clear hnp I hxm V j i T E;rcases F with rfl|rfl|rfl|rfl
      all_goals
       try rw[Nat.add_zero]at B
       simp only[abK,Int.cast_ofNat_Int]at hB q⊢;generalize (x:Int)=X at q Z W y HV;generalize (a:Int)=AC at t⊢;go_wp2_with fail
       refine(bP Y _ C).mono ?_;rw[J.out,HV.out];rintro e P ⟨rfl,d⟩;have l:Hid (Below w.heap.size w P):=bD HB d;clear d;go_wp2;go_ret2;exact⟨by rw[m.out];rfl,l⟩
     have hB:(k:Int)<(n:Int) - 1:=by omega
     have a0:k=0∨k=1∨k=2:=by omega
     have z:k+1<n:=by omega
     obtain⟨p2,b3⟩:∃p2,p2=R[k+1]'(by rw[←HN.out];exact z):=⟨_,rfl⟩;have N:Hid (R.drop (k+1)=p2::R.drop (k+2)):=drop_at R (k+1) p2 (by rw[←HN.out];exact z) b3.symm;have a3:=hid z;clear b3 hq z F;by_cases hxm:x≤255
     ·have Q:x=v:=by omega
      have m:=(show S=kV (mk k) a (p::p2::R.drop (k+2))by rw[HW.out,O.out,N.out]).trans (uj (mk k) a p p2 (R.drop (k+2)) v hnp (by omega));rw[show mk k / 256=mk (k+1)by rcases a0 with rfl|rfl|rfl<;>rfl,←N.out]at m
      have a4:=hid m;have f:Hid ((a:Int)+(x:Int)*(mk (k+1):Int)=((a+v*mk (k+1):Nat):Int)):=by show _=_;rw[Q];simp
      have q:(x:Int)≤255:=by omega
      have r:(a:Int)+(mk k:Int)≤4294967296:=by omega
      have a1:Hid (a+v*mk (k+1)<4294967296∧a+v*mk (k+1)+mk (k+1)≤4294967296):=by show _∧_;rcases a0 with rfl|rfl|rfl<;>simp only[mk]at j⊢<;>omega
      clear hnp Q hxm V j i T m E;rcases a0 with rfl|rfl|rfl
      all_goals
       try rw[Nat.add_zero]at B
       simp only[abK,Int.cast_ofNat_Int]at hB r⊢;simp only[mk,Nat.reduceAdd,Int.cast_ofNat_Int]at f;generalize (x:Int)=X at q Z W y f HV;generalize (a:Int)=AC at r t f⊢;go_wp2_with fail
       refine(bP Y _ C).mono ?_;rw[J.out,HV.out];rintro e P ⟨rfl,d⟩;have l:Hid (Below w.heap.size w P):=bD HB d;have L:=hid (a5.below d);clear d;go_wp2;go_roundw
       case rel=>exact⟨_,_,by have:=a3.out;omega,by go_num,fun _=>rfl,by first|exact int_eq f|(rw[←f.out]),a1.out.1,l,L,fun _=>a1.out.2,a4⟩
       case measure=>(have:=a3.out;simp[intOf];omega)
     have m:=hid (dh S ((show S=kV (mk k) a (p::p2::R.drop (k+2))by rw[HW.out,O.out,N.out]).trans (ni (mk k) a p p2 (R.drop (k+2)) v hnp (by omega))));have a7:(255:Int)<(x:Int):=by omega
     clear hnp hxm V j i T E;rcases a0 with rfl|rfl|rfl
     all_goals
      try rw[Nat.add_zero]at B
      simp only[abK,Int.cast_ofNat_Int]at hB⊢;generalize (x:Int)=X at a7 Z W y HV;generalize (a:Int)=AC at t⊢;go_wp2_with fail
      refine(bP Y _ C).mono ?_;rw[J.out,HV.out];rintro e P ⟨rfl,d⟩;have l:Hid (Below w.heap.size w P):=bD HB d;clear d;go_wp2;go_ret2;exact⟨by rw[m.out];rfl,l⟩
   obtain rfl:k=n:=by omega
   have m:=hid (sW S a (by rw[HW.out,drop_end R k HN.out.symm];rfl));have t:(0:Int)≤(a:Int):=by omega
   have r:(a:Int)<4294967296:=by omega
   clear i D;generalize (a:Int)=AC at t r m⊢;go_wp2;go_ret2;exact⟨by rw[m.out];rfl,HB⟩
 have b6:(4:Int)<(n:Int):=by omega
 have m:=hid (dh S (by rw[b7.out,if_neg (by rw[←HN.out];exact h4)]));go_wp2;go_ret2;exact⟨by rw[m.out];rfl,b9⟩
end Xm
namespace Tab
open Go.RowKit Base
def Pow (w:World):Prop:=Lib.TabIs prog w "internal/strconv.uint64pow10" .u64 Lib.pow10Tab
theorem yT:prog.globalNamed "internal/strconv.uint64pow10" =some 3:=by kernel_rfl
theorem aaX {W:World} {l:List (String×DataW Unit)} (h:laidMet prog l W) (f:("internal/strconv.uint64pow10",Lib.tabData .u64 Lib.pow10Tab) ∈ l):Pow W:=by
 obtain⟨j,i,cs,e,p,d,c,a,g⟩:=Lib.laidMet.reads h f;obtain rfl:=Option.some.inj (yT.symm.trans d);obtain rfl:=Option.some.inj ((show(prog.globals[3]?).map (·.type)=some 184 by kernel_rfl).symm.trans c);show World.var? _ _ _=_;rw[a,←Lib.cells_of_tab (k:=.u64) (zs:=Lib.pow10Tab) underlying184 underlying157 (by kernel_rfl) (by kernel_rfl) g]
theorem Pow.below {w w':World} (h:Pow w) (a:Below w.heap.size w w'):Pow w':=Joins.tab_stays yT h a (Nat.le_refl _)
theorem below_grow (w:World) (k:Nat) (a:Array Obj):Below w.heap.size w (Sort.grow (w.drewN k) a):=
 ⟨rfl,rfl,rfl,by rw[Sort.size_grow];exact Nat.le_add_right _ _,fun g hg=>by
  show(w.heap++a)[g]?=w.heap[g]?
  rw[Array.getElem?_append_left hg]⟩
theorem UY (n:Nat):Lib.itoa (n:Int)=Lib.decDigits n:=by unfold Lib.itoa;rw[if_neg (by omega)];simp
theorem zT (n:Nat) (c:n≤9223372036854775807) (w:World) (a:Pow w):
  Calls prog 65 #[.int .i64 (n:Int)] w fun e w'=>e=.returned (.string (ah (Lib.decDigits n)))∧Below w.heap.size w w':=
 (strconv_Itoa (n:Int) (by omega) (by omega) w a).mono fun e w' ⟨he,k,os,hw⟩=>⟨by rw[he,UY];rfl,by rw[hw];exact below_grow w k os⟩
end Tab
namespace yI
open Go.RowKit Base bf
theorem nD (k:Nat):∀n,n<10^(k+1)→(Lib.decDigits n).length≤k+1:=by
 induction k with
 |zero=>intro n h;rw[Lib.decDigits,dif_pos (by omega)];simp
 |succ k ih=>
  intro n h;rw[Lib.decDigits];split
  ·simp
  have:=ih (n / 10) (by rw[Nat.pow_succ]at h;omega);rw[List.length_append];simp;omega
theorem OI (n:Nat):((UInt8.ofNat (48+n%10)).toNat:Int)=48+(n:Int)%10:=by simp;omega
theorem one_row (c:UInt8) (w:World):dV (w.alloc (.cells #[.int .u8 (c.toNat:Int)] 5)) (some ⟨w.heap.size,0,none⟩) 1 (aQ [c]):=iP w [c] 5 (0,0)
theorem pF (n:Nat) (h:n≤18446744073709551615):(Lib.decDigits n).length≤20:=nD 19 n (by omega)
theorem jZ:∀(N n:Nat),n<N→n≤18446744073709551615→∀w:World,Calls prog 197 #[.int .u64 (n:Int)] w fun e w'=>e=.returned (.string (ah (Lib.decDigits n)))∧Below w.heap.size w w'
 |0,n,h,_,w=>absurd h (by omega)
 |N+1,n,hN,hn,w=>by
  obtain⟨c,f⟩:∃c:UInt8,c=UInt8.ofNat (48+n%10):=⟨_,rfl⟩
  have a:(c.toNat:Int)=48+(n:Int)%10:=by rw[f];exact OI n
  have z:(n:Int).tmod 10=(n:Int)%10:=Int.tmod_eq_emod_of_nonneg (by omega)
  have y:IntKind.u8.wrap ((n:Int)%10)=(n:Int)%10:=by rw[IntKind.wrap_u8];omega
  have q3:IntKind.u8.wrap (48+(n:Int)%10)=(c.toNat:Int):=by rw[IntKind.wrap_u8,a];omega
  have x:48+(n:Int)%10=(c.toNat:Int):=a.symm
  have aU:=fun w:World=>bI (P:=prog) (w:=w.alloc (.cells #[.int .u8 (c.toNat:Int)] 5)) 50 9 5 underlying50 underlying5 underlying9 [c] 1 (one_row c w)
  by_cases h9:n<10
  ·have l:Hid (Lib.decDigits n=[c]):=by rw[Lib.decDigits,dif_pos h9,f,Nat.mod_eq_of_lt h9];rfl
   have i:(n:Int)≤9:=by omega
   clear f a
   go_enter func197,ntmps197
   go_wp2
   go_ret
   exact⟨by rw[l.out];rfl,(Below.refl _ _).alloc (Nat.le_refl _) _⟩
  ·have i:9<(n:Int):=by omega
   obtain⟨m,r⟩:∃m,m=n / 10:=⟨_,rfl⟩
   have l:Hid (Lib.decDigits n=Lib.decDigits m++[c]):=by rw[Lib.decDigits,dif_neg h9,f,r];rfl
   have s:(n:Int) / 10=(m:Int):=by omega
   have v:(n:Int).tdiv 10=(m:Int):=by rw[Int.tdiv_eq_ediv_of_nonneg (by omega)];exact s
   have d:=pF m (by omega)
   have j:=hid d
   have q:=jZ N m (by omega) (by omega)
   have k:=hid q
   have A:∀w:World,(Op.stringOp .add (ah (Lib.decDigits m)) (ah [c])).run prog w=.ok (.string (ah (Lib.decDigits m++[c]))) w:=fun w=>bH _ _ w (by have:=j.out;simp;omega)
   clear f a r d q
   go_enter func197,ntmps197
   go_wp2_with fail
   refine(k _).mono ?_
   rintro e t ⟨rfl,g⟩
   go_wp2
   go_ret
   exact⟨by rw[l.out];rfl,bD ((Below.refl _ _).alloc (Nat.le_refl _) _) g⟩
def p1 (n:Nat):List UInt8:=Lib.decDigits (n / 16777216)++[46]
def p2 (n:Nat):List UInt8:=p1 n++Lib.decDigits (n / 65536%256)++[46]
def p3 (n:Nat):List UInt8:=p2 n++Lib.decDigits (n / 256%256)++[46]
def pr (n:Nat):List UInt8:=p3 n++Lib.decDigits (n%256)
theorem Dk (n:Nat) (h:n<256):(Lib.decDigits n).length≤3:=nD 2 n (by omega)
theorem Ob (n:Nat) (h:n<4294967296):(p1 n).length≤4:=by have:=Dk (n / 16777216) (by omega);simp[p1];omega
theorem Oc (n:Nat) (h:n<4294967296):(p2 n).length≤8:=by have:=Dk (n / 65536%256) (by omega);have:=Ob n h;simp[p2];omega
theorem Oe (n:Nat) (h:n<4294967296):(p3 n).length≤12:=by have:=Dk (n / 256%256) (by omega);have:=Oc n h;simp[p3];omega
theorem aaY (n:Nat) (h:n<4294967296):(pr n).length≤15:=by have:=Dk (n%256) (by omega);have:=Oe n h;simp[pr];omega
theorem Iw (a:Nat) (h:a<4294967296):bits .and .u32 (a:Int) 255=((a%256:Nat):Int):=by
 have:=u32_and_nat a 255 h (by omega);rw[show((255:Nat):Int)=255 from rfl]at this;rw[this];congr 1;exact Nat.and_two_pow_sub_one_eq_mod a 8
def pj (n:Nat):Nat→List UInt8
 |0=>[]
 |1=>p1 n
 |2=>p2 n
 |3=>p3 n
 |_=>pr n
theorem nM (n:Nat) (H:n<4294967296) (w:World) (L:Tab.Pow w):Calls prog 162 #[.int .u32 (n:Int)] w fun e w'=>e=.returned (.string (ah (pr n)))∧Below w.heap.size w w':=by
 have G:=hid L;have N:(n:Int)<4294967296:=by omega
 have O:0≤(n:Int):=by omega
 have l:Hid ((p1 n).length≤4∧(p2 n).length≤8∧(p3 n).length≤12):=⟨Ob n H,Oc n H,Oe n H⟩;clear L;go_enter func162,ntmps162;go_wp2;go_loopw [3,4] (fun vo vs wr=>∃j:Nat,j≤4∧vo=.string (ah (pj n j))∧vs=.int .i64 (24 - 8*(j:Int))∧Hid (Below w.heap.size w wr)) (fun _ vs _=>(intOf vs+8).toNat)
 case atStart=>exact⟨0,by omega,rfl,rfl,Below.refl _ _⟩
 case round=>
  obtain⟨j,P,rfl,rfl,x⟩:=hrel;have I:j=0∨j=1∨j=2∨j=3∨j=4:=by omega
  rcases I with rfl|rfl|rfl|rfl|rfl
  ·obtain⟨b,s⟩:∃b,b=n / 16777216:=⟨_,rfl⟩;have c:b<256:=by omega
   obtain⟨a,D⟩:∃a,a=n / 16777216:=⟨_,rfl⟩;have g:a<4294967296:=by omega
   have A:(n:Int) / 16777216=(a:Int):=by omega
   have t:bits .and .u32 (a:Int) 255=(b:Int):=by rw[Iw a g];omega
   have d:=Dk b c;have h:=hid d;have m:=hid s;have C:(a:Int)<4294967296:=by omega
   have B:(b:Int)<256:=by omega
   have i:∀w:World,(Op.stringOp .add (ah (pj n 0)) (ah (Lib.decDigits b))).run prog w=.ok (.string (ah (pj n 0++Lib.decDigits b))) w:=fun w=>bH _ _ w (by have r:=l.out;have F:=h.out;simp only[pj]at r⊢;simp;omega);have y:∀w:World,(Op.stringOp .add (ah (pj n 0++Lib.decDigits b)) ⟨#[46]⟩).run prog w=.ok (.string (ah (pj n 1))) w:=fun w=>by
    have e:pj n 1=pj n 0++Lib.decDigits b++[46]:=by rw[m.out];rfl
    rw[e];exact bH _ [46] w (by have r:=l.out;have F:=h.out;simp only[pj]at r⊢;simp;omega)
   clear s D g d;generalize hX:ah (pj n 0)=X at i⊢;generalize hY:ah (Lib.decDigits b)=Y at i;generalize hZ:ah (pj n 0++Lib.decDigits b)=Z at i y;generalize hV:ah (pj n 1)=V at y;have k:=hid hY;have v:=hid hV;clear hV;clear hX hY hZ;go_wp2_with fail
   refine(Tab.zT b (by omega) _ (G.below x)).mono ?_;rw[k.out];rintro e z ⟨rfl,f⟩;have q:Hid (Below w.heap.size w z):=bD x f;clear f;go_wp2;go_roundw
   case rel=>exact⟨1,by omega,by rw[v.out],rfl,q⟩
   case measure=>simp[intOf]
  ·obtain⟨b,s⟩:∃b,b=n / 65536%256:=⟨_,rfl⟩;have c:b<256:=by omega
   obtain⟨a,D⟩:∃a,a=n / 65536:=⟨_,rfl⟩;have g:a<4294967296:=by omega
   have A:(n:Int) / 65536=(a:Int):=by omega
   have t:bits .and .u32 (a:Int) 255=(b:Int):=by rw[Iw a g];omega
   have d:=Dk b c;have h:=hid d;have m:=hid s;have C:(a:Int)<4294967296:=by omega
   have B:(b:Int)<256:=by omega
   have i:∀w:World,(Op.stringOp .add (ah (pj n 1)) (ah (Lib.decDigits b))).run prog w=.ok (.string (ah (pj n 1++Lib.decDigits b))) w:=fun w=>bH _ _ w (by have r:=l.out;have F:=h.out;simp only[pj]at r⊢;simp;omega);have y:∀w:World,(Op.stringOp .add (ah (pj n 1++Lib.decDigits b)) ⟨#[46]⟩).run prog w=.ok (.string (ah (pj n 2))) w:=fun w=>by
    have e:pj n 2=pj n 1++Lib.decDigits b++[46]:=by rw[m.out];rfl
    rw[e];exact bH _ [46] w (by have r:=l.out;have F:=h.out;simp only[pj]at r⊢;simp;omega)
   clear s D g d;generalize hX:ah (pj n 1)=X at i⊢;generalize hY:ah (Lib.decDigits b)=Y at i;generalize hZ:ah (pj n 1++Lib.decDigits b)=Z at i y;generalize hV:ah (pj n 2)=V at y;have k:=hid hY;have v:=hid hV;clear hV;clear hX hY hZ;go_wp2_with fail
   refine(Tab.zT b (by omega) _ (G.below x)).mono ?_;rw[k.out];rintro e z ⟨rfl,f⟩;have q:Hid (Below w.heap.size w z):=bD x f;clear f;go_wp2;go_roundw
   case rel=>exact⟨2,by omega,by rw[v.out],rfl,q⟩
   case measure=>simp[intOf]
  ·obtain⟨b,s⟩:∃b,b=n / 256%256:=⟨_,rfl⟩;have c:b<256:=by omega
   obtain⟨a,D⟩:∃a,a=n / 256:=⟨_,rfl⟩;have g:a<4294967296:=by omega
   have A:(n:Int) / 256=(a:Int):=by omega
   have t:bits .and .u32 (a:Int) 255=(b:Int):=by rw[Iw a g];omega
   have d:=Dk b c;have h:=hid d;have m:=hid s;have C:(a:Int)<4294967296:=by omega
   have B:(b:Int)<256:=by omega
   have i:∀w:World,(Op.stringOp .add (ah (pj n 2)) (ah (Lib.decDigits b))).run prog w=.ok (.string (ah (pj n 2++Lib.decDigits b))) w:=fun w=>bH _ _ w (by have r:=l.out;have F:=h.out;simp only[pj]at r⊢;simp;omega);have y:∀w:World,(Op.stringOp .add (ah (pj n 2++Lib.decDigits b)) ⟨#[46]⟩).run prog w=.ok (.string (ah (pj n 3))) w:=fun w=>by
    have e:pj n 3=pj n 2++Lib.decDigits b++[46]:=by rw[m.out];rfl
    rw[e];exact bH _ [46] w (by have r:=l.out;have F:=h.out;simp only[pj]at r⊢;simp;omega)
   clear s D g d;generalize hX:ah (pj n 2)=X at i⊢;generalize hY:ah (Lib.decDigits b)=Y at i;generalize hZ:ah (pj n 2++Lib.decDigits b)=Z at i y;generalize hV:ah (pj n 3)=V at y;have k:=hid hY;have v:=hid hV;clear hV;clear hX hY hZ;go_wp2_with fail
   refine(Tab.zT b (by omega) _ (G.below x)).mono ?_;rw[k.out];rintro e z ⟨rfl,f⟩;have q:Hid (Below w.heap.size w z):=bD x f;clear f;go_wp2;go_roundw
   case rel=>exact⟨3,by omega,by rw[v.out],rfl,q⟩
   case measure=>simp[intOf]
  ·obtain⟨b,s⟩:∃b,b=n%256:=⟨_,rfl⟩;have c:b<256:=by omega
   obtain⟨a,D⟩:∃a,a=n:=⟨_,rfl⟩;have g:a<4294967296:=by omega
   have A:(n:Int) / 1=(a:Int):=by omega
   have t:bits .and .u32 (a:Int) 255=(b:Int):=by rw[Iw a g];omega
   have d:=Dk b c;have h:=hid d;have m:=hid s;have C:(a:Int)<4294967296:=by omega
   have B:(b:Int)<256:=by omega
   have i:∀w:World,(Op.stringOp .add (ah (pj n 3)) (ah (Lib.decDigits b))).run prog w=.ok (.string (ah (pj n 3++Lib.decDigits b))) w:=fun w=>bH _ _ w (by have r:=l.out;have F:=h.out;simp only[pj]at r⊢;simp;omega);have E:Hid (pj n 3++Lib.decDigits b=pj n 4):=by show _=_;rw[m.out];rfl
   clear s D g d;generalize hX:ah (pj n 3)=X at i⊢;generalize hY:ah (Lib.decDigits b)=Y at i;generalize hZ:ah (pj n 3++Lib.decDigits b)=Z at i;have k:=hid hY;have J:=hid hZ;clear hX hY hZ;go_wp2_with fail
   refine(Tab.zT b (by omega) _ (G.below x)).mono ?_;rw[k.out];rintro e z ⟨rfl,f⟩;have q:Hid (Below w.heap.size w z):=bD x f;clear f;go_wp2;go_roundw
   case rel=>exact⟨4,by omega,by rw[←J.out,E.out],rfl,q⟩
   case measure=>simp[intOf]
  go_wp2;go_ret;exact⟨rfl,x⟩
end yI
namespace aaf
open Go.RowKit Base bf yI
theorem Aj (n:Nat) (m:n<4294967296) (w:World):Calls prog 171 #[.int .u32 (n:Int)] w fun e w'=>e=.returned (.string (ah (pr n)))∧Below w.heap.size w w':=by
 have s:=Ob n m;have r:=Oc n m;have q:=Oe n m;obtain⟨a,F⟩:∃a,a=n / 16777216:=⟨_,rfl⟩;have i:a<256:=by omega
 have y:=Dk a i;obtain⟨b,E⟩:∃b,b=n / 65536%256:=⟨_,rfl⟩;have h:b<256:=by omega
 have x:=Dk b h;obtain⟨c,D⟩:∃c,c=n / 256%256:=⟨_,rfl⟩;have g:c<256:=by omega
 have v:=Dk c g;obtain⟨d,C⟩:∃d,d=n%256:=⟨_,rfl⟩;have f:d<256:=by omega
 have t:=Dk d f;have q1:(n:Int).tdiv 16777216=(a:Int):=by rw[Int.tdiv_eq_ediv_of_nonneg (by omega)];omega
 have q2:((n:Int).tdiv 65536).tmod 256=(b:Int):=by rw[Int.tdiv_eq_ediv_of_nonneg (by omega),Int.tmod_eq_emod_of_nonneg (by omega)];omega
 have q3:((n:Int).tdiv 256).tmod 256=(c:Int):=by rw[Int.tdiv_eq_ediv_of_nonneg (by omega),Int.tmod_eq_emod_of_nonneg (by omega)];omega
 have q4:(n:Int).tmod 256=(d:Int):=by rw[Int.tmod_eq_emod_of_nonneg (by omega)];omega
 have r1:(n:Int) / 16777216=(a:Int):=by omega
 have r2:(n:Int) / 65536%256=(b:Int):=by omega
 have r3:(n:Int) / 256%256=(c:Int):=by omega
 have r4:(n:Int)%256=(d:Int):=by omega
 have P:p1 n=Lib.decDigits a++[46]:=by rw[F];rfl
 have O:p2 n=p1 n++Lib.decDigits b++[46]:=by rw[E];rfl
 have N:p3 n=p2 n++Lib.decDigits c++[46]:=by rw[D];rfl
 have L:pr n=p3 n++Lib.decDigits d:=by rw[C];rfl
 have B:∀w:World,(Op.stringOp .add (ah (Lib.decDigits a)) ⟨#[46]⟩).run prog w=.ok (.string (ah (p1 n))) w:=fun w=>by rw[P];exact bH _ [46] w (by simp;omega)
 have l:∀w:World,(Op.stringOp .add (ah (p1 n)) (ah (Lib.decDigits b))).run prog w=.ok (.string (ah (p1 n++Lib.decDigits b))) w:=fun w=>bH _ _ w (by omega);have A:∀w:World,(Op.stringOp .add (ah (p1 n++Lib.decDigits b)) ⟨#[46]⟩).run prog w=.ok (.string (ah (p2 n))) w:=fun w=>by rw[O];exact bH _ [46] w (by simp;omega)
 have k:∀w:World,(Op.stringOp .add (ah (p2 n)) (ah (Lib.decDigits c))).run prog w=.ok (.string (ah (p2 n++Lib.decDigits c))) w:=fun w=>bH _ _ w (by omega);have z:∀w:World,(Op.stringOp .add (ah (p2 n++Lib.decDigits c)) ⟨#[46]⟩).run prog w=.ok (.string (ah (p3 n))) w:=fun w=>by rw[N];exact bH _ [46] w (by simp;omega)
 have j:∀w:World,(Op.stringOp .add (ah (p3 n)) (ah (Lib.decDigits d))).run prog w=.ok (.string (ah (pr n))) w:=fun w=>by rw[L];exact bH _ _ w (by omega)
 generalize ah (p1 n)=P1 at B l;generalize ah (p1 n++Lib.decDigits b)=P2 at l A;generalize ah (p2 n)=P3 at A k;generalize ah (p2 n++Lib.decDigits c)=P4 at k z;generalize ah (p3 n)=P5 at z j;generalize ah (pr n)=P6 at j⊢;have W:=hid (fun w=>jZ (a+1) a (by omega) (by omega) w);have V:=hid (fun w=>jZ (b+1) b (by omega) (by omega) w);have T:=hid (fun w=>jZ (c+1) c (by omega) (by omega) w);have Q:=hid (fun w=>jZ (d+1) d (by omega) (by omega) w);generalize ah (Lib.decDigits a)=S1 at B W;generalize ah (Lib.decDigits b)=S2 at l V;generalize ah (Lib.decDigits c)=S3 at k T;generalize ah (Lib.decDigits d)=S4 at j Q;have X:(n:Int)<4294967296:=by omega
 have Y:0≤(n:Int):=by omega
 have a2:(a:Int)<256:=by omega
 have a1:(b:Int)<256:=by omega
 have a0:(c:Int)<256:=by omega
 have Z:(d:Int)<256:=by omega
 clear P O N L s r q y x v t F E D C i h g f;go_enter func171,ntmps171;go_wp2_with fail
 refine(W _).mono ?_;rintro e w2 ⟨rfl,J⟩;have H2:=hid J;clear J;go_wp2_with fail
 refine(V _).mono ?_;rintro e w3 ⟨rfl,I⟩;have H3:=hid (bD H2 I);clear I;go_wp2_with fail
 refine(T _).mono ?_;rintro e w4 ⟨rfl,H⟩;have H4:=hid (bD H3 H);clear H;go_wp2_with fail
 refine(Q _).mono ?_;rintro e w5 ⟨rfl,G⟩;have H5:=hid (bD H4 G);clear G;go_wp2;go_ret;exact⟨rfl,H5⟩
end aaf
namespace QB
open Go.RowKit lQ vM yI
theorem Pg (d:Nat) (h:d<10):dv (UInt8.ofNat (48+d))=d∧ku 10 (UInt8.ofNat (48+d))=true:=by
 have H:∀d:Fin 10,dv (UInt8.ofNat (48+d.val))=d.val∧ku 10 (UInt8.ofNat (48+d.val))=true:=by decide+kernel
 exact H ⟨d,h⟩
theorem nY (b:Nat) (c:UInt8) (h:ku b c=true):c≠46:=by
 rintro rfl;unfold ku at h;rw[Bool.and_eq_true]at h;exact absurd (of_decide_eq_true h.1) (by decide)
theorem Uo (b:Nat) (L:List UInt8) (h:dM b L=true):∀c ∈ L,c≠46:=fun c hc=>nY b c (List.all_eq_true.1 h c hc)
theorem Dv:∀(N n:Nat),n<N→val 10 (Lib.decDigits n)=n∧dM 10 (Lib.decDigits n)=true
 |0,n,h=>absurd h (by omega)
 | N + 1, n, hN => by
  rw[Lib.decDigits]
  split
  ·rename_i h
   obtain⟨c,a⟩:=Pg n h
   refine⟨?_,?_⟩
   ·show 0*10+dv (UInt8.ofNat (48+n))=n
    rw[c];omega
   ·show(ku 10 (UInt8.ofNat (48+n))&&true)=true
    rw[a];rfl
  ·obtain⟨c,a⟩:=Pg (n%10) (by omega)
   obtain⟨e,d⟩:=Dv N (n / 10) (by omega)
   refine⟨by rw[iZ,e,c];omega,?_⟩
   unfold dM at d⊢
   rw[List.all_append,d,List.all_cons,a]
   rfl
theorem Kv:∀(N n:Nat),n<N→0<n→(Lib.decDigits n).head?≠some 48∧Lib.decDigits n≠[]
 |0,n,h,_=>absurd h (by omega)
 | N + 1, n, hN, h0 => by
  rw[Lib.decDigits]
  split
  ·rename_i h
   refine⟨?_,by simp⟩
   have H:∀d:Fin 10,0<d.val→UInt8.ofNat (48+d.val)≠48:=by decide+kernel
   simpa using H ⟨n,h⟩ h0
  ·obtain⟨c,e⟩:=Kv N (n / 10) (by omega) (by omega)
   refine⟨?_,by simp⟩
   cases hL:Lib.decDigits (n / 10)with
   |nil=>exact absurd hL e
   |cons a r=>
    rw[hL]at c
    exact c
theorem yN (n:Nat):Lib.decDigits n≠[]:=by
 rw[Lib.decDigits];split<;>simp
theorem YL (n:Nat):zi (Lib.decDigits n)=(10,Lib.decDigits n):=by
 by_cases h:n<10
 ·rw[Lib.decDigits,dif_pos h];rfl
 obtain⟨c,e⟩:=Kv (n+1) n (by omega) (by omega)
 match hL:Lib.decDigits n with
 |[]=>exact absurd hL e
 |[a]=>rfl
 |a::x::r=>
  rw[hL]at c;have d:a≠48:=by simpa using c
  unfold zi;simp only;rw[if_neg d]
theorem uM (n:Nat):num (Lib.decDigits n)=some n:=by
 obtain⟨c,a⟩:=Dv (n+1) n (by omega);unfold num;rw[if_neg (yN n),YL];simp only;rw[if_pos a,c]
theorem zV:∀M:List UInt8,(∀c ∈ M,c≠46)→cO M=[M]
 |[],_=>rfl
 |c::M,h=>by rw[cO,if_neg (h c (by simp)),zV M fun d hd=>h d (by simp[hd])]
theorem mV:∀(A M:List UInt8),(∀c ∈ A,c≠46)→cO (A++46::M)=A::cO M
 |[],M,_=>by rw[List.nil_append,cO,if_pos rfl]
 |c::A,M,h=>by rw[List.cons_append,cO,if_neg (h c (by simp)),mV A M fun d hd=>h d (by simp[hd])]
theorem jE (n:Nat):∀c ∈ Lib.decDigits n,c≠46:=Uo 10 _ (Dv (n+1) n (by omega)).2
theorem FI (A M:List UInt8) (a:M≠[]) (h:∀c ∈ M,c≠46):vS (A++M)=A++M:=by
 rcases List.eq_nil_or_concat M with rfl|⟨M',d,rfl⟩
 ·exact absurd rfl a
 rw[List.concat_eq_append]at h⊢;rw[←List.append_assoc];exact BR _ d (h d (by simp))
def yS (n:Nat):List (List UInt8):=[Lib.decDigits (n / 16777216),Lib.decDigits (n / 65536%256),Lib.decDigits (n / 256%256),Lib.decDigits (n%256)]
theorem Qg (n:Nat):pr n=Lib.decDigits (n / 16777216)++46::(Lib.decDigits (n / 65536%256)++46::(Lib.decDigits (n / 256%256)++46::Lib.decDigits (n%256))):=by
 simp[pr,p3,p2,p1]
theorem Jr (n:Nat):cO (pr n)=yS n:=by
 rw[Qg,mV _ _ (jE _),mV _ _ (jE _),mV _ _ (jE _),zV _ (jE _)];rfl
theorem WT (n:Nat):vS (pr n)=pr n:=FI (p3 n) _ (yN _) (jE _)
theorem Gp (n:Nat) (h:n<4294967296):kV 4294967296 0 (yS n)=some n:=by
 unfold yS;rw[uj _ _ _ _ _ _ (uM _) (by omega),uj _ _ _ _ _ _ (uM _) (by omega),uj _ _ _ _ _ _ (uM _) (by omega),kW _ _ _ _ (uM _) (by omega)];congr 1;omega
theorem aaZ (n:Nat) (h:n<4294967296):Dl (pr n)=some n:=by
 unfold Dl;rw[WT,Jr,if_pos (by simp[yS]),Gp n h]
theorem IJ (L M:List UInt8) (n:Nat) (c:vS L=M) (a:lst M=Lib.decDigits n):ends L=true:=by
 unfold ends;rw[c,a,uM];rfl
theorem U9 (n:Nat):lst (pr n)=Lib.decDigits (n%256):=by
 unfold lst;rw[Jr];rfl
theorem XJ (n:Nat):ends (pr n)=true:=IJ _ _ _ (WT n) (U9 n)
theorem Yr (n:Nat):∃c r,pr n=c::r∧c≠46:=by
 rw[Qg];cases h:Lib.decDigits (n / 16777216)with
 |nil=>exact absurd h (yN _)
 |cons c r=>exact⟨c,_,rfl,jE (n / 16777216) c (by rw[h];simp)⟩
end QB
namespace jX
open Go.RowKit Base
def P1 (c:Int):Prop:=c=32∨c=34∨c=60∨c=62∨c=96
instance (c:Int):Decidable (P1 c):=by unfold P1;exact inferInstance
def P2 (c:Int):Prop:=c=32∨c=34∨c=35∨c=60∨c=62
instance (c:Int):Decidable (P2 c):=by unfold P2;exact inferInstance
def P3 (c:Int):Prop:=c=32∨c=34∨c=35∨c=60∨c=62∨c=39
instance (c:Int):Decidable (P3 c):=by unfold P3;exact inferInstance
def P4 (c:Int):Prop:=c=32∨c=34∨c=35∨c=60∨c=62∨c=63∨c=94∨c=96∨c=123∨c=125
instance (c:Int):Decidable (P4 c):=by unfold P4;exact inferInstance
def P5 (c:Int):Prop:=c=32∨c=34∨c=35∨c=60∨c=62∨c=63∨c=94∨c=96∨c=123∨c=125∨c=47∨c=58∨c=59∨c=61∨c=64∨c=91∨c=92∨c=93∨c=124
instance (c:Int):Decidable (P5 c):=by unfold P5;exact inferInstance
def P6 (c:Int):Prop:=c=32∨c=34∨c=35∨c=60∨c=62∨c=63∨c=94∨c=96∨c=123∨c=125∨c=47∨c=58∨c=59∨c=61∨c=64∨c=91∨c=92∨c=93∨c=124∨c=36∨c=37∨c=38∨c=43∨c=44
instance (c:Int):Decidable (P6 c):=by unfold P6;exact inferInstance
def iJ (k c:Int):Bool:=decide (0≤k∧k≤6∧(c<32∨126<c∨k=1∧P1 c∨k=2∧P2 c∨k=3∧P3 c∨k=4∧P4 c∨k=5∧P5 c∨k=6∧P6 c))
def S:Int→List UInt8
 |1=>[32,34,60,62,96]
 |2=>[32,34,35,60,62]
 |3=>[32,34,35,60,62,39]
 |4=>[32,34,35,60,62,63,94,96,123,125]
 |5=>[32,34,35,60,62,63,94,96,123,125,47,58,59,61,64,91,92,93,124]
 |6=>[32,34,35,60,62,63,94,96,123,125,47,58,59,61,64,91,92,93,124,36,37,38,43,44]
 |_=>[]
theorem aeJ (k:Int) (e:0≤k∧k≤6) (c:UInt8) (i:32≤(c.toNat:Int)) (h:(c.toNat:Int)≤126):decide (0≤Lib.indexByte (S k) c)=iJ k c.toNat:=by
 obtain⟨f,g⟩:=e;have a:k=0∨k=1∨k=2∨k=3∨k=4∨k=5∨k=6:=by omega
 have H:∀n:Fin 256,(32≤n.val∧n.val≤126)→∀k:Fin 7,decide (0≤Lib.indexByte (S (k.val:Int)) (UInt8.ofNat n.val))=iJ (k.val:Int) (n.val:Int):=by decide+kernel
 have d:=H ⟨c.toNat,c.toNat_lt⟩ ⟨by simp;omega,by simp;omega⟩ ⟨k.toNat,by omega⟩;simpa[Int.toNat_of_nonneg f]using d
theorem Dy (k c:Int) (h:k<0∨6<k):iJ k c=false:=by unfold iJ;rw[decide_eq_false_iff_not];omega
theorem PN (k c:Int) (d:0≤k) (a:k≤6) (h:c<32∨126<c):iJ k c=true:=by unfold iJ;rw[decide_eq_true_iff];omega
theorem adg (c:Int):iJ 0 c=decide (c<32∨126<c):=by unfold iJ;congr 1;simp
theorem adh (c:Int):iJ 1 c=decide (c<32∨126<c∨P1 c):=by unfold iJ;congr 1;simp
theorem adi (c:Int):iJ 2 c=decide (c<32∨126<c∨P2 c):=by unfold iJ;congr 1;simp
theorem adk (c:Int):iJ 3 c=decide (c<32∨126<c∨P3 c):=by unfold iJ;congr 1;simp
theorem adl (c:Int):iJ 4 c=decide (c<32∨126<c∨P4 c):=by unfold iJ;congr 1;simp
theorem adn (c:Int):iJ 5 c=decide (c<32∨126<c∨P5 c):=by unfold iJ;congr 1;simp
theorem ado (c:Int):iJ 6 c=decide (c<32∨126<c∨P6 c):=by unfold iJ;congr 1;simp
theorem Gg (k:Int) (w:World) (d:0≤k) (c:k≤6):Calls prog 144 #[.int .i64 k] w fun e w'=>e=.returned (.string (ah (S k)))∧w=w':=by
 have a:k=0∨k=1∨k=2∨k=3∨k=4∨k=5∨k=6:=by omega
 rcases a with rfl|rfl|rfl|rfl|rfl|rfl|rfl
 all_goals
  go_enter func144,ntmps144;go_wp2;go_ret;exact⟨rfl,rfl⟩
theorem IU (k:Int) (c:UInt8) (w:World):Calls prog 104 #[.int .i64 k,.int .u8 (c.toNat:Int)] w fun e w'=>e=.returned (.bool (iJ k c.toNat))∧w=w':=by
 by_cases ho:k<0∨6<k
 ·have a:=hid (Dy k c.toNat ho);rcases ho with ho|ho
  all_goals
   go_enter func104,ntmps104;go_wp2;go_ret;rw[a.out];exact⟨rfl,rfl⟩
 have f:0≤k:=by omega
 have d:k≤6:=by omega
 by_cases hf:(c.toNat:Int)<32∨126<(c.toNat:Int)
 ·have a:=hid (PN k c.toNat f d hf);rcases hf with hf|hf
  ·go_enter func104,ntmps104;go_wp2;go_ret;rw[a.out];exact⟨rfl,rfl⟩
  have j:¬(c.toNat:Int)<32:=by omega
  go_enter func104,ntmps104;go_wp2;go_ret;rw[a.out];exact⟨rfl,rfl⟩
 have i:32≤(c.toNat:Int):=by omega
 have h:(c.toNat:Int)≤126:=by omega
 have a:=hid (aeJ k ⟨f,d⟩ c i h);go_enter func104,ntmps104;go_wp2_with fail
 refine(Gg k _ f d).mono ?_;rintro e g ⟨rfl,rfl⟩;go_wp2_with fail
 refine(strings_IndexByte _ _ _).mono ?_;rintro e g ⟨rfl,rfl⟩;rw[show(ah (S k)).data.toList=S k from rfl,show((c.toNat:Int).toNat).toUInt8=c by simp];go_wp2_with fail
 go_ret;exact⟨aC (by rw[←a.out,decide_eq_false (show ¬(c.toNat:Int)<32 by omega),decide_eq_false (show ¬126<(c.toNat:Int)by omega)];simp),rfl⟩
theorem YF (k c:Int) (w:World) (a:k<0∨6<k):Calls prog 120 #[.int .i64 k,.int .u8 c] w fun e w'=>e=.returned (.bool (iJ k c))∧w=w':=by
 have d:=hid (Dy k c a);rcases a with a|a
 all_goals
  go_enter func120,ntmps120;go_wp2;go_ret;rw[d.out];exact⟨rfl,rfl⟩
theorem Jh (k c:Int) (w:World) (f:0≤k) (d:k≤6) (hf:c<32∨126<c):Calls prog 120 #[.int .i64 k,.int .u8 c] w fun e w'=>e=.returned (.bool (iJ k c))∧w=w':=by
 have a:=hid (PN k c f d hf);rcases hf with hf|hf
 ·go_enter func120,ntmps120;go_wp2;go_ret;rw[a.out];exact⟨rfl,rfl⟩
 have g:¬c<32:=by omega
 go_enter func120,ntmps120;go_wp2;go_ret;rw[a.out];exact⟨rfl,rfl⟩
end jX
