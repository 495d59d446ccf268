/- Lemmas. -/
import Derived.Test.YtaeohdlnidnofaaGreatDoorPRAAF
set_option linter.unusedSimpArgs false
set_option linter.unusedVariables false
set_option maxRecDepth 100000
set_option maxHeartbeats 64000000
namespace Go.Proofs.YtaeohdlnidnofaaGreatDoor
open Tryz
namespace Xx
open Go.RowKit Base dJ lS Kr
theorem aa4 (Z:ByteArray) (b:Nat) (R:Int) (m:b≤16) (l:dM b Z.data.toList=true→R=big b Z.data.toList) (f:dM b Z.data.toList=false→R= -1):∃(P:Nat→Prop) (F:Nat→Nat),Hid (P 0)∧Hid (F 0=0)∧Hid (∀k,F k≤17592186044431)∧Hid (P Z.size→R=F Z.size)∧Hid (∀k (h:k<Z.size),P k→hex (Z[k]).toNat≤15∧(¬0≤hex (Z[k]).toNat∧R= -1∨0≤hex (Z[k]).toNat∧¬hex (Z[k]).toNat<(b:Int)∧R= -1∨0≤hex (Z[k]).toNat∧hex (Z[k]).toNat<(b:Int)∧P (k+1)∧((F k:Int)<1099511627776∧(F (k+1):Int)=(F k:Int)*b+hex (Z[k]).toNat∨¬(F k:Int)<1099511627776∧(F (k+1):Int)=F k))):=by
 have g:Z.data.toList.length=Z.size:=Array.length_toList;refine⟨fun k=>dM b (Z.data.toList.take k)=true,fun k=>big b (Z.data.toList.take k),rfl,rfl,fun k=>Es b m _,fun h=>?_,fun k hk hT=>?_⟩
 ·simp only[←g,List.take_length]at h⊢;exact l h
 have d:k<Z.data.toList.length:=by rw[g];exact hk
 have a:Z.data.toList[k]=Z[k]:=rfl;have i:=dG Z.data.toList k d;have j:Z[k] ∈ Z.data.toList:=a▸List.getElem_mem _;have e:ku b Z[k]=(decide (0≤hex (Z[k]).toNat)&&decide (hex (Z[k]).toNat<b)):=rfl;refine⟨(qC _).2,?_⟩;by_cases h0:0≤hex (Z[k]).toNat
 ·by_cases h1:hex (Z[k]).toNat<(b:Int)
  ·have c:ku b Z[k]=true:=by rw[e,decide_eq_true h0,decide_eq_true h1];rfl
   refine .inr (.inr ⟨h0,h1,?_,?_⟩)
   ·simp only;rw[i,a];unfold dM at hT⊢;rw[List.all_append,hT,List.all_cons,c];rfl
   simp only;rw[i,sF,a,oZ b _ c];by_cases h2:big b (Z.data.toList.take k)<1099511627776
   ·exact .inl ⟨by omega,by rw[if_pos h2];simp⟩
   exact .inr ⟨by omega,by rw[if_neg h2]⟩
  exact .inr (.inl ⟨h0,h1,f (List.all_eq_false.2 ⟨_,j,by rw[e,decide_eq_false h1];simp⟩)⟩)
 exact .inl ⟨h0,f (List.all_eq_false.2 ⟨_,j,by rw[e,decide_eq_false h0];simp⟩)⟩
theorem bP (s:ByteArray) (w:World) (hs:s.size≤1073741824):Calls prog 250 #[.string s] w fun e w'=>e=.returned (.int .i64 (vY s.data.toList))∧Below w.heap.size w w':=by
 have g:s.data.toList.length=s.size:=Array.length_toList;obtain⟨R,j⟩:∃R,R=vY s.data.toList:=⟨_,rfl⟩;rw[←j];rcases hL:s.data.toList with _|⟨a,_|⟨x,r⟩⟩
 ·have h0:s.size=0:=by rw[←g,hL];rfl
  have T:(s.toList==[])=true:=by rw[Lib.toList_data,hL];rfl
  have B:s.toList=[]:=by rw[Lib.toList_data,hL]
  rw[hL]at j;have V:=hid j;clear hL g j;go_enter func250,ntmps250;go_wp2;go_ret;exact⟨by rw[V.out];rfl,Below.refl _ _⟩
 focus
  have h1:s.size=1:=by rw[←g,hL];rfl
  have C:s.size≤1073741824:=hs;have T:(s.toList==[])=false:=by rw[Lib.toList_data,hL];rfl
  have B:s.toList.isEmpty=false:=by rw[Lib.toList_data,hL];rfl
  obtain⟨P,F,t,z,v,l,q⟩:=aa4 s 10 R (by decide) (fun h=>j.trans (Ag _ (by rw[hL];simp) 10 _ (by rw[hL];rfl) h)) (fun h=>j.trans (DW _ (by rw[hL];simp) 10 _ (by rw[hL];rfl) h));have a8:¬(1:Int)<(s.size:Int):=by omega
  clear hL g j;obtain⟨Z,rfl⟩:∃Z,Z=s:=⟨_,rfl⟩
 rotate_left
 focus
  have h1:2≤s.size:=by rw[←g,hL];simp
  have a9:(0:Int)<(s.size:Int):=by omega
  have a7:(1:Int)<(s.size:Int):=by omega
  have a6:(2:Int)≤(s.size:Int):=by omega
  have T:(s.toList==[])=false:=by rw[Lib.toList_data,hL];rfl
  have B:s.toList.isEmpty=false:=by rw[Lib.toList_data,hL];rfl
  have g0:∀h,s[0]'h=a:=fun h=>by
   have:s.data.toList[0]?=some a:=by rw[hL];rfl
   have:=List.getElem?_eq_some_iff.1 this;obtain⟨_,e⟩:=this;exact e
  have g1:∀h,s[1]'h=x:=fun h=>by
   have:s.data.toList[1]?=some x:=by rw[hL];rfl
   have:=List.getElem?_eq_some_iff.1 this;obtain⟨_,e⟩:=this;exact e
  have f:s.data.toList≠[]:=by rw[hL];simp
  by_cases ha:a=48;focus
   have a3:((a.toNat:Int)==48)=true:=by rw[ha];rfl
   by_cases hx:x=120∨x=88;focus
    obtain⟨Z,I⟩:∃Z,Z=s.extract 2 s.size:=⟨_,rfl⟩;have i:Z.data.toList=r:=by rw[I,ext2 _ _ h1,hL];rfl
    have a4:s.extract 2 s.size=Z:=I.symm;have C:Z.size≤1073741824:=by have:Z.data.toList.length=Z.size:=Array.length_toList;rw[i]at this;rw[hL]at g;simp at g;omega
    obtain⟨P,F,t,z,v,l,q⟩:=aa4 Z 16 R (by decide) (fun h=>j.trans (Ag _ f 16 _ (by rw[hL,QM _ _ _ ha hx,i]) h)) (fun h=>j.trans (DW _ f 16 _ (by rw[hL,QM _ _ _ ha hx,i]) h));have G:((x.toNat:Int)==120)=true∨((x.toNat:Int)==120)=false∧((x.toNat:Int)==88)=true:=by
     rcases hx with rfl|rfl
     ·exact .inl rfl
     exact .inr ⟨rfl,rfl⟩
    clear hL g i I f ha hx j;rcases G with hq|⟨hq,a0⟩
   rotate_left 2
   obtain⟨Z,I⟩:∃Z,Z=s.extract 1 s.size:=⟨_,rfl⟩;have i:Z.data.toList=x::r:=by rw[I,ext2 _ _ (by omega),hL];rfl
   have a4:s.extract 1 s.size=Z:=I.symm;have C:Z.size≤1073741824:=by have:Z.data.toList.length=Z.size:=Array.length_toList;rw[i]at this;rw[hL]at g;simp at g this;omega
   obtain⟨P,F,t,z,v,l,q⟩:=aa4 Z 8 R (by decide) (fun h=>j.trans (Ag _ f 8 _ (by rw[hL,QK _ _ _ ha hx,i]) h)) (fun h=>j.trans (DW _ f 8 _ (by rw[hL,QK _ _ _ ha hx,i]) h));have hq:((x.toNat:Int)==120)=false:=E8 (d:=120) fun h=>hx (.inl h);have a0:((x.toNat:Int)==88)=false:=E8 (d:=88) fun h=>hx (.inr h);clear hL g i I f ha hx j
  rotate_left 3
  have a3:((a.toNat:Int)==48)=false:=E8 (d:=48) ha;have C:s.size≤1073741824:=hs;obtain⟨P,F,t,z,v,l,q⟩:=aa4 s 10 R (by decide) (fun h=>j.trans (Ag _ f 10 _ (by rw[hL,JF _ _ _ ha]) h)) (fun h=>j.trans (DW _ f 10 _ (by rw[hL,JF _ _ _ ha]) h));clear hL g f ha j;obtain⟨Z,rfl⟩:∃Z,Z=s:=⟨_,rfl⟩
 all_goals
  go_enter func250,ntmps250;first
  |go_wp2_with fail
   go_region
   obtain⟨m,L,H⟩:∃m,m=w.drew∧Below w.heap.size w m:=⟨_,rfl,(Below.refl _ _).drew⟩;rw[←L];clear L
  |obtain⟨m,rfl⟩:∃m,m=w:=⟨_,rfl⟩
   have H:Below m.heap.size m m:=Below.refl _ _
  go_wp2;go_loopw [4,5,6,31] (fun vn _ _ vk wr=>∃k:Nat,k≤Z.size∧vk=.int .i64 (k:Int)∧wr=m∧vn=.int .i64 (F k)∧Hid (P k)) (fun _ _ _ vk _=>Z.size - (intOf vk).toNat)
  case atStart=>exact⟨0,Nat.zero_le _,rfl,rfl,by rw[z.out];rfl,t⟩
  case round =>
   obtain⟨k,hk,rfl,rfl,rfl,HT⟩:=hrel;obtain⟨n,X⟩:∃n,n=F k:=⟨_,rfl⟩;have a1:n≤17592186044431:=by rw[X];exact v.out k
   rw[←X];have HN:=hid X;have Q:(n:Int)≤17592186044431:=by omega
   have a2:0≤(n:Int):=by omega
   clear X a1;by_cases hlt:k<Z.size
   ·obtain ⟨A,aU⟩:=q.out k hlt HT;obtain⟨c,hc⟩:∃c,Z[k]=c:=⟨_,rfl⟩;rw[hc,←HN.out]at aU;rw[hc]at A;obtain⟨y,Y⟩:∃y,y=hex c.toNat:=⟨_,rfl⟩;rw[←Y]at A aU;have HX:=hid Y;clear Y;rcases aU with⟨J,hr⟩|⟨J,D,hr⟩|⟨J,D,hp,⟨O,W⟩|⟨O,W⟩⟩
    iterate 2
     ·have V:=hid hr;clear hr;try simp only[Int.cast_ofNat_Int]at D
      go_wp2_with fail
      refine(iD.dI _ _).mono ?_;rintro e w2 ⟨rfl,E⟩;subst E;rw[←HX.out];go_wp2;go_ret;exact⟨by rw[V.out];rfl,H⟩
    all_goals
     simp only[Int.cast_ofNat_Int]at D W;have HZ:=hid W;have a5:=hid hp;clear W hp;generalize (n:Int)=N at a2 Q O HZ⊢;go_wp2_with fail
     refine(iD.dI _ _).mono ?_;rintro e w2 ⟨rfl,E⟩;subst E;rw[←HX.out];go_wp2;go_roundw
     case rel=>exact⟨k+1,by omega,by go_num,by first|rfl|trivial,by rw[HZ.out],a5⟩
     case measure=>simp[intOf];omega
   obtain rfl:k=Z.size:=by omega
   have V:=hid (l.out HT);go_wp2;go_ret;exact⟨by rw[V.out,←HN.out];rfl,H⟩
end Xx
namespace NC
open Go.RowKit Base lS Kr
def Max (w:World):Prop:=∃m,w.cell? ⟨2,0,none⟩=some (.int .i64 m)
theorem Dt (s:ByteArray) (w:World) (d:s.size≤1073741824):Calls prog 242 #[.string s] w fun e w'=>e=.returned (.string (ah (vV s.data.toList)))∧w=w':=by
 go_enter func242,ntmps242;go_wp2_with fail
 refine(strings_TrimSuffix s ⟨#[46]⟩ _ (by omega)).mono ?_;rintro e c ⟨rfl,a⟩;subst a;go_wp2;go_ret;exact⟨rfl,rfl⟩
theorem rG:∀(L:List UInt8) (k:Nat),L.count 46≤k→Lib.splitK [46] 0 k L=cO L
 |[],0,_=>rfl
 |[],k+1,_=>rfl
 |b::l,0,h=>by
  have a:b≠46:=by rintro rfl;simp at h
  have c:=rG l 0 (by rw[List.count_cons_of_ne (by simpa using a)]at h;exact h)
  show[b::l]=_
  rw[cO,if_neg a,←c]
  rfl
 | b :: l, k + 1, h => by
  by_cases a:b=46
  ·subst a
   have c:=rG l k (by simp at h;omega)
   have e:Lib.index (46::l) [46]=0:=by rw[Lib.index,if_pos (by simp[List.isPrefixOf])]
   rw[cO,if_pos rfl,Lib.splitK,e,if_neg (by decide)]
   show[]::_=_
   rw[←c]
   rfl
  ·have g:l.count 46≤k+1:=by rw[List.count_cons_of_ne (by simpa using a)]at h;exact h
   have c:=rG l (k+1) g
   have e:Lib.index (b::l) [46]=if Lib.index l [46]== -1 then -1 else Lib.index l [46]+1:=by rw[Lib.index,if_neg (by simp[List.isPrefixOf,Ne.symm a])]
   rw[Lib.splitK]at c⊢
   rw[cO,if_neg a,←c,e]
   by_cases hm:Lib.index l [46]= -1
   ·rw[hm]
    rfl
   ·have f:=Lib.index_ge l [46]
    obtain⟨j,d⟩:∃j:Nat,Lib.index l [46]=j:=⟨(Lib.index l [46]).toNat,by omega⟩
    have n:((j:Int)== -1)=false:=beq_eq_false_iff_ne.2 (by omega)
    have m:((j:Int)+1== -1)=false:=beq_eq_false_iff_ne.2 (by omega)
    have i:((j:Int)+1).toNat=j+1:=by omega
    simp only[d,n,Bool.false_eq_true,if_false,m,i]
    simp
def Read (w:World) (l:List (List UInt8)) (e:Ending) (w':World):Prop:=∃A n c,e=.returned (.slice A n c)∧n=l.length∧n≤c∧c≤maxLen∧dP w' A n ((l.map ah).map Value.string)∧Below w.heap.size w w'
theorem Tq (s:ByteArray) (w:World) (h:s.size≤1073741824) (g:Max w):Calls prog 245 #[.string s,.string ⟨#[46]⟩] w (Read w (cO s.data.toList)):=by
 obtain⟨m,f⟩:=g;refine(strings_Split s ⟨#[46]⟩ m w (by omega) f (Nat.le_refl _)).mono ?_;rintro e w' ⟨rfl,rfl⟩;have c:=Lib.splitB_data ⟨#[46]⟩ 0 (Lib.countB s ⟨#[46]⟩) s;rw[show(⟨#[46]⟩:ByteArray).data.toList=[46]from rfl,rG _ _ (by rw[←Lib.count_one];exact Nat.le_refl _)]at c;have a:=Lib.splitB_all ⟨#[46]⟩ (Nat.le_refl _) 0 _ s rfl;have i:=Lib.countB_le ⟨#[46]⟩ (Nat.le_refl _) s.size s (Nat.le_refl _);generalize Lib.splitB ⟨#[46]⟩ 0 (Lib.countB s ⟨#[46]⟩) s=B at c a⊢;have d:B=(cO s.data.toList).map ah:=by
  rw[←c,List.map_map]
  conv=>lhs;rw[←List.map_id B]
  exact List.map_congr_left fun x _=>(bD x).symm
 unfold Read;rw[←d];refine⟨_,_,_,rfl,by rw[←a,d,List.length_map],Nat.le_refl _,by unfold maxLen;omega,?_,(Below.refl _ _).alloc (Nat.le_refl _) _⟩;exact dP.lK (by rw[List.length_map,a]) (by simp) (fun j hj=>by
  rw[Nat.zero_add,World.cell?_alloc_mark];simp)
theorem iW:(prog.info? 9).map (fun i=>(i.zero,i.size,i.bytes))=some (some (.string ByteArray.empty),1,16):=by kernel_rfl
theorem ext_mid (s:ByteArray) (a b:Nat):s.extract a b=ah ((s.data.toList.take b).drop a):=by
 apply ByteArray.ext;apply Array.ext';rw[ByteArray.data_extract];simp only[ah,Array.toList_extract,List.extract_eq_take_drop];rw[List.drop_take]
def Eb (w:World) (l:List (List UInt8)) (e:Ending) (w':World):Prop:=∃v,e=.returned v∧w'.ownsRow w.heap.size 9 1 v l.length ((l.map ah).map Value.string)∧Below w.heap.size w w'
theorem Jy (s:ByteArray) (w:World) (hs:s.size≤900000):
  Calls prog 264 #[.string s,.int .u8 46] w (Eb w (cO s.data.toList)):=by
 have A:s.data.toList.length=s.size:=Array.length_toList;obtain⟨i0,hi,y,x,v⟩:=info_parts iW;have n:=hid A;clear A;obtain⟨R,G⟩:∃R,R=cO s.data.toList:=⟨_,rfl⟩;have a2:R.length≤s.size+1:=by have:=oL s.data.toList;rw[←G,n.out]at this;exact this
 rw[←G];have HR:=hid G;clear G;go_enter func264,ntmps264;go_wp2;go_loopw [5,6,7,11] (fun vo vf _ vk wr=>∃(k f:Nat) (j:List (List UInt8)),k≤s.size+1∧f≤k∧j.length≤k∧vk=.int .i64 (k:Int)∧vf=.int .i64 (f:Int)∧Hid (wr.ownsRow w.heap.size 9 1 vo j.length ((j.map ah).map Value.string))∧Hid (Below w.heap.size w wr)∧Hid (k≤s.size→cO (s.data.toList.take k)=j++[(s.data.toList.take k).drop f])∧Hid (k=s.size+1→R=j)) (fun _ _ _ vk _=>s.size+1 - (intOf vk).toNat)
 case atStart=>exact⟨0,0,[],Nat.zero_le _,Nat.le_refl _,Nat.le_refl _,rfl,rfl,World.ownsRow_nil _ _ _ _,Below.refl _ _,fun _=>rfl,fun h=>absurd h (by omega)⟩
 case round=>
  obtain⟨k,f,j,a3,P,L,rfl,rfl,F,H,HW,HE⟩:=hrel;obtain⟨m,N⟩:∃m,m=j.length:=⟨_,rfl⟩;rw[←N]at L;have t:=hid N;clear N;by_cases hlt:k<s.size+1
  ·have r:Hid (cO (s.data.toList.take k)=j++[(s.data.toList.take k).drop f]):=HW (by omega);obtain⟨X,Q⟩:∃X,X=s.extract f k:=⟨_,rfl⟩;have a1:s.extract f k=X:=Q.symm;have HX:Hid (X=ah ((s.data.toList.take k).drop f)):=by show _=_;rw[Q,ext_mid]
   have a4:(f:Int)≤(k:Int):=by omega
   clear Q;by_cases hks:k<s.size
   ·obtain ⟨c,hc⟩:∃c,s[k]=c:=⟨_,rfl⟩;have B:k<s.data.toList.length:=by rw[n.out];exact hks
    have D:s.data.toList[k]=c:=hc;have HS:Hid (s.data.toList.take (k+1)=s.data.toList.take k++[c]):=by rw[←D];exact dG _ k B
    have E:Hid ((s.data.toList.take k).length=k):=by show _=_;rw[List.length_take,n.out];omega
    have q1:((k:Int)==(s.size:Int))=false:=by simp;omega
    have O:(k:Int)≤(s.size:Int):=by omega
    clear B D;by_cases h46:c=46
    ·have q2:((c.toNat:Int)==46)=true:=by rw[h46];rfl
     have Y:Hid (cO (s.data.toList.take (k+1))=(j++[(s.data.toList.take k).drop f])++[(s.data.toList.take (k+1)).drop (k+1)]):=by
      show _=_;rw[HS.out,h46,rW,r.out];congr 2;rw[List.drop_eq_nil_of_le];rw[List.length_append,E.out];exact Nat.le_refl _
     have l:Hid (k+1=s.size+1→R=j++[(s.data.toList.take k).drop f]):=fun h=>absurd h (by omega);have e:=F.out;have i:=H.out;rw[←t.out]at e;clear h46;go_wp2_with (at_builtin;refine bI rfl _ _ 23 rfl w.heap.size 9 i0 (.string ByteArray.empty) 16 underlying23 hi y x v rfl _ m _ rfl e i i.size [.string X] 1 rfl rfl (by intro u z;simp at z;subst z;rfl) (by unfold maxLen;omega) (by omega) ?_)
     intro J I a g;have q:Hid (I.ownsRow w.heap.size 9 1 J (j++[(s.data.toList.take k).drop f]).length (((j++[(s.data.toList.take k).drop f]).map ah).map Value.string)):=by
      show World.ownsRow _ _ _ _ _ _ _;rw[List.length_append,List.map_append,List.map_append,←t.out];show World.ownsRow _ _ _ _ _ (m+1) (_++[Value.string (ah ((s.data.toList.take k).drop f))]);rw[←HX.out];simpa using a
     have V:=hid g;clear e i a g;go_wp2;go_roundw
     case rel=>exact⟨k+1,k+1,j++[(s.data.toList.take k).drop f],by omega,Nat.le_refl _,by rw[List.length_append,←t.out];show m+1≤_;omega,by go_num,by go_num,q,V,fun _=>Y,l⟩
     case measure=>simp[intOf];omega
    ·have q2:((c.toNat:Int)==46)=false:=E8 (d:=46) h46;have Y:Hid (cO (s.data.toList.take (k+1))=j++[(s.data.toList.take (k+1)).drop f]):=by
      show _=_;obtain⟨a0,x',e1,e2⟩:=o8 c h46 (s.data.toList.take k);have h3:=r.symm.trans e1;obtain⟨h4,T⟩:=List.append_inj' h3 rfl;have T:(s.data.toList.take k).drop f=x':=by simpa using T
      rw[HS.out,e2,←h4,←T,List.drop_append_of_le_length (by rw[E.out];exact P)]
     have l:Hid (k+1=s.size+1→R=j):=fun h=>absurd h (by omega);clear h46;go_wp2;go_roundw
     case rel=>exact⟨k+1,f,j,by omega,by omega,by rw[←t.out];omega,by go_num,rfl,F,H,fun _=>Y,l⟩
     case measure=>simp[intOf];omega
   ·have C:k=s.size:=by omega
    have q1:((k:Int)==(s.size:Int))=true:=by simp;omega
    have O:(k:Int)≤(s.size:Int):=by omega
    have l:Hid (k+1=s.size+1→R=j++[(s.data.toList.take k).drop f]):=by
     intro _;rw[←r.out,HR.out,List.take_of_length_le (by rw[n.out,C];exact Nat.le_refl _)]
    have Z:Hid (k+1≤s.size→cO (s.data.toList.take (k+1))=(j++[(s.data.toList.take k).drop f])++[(s.data.toList.take (k+1)).drop (k+1)]):=fun h=>absurd h (by omega);have e:=F.out;have i:=H.out;rw[←t.out]at e;clear C;go_wp2_with (at_builtin;refine bI rfl _ _ 23 rfl w.heap.size 9 i0 (.string ByteArray.empty) 16 underlying23 hi y x v rfl _ m _ rfl e i i.size [.string X] 1 rfl rfl (by intro u z;simp at z;subst z;rfl) (by unfold maxLen;omega) (by omega) ?_)
    intro J I a g;have q:Hid (I.ownsRow w.heap.size 9 1 J (j++[(s.data.toList.take k).drop f]).length (((j++[(s.data.toList.take k).drop f]).map ah).map Value.string)):=by
     show World.ownsRow _ _ _ _ _ _ _;rw[List.length_append,List.map_append,List.map_append,←t.out];show World.ownsRow _ _ _ _ _ (m+1) (_++[Value.string (ah ((s.data.toList.take k).drop f))]);rw[←HX.out];simpa using a
    have V:=hid g;clear e i a g;go_wp2;go_roundw
    case rel=>exact⟨k+1,k+1,j++[(s.data.toList.take k).drop f],by omega,Nat.le_refl _,by rw[List.length_append,←t.out];show m+1≤_;omega,by go_num,by go_num,q,V,Z,l⟩
    case measure=>simp[intOf];omega
  ·obtain rfl:k=s.size+1:=by omega
   obtain⟨vA,vc,rfl,_,_,_⟩:=aS F;have W:Hid (Eb w R (.returned (.slice vA j.length vc)) wr):=by
    rw[HE.out rfl];exact⟨_,rfl,F,H⟩
   go_wp2;go_ret;exact W
theorem AO (s:ByteArray) (w:World) (P:s.size≤900000):Calls prog 249 #[.string s] w (Read w (prt (cO s.data.toList))):=by
 have t:s.data.toList.length=s.size:=Array.length_toList;obtain⟨R,E⟩:∃R,R=cO s.data.toList:=⟨_,rfl⟩;have H:R.length≤s.size+1:=by have:=oL s.data.toList;rw[←E,t]at this;exact this
 have v:0<R.length:=by rw[E];exact List.length_pos_iff.2 (oz _)
 obtain⟨n,J⟩:∃n,n=R.length:=⟨_,rfl⟩;rw[←E];have T:=hid E;rw[←J]at H v;have j:=hid J;clear E t J;go_enter func249,ntmps249;go_wp2_with fail
 refine(Jy s _ P).mono ?_;rw[←T.out];rintro e G ⟨V,rfl,a,D⟩;rw[←j.out]at a;obtain⟨A,c,rfl,z,C,y⟩:=aS a;have k:=hid y;have O:=hid D;have q:=hid C;clear a y D;unfold maxLen at C;obtain⟨g,f,rfl,W,d⟩:=k.spot v;by_cases h1:1<n
 ·have l:=d (n - 1) (by rw[List.length_map,List.length_map,←j.out];omega);rw[List.getElem_map,List.getElem_map]at l;obtain⟨x,hx⟩:∃x,x=R[n - 1]'(by rw[←j.out];omega):=⟨_,rfl⟩;rw[←hx]at l;have i:Hid (R.getLast?=some x):=by
   show _=_;rw[List.getLast?_eq_getElem?,←j.out,hx,List.getElem?_eq_getElem]
  have I:((n:Int) - 1).toNat=n - 1:=by omega
  have L:(1:Int)<(n:Int):=by omega
  have Q:f+((n:Int) - 1).toNat=f+(n - 1):=by omega
  obtain⟨X,m⟩:∃X,X=ah x:=⟨_,rfl⟩;rw[←m]at l;clear d hx;by_cases hxe:x=[]
  ·have N:(X.toList==[])=true:=by rw[m,hxe];unfold ah;rw[ByteArray.toList_mk];rfl
   have B:X.toList=[]:=by rw[m,hxe];unfold ah;rw[ByteArray.toList_mk]
   have F:Hid (prt R=R.take (n - 1)):=by show _=_;unfold prt;rw[if_pos ⟨by rw[←j.out];exact h1,by rw[i.out,hxe]⟩,←j.out]
   have r:Hid (Read w (prt R) (.returned (.slice (some ⟨g,f,none⟩) (n - 1) c)) G):=by
    rw[F.out];refine⟨_,_,_,rfl,by rw[List.length_take,←j.out];omega,by omega,q,?_,O⟩;have:=k.upto (n - 1) (by omega);rw[List.map_take,List.map_take];exact this
   clear hxe m;go_wp2;go_ret;first|exact r|(have:=r.out;simpa[I]using this)
  have N:(X.toList==[])=false:=by rw[m];unfold ah;rw[ByteArray.toList_mk];simpa using hxe
  have B:X.toList.isEmpty=false:=by rw[m];unfold ah;rw[ByteArray.toList_mk];simpa using hxe
  have F:Hid (prt R=R):=by show _=_;unfold prt;rw[if_neg (fun h=>hxe (by have:=h.2;rw[i.out]at this;simpa using this))]
  have r:Hid (Read w (prt R) (.returned (.slice (some ⟨g,f,none⟩) n c)) G):=by
   rw[F.out];exact⟨_,_,_,rfl,j,z,q,k,O⟩
  clear hxe m;go_wp2;go_ret;exact r
 have F:Hid (prt R=R):=by show _=_;unfold prt;rw[if_neg (fun h=>h1 (by rw[j.out];exact h.1))]
 have L:¬(1:Int)<(n:Int):=by omega
 have r:Hid (Read w (prt R) (.returned (.slice (some ⟨g,f,none⟩) n c)) G):=by
  rw[F.out];exact⟨_,_,_,rfl,j,z,q,k,O⟩
 clear d;go_wp2;go_ret;exact r
end NC
namespace ND
open Go.RowKit Base bC dJ lS Kr Xx NC
theorem sS (L:List UInt8) (h:num L=none):vX L=.tuple #[.int .u64 0,.bool false]:=by unfold vX;rw[h]
theorem sU (L:List UInt8) (v:Nat) (h:num L=some v):vX L=.tuple #[.int .u64 (sat v),.bool true]:=by unfold vX;rw[h]
theorem sV (L:List UInt8) (h:num L=none):vY L= -1:=by unfold vY;rw[h];rfl
theorem sW (L:List UInt8) (v:Nat) (h:num L=some v):∃D:Nat,vY L=D∧D≤17592186044431∧((D<1099511627776∧D=v)∨(1099511627776≤D∧1099511627776≤v)):=by
 have c:=Wu L;have a:v=val (zy L).1 (zy L).2:=by
  unfold num at h;split at h
  ·cases h
  split at h
  ·exact(Option.some.inj h).symm
  cases h
 refine⟨big (zy L).1 (zy L).2,by unfold vY;rw[h];rfl,Es _ (by omega) _,?_⟩;have:=XG (zy L).1 (by omega) (zy L).2;rw[←a]at this;exact this
theorem Qp (L:List UInt8):(lst L).length≤L.length:=by
 unfold lst;cases h:(cO L).getLast? with
 |none=>simp
 |some x=>exact nS L x (List.mem_of_getLast? h)
theorem UQ (s:ByteArray) (w:World) (hs:s.size≤900000):Calls prog 218 #[.string s] w fun e w'=>e=.returned (.bool (ends s.data.toList))∧Below w.heap.size w w':=by
 have J:s.data.toList.length=s.size:=Array.length_toList;obtain⟨K,E⟩:∃K,K=lst (vV s.data.toList):=⟨_,rfl⟩;obtain⟨o,L⟩:∃o,o=ends s.data.toList:=⟨_,rfl⟩;have t:o=((num K).isSome||(decide (K≠[])&&dM 10 K)):=by rw[L,E];rfl
 obtain⟨U,D⟩:∃U,U=ah (vV s.data.toList):=⟨_,rfl⟩;have q:U.data.toList=vV s.data.toList:=by rw[D];rfl
 have T:U.size≤900000:=by rw[D,ak];have:=yt s.data.toList;omega
 obtain⟨g,l,A⟩:=Rt U;rw[q,←E]at g;obtain⟨d,m⟩:∃a,a=Lib.lastIndexByte U 46:=⟨_,rfl⟩;rw[←m]at g l A;obtain⟨n,P⟩:∃n:Nat,(n:Int)=d+1:=⟨(d+1).toNat,by omega⟩;have x:n=(d+1).toNat:=by omega
 rw[←x]at g;obtain⟨Y,C⟩:∃Y,Y=ah K:=⟨_,rfl⟩;have a0:U.extract n U.size=Y:=by rw[eU.ext_drop _ _ _ rfl,q,g,C]
 have B:Y.data.toList=K:=by rw[C];rfl
 have i:Y.size≤1073741824:=by
  have h1:=Qp (vV s.data.toList);have h2:=yt s.data.toList;rw[C,ak,E];omega
 have V:(n:Int)≤(U.size:Int):=by omega
 have W:(0:Int)≤(n:Int):=by omega
 have j:(Y.toList==[])=decide (K=[]):=by rw[C];unfold ah;rw[ByteArray.toList_mk,Bool.eq_iff_iff];simp
 have Q:=hid t;have HU:=hid D;have N:=hid m;have HN:Hid (d+1=(n:Int)):=P.symm;have k:=hid B;rw[←L];have Z: -1≤d:=l;have X:d<900000:=by omega
 clear L t E D q g l A m P x C B J;go_enter func218,ntmps218;go_wp2_with fail
 refine(Dt s _ (by omega)).mono ?_;rintro e w2 ⟨rfl,I⟩;subst I;rw[←HU.out];go_wp2_with fail
 refine(strings_LastIndexByte U 46 _ (by omega)).mono ?_;rintro e w3 ⟨rfl,H⟩;subst H;rw[←N.out];have hN:=HN.out;cases hk:num K with
 |some v=>
  have HV:=hid (sU K v hk);have F:Hid (o=true):=by show _=_;rw[Q.out,hk];rfl
  clear hk;go_wp2_with fail
  refine(dw Y _ i).mono ?_;rw[k.out,HV.out];rintro e O ⟨rfl,f⟩;subst f;go_wp2;go_ret;exact⟨aC F.symm,Below.refl _ _⟩
 |none=>
  have HV:=hid (sS K hk);have F:Hid (o=(decide (K≠[])&&dM 10 K)):=by show _=_;rw[Q.out,hk];rfl
  clear hk;by_cases hke:K=[]
  ·have c:(Y.toList==[])=true:=by rw[j];exact decide_eq_true hke
   have z:Y.toList=[]:=by simpa using c
   have y:(Y.toList !=[])=false:=by rw[bne,c];rfl
   have r:Hid (o=false):=by show _=_;rw[F.out,decide_eq_false (fun h=>h hke)];rfl
   clear j hke;go_wp2_with fail
   refine(dw Y _ i).mono ?_;rw[k.out,HV.out];rintro e O ⟨rfl,f⟩;subst f;go_wp2;go_ret;exact⟨aC r.symm,Below.refl _ _⟩
  have c:(Y.toList==[])=false:=by rw[j];exact decide_eq_false hke
  have z:Y.toList.isEmpty=false:=by
   cases h:Y.toList with
   |nil=>rw[h]at c;cases c
   |cons _ _=>rfl
  have y:(Y.toList !=[])=true:=by rw[bne,c];rfl
  have r:Hid (o=dM 10 K):=by show _=_;rw[F.out,decide_eq_true hke];rfl
  clear j hke;go_wp2_with fail
  refine(dw Y _ i).mono ?_;rw[k.out,HV.out];rintro e O ⟨rfl,f⟩;subst f;go_wp2_with fail
  refine(gy Y 10 _ i).mono ?_;rw[k.out];rintro e w5 ⟨rfl,G⟩;subst G;go_wp2;go_ret;exact⟨aC r.symm,Below.refl _ _⟩
theorem last_any {α:Type} (l:List α) (n:Nat) (a:n=l.length) (c:0<n):∃h:n - 1<l.length,l.getLast?=some l[n - 1]:=by
 subst a;exact⟨by omega,by rw[List.getLast?_eq_getElem?,List.getElem?_eq_getElem]⟩
theorem C9 (s:ByteArray) (w:World) (hs:s.size≤900000):Calls prog 224 #[.string s] w fun e w'=>e=.returned (.bool (ends s.data.toList))∧Below w.heap.size w w':=by
 have Z:s.data.toList.length=s.size:=Array.length_toList;obtain⟨K,T⟩:∃K,K=lst (vV s.data.toList):=⟨_,rfl⟩;obtain⟨o,ho⟩:∃o,o=ends s.data.toList:=⟨_,rfl⟩;have H:o=((num K).isSome||(decide (K≠[])&&dM 10 K)):=by rw[ho,T];rfl
 obtain⟨R,hR⟩:∃R,R=prt (cO s.data.toList):=⟨_,rfl⟩;have l:R=cO (vV s.data.toList):=by rw[hR,LZ]
 have a0:R.length≤s.size+1:=by have W:=oL (vV s.data.toList);have V:=yt s.data.toList;rw[l];omega
 have r:0<R.length:=by rw[l];exact List.length_pos_iff.2 (oz _)
 obtain⟨a,f⟩:=last_any R R.length rfl r;have O:R[R.length - 1]=K:=by
  rw[T];unfold lst;rw[←l,f];rfl
 obtain⟨Y,C⟩:∃Y,Y=ah K:=⟨_,rfl⟩;have N:Y.data.toList=K:=by rw[C];rfl
 have E:K.length=Y.size:=by rw[C,ak]
 have b3:Y.size≤900000:=by
  have W:=Qp (vV s.data.toList);have V:=yt s.data.toList;rw[C,ak,T];omega
 have J:(Y.toList==[])=decide (K=[]):=by rw[C];unfold ah;rw[ByteArray.toList_mk,Bool.eq_iff_iff];simp
 have HO:=hid H;have HR:=hid hR;have B:=hid N;have P:=hid E;have a3:Hid (∀n,n=R.length→∃h:n - 1<R.length,R[n - 1]=K):=by
  rintro n rfl;exact⟨a,O⟩
 have HY:=hid C;rw[←ho];clear ho H T hR l f O a C N Z E;go_enter func224,ntmps224;go_wp2_with fail
 refine(AO s _ hs).mono ?_;rw[←HR.out];rintro e w2 ⟨A,n,c,rfl,hn,b6,a1,G,L⟩;rw[←hn]at a0 r;obtain⟨W,V⟩:=a3 n hn;obtain⟨g,b0,rfl,hg,i⟩:=G.spot r;have a2:=i (n - 1) (by rw[List.length_map,List.length_map];exact W);rw[List.getElem_map,List.getElem_map,V,←HY.out]at a2;have HB:=hid L;have b5:((n:Int) - 1).toNat=n - 1:=by omega
 unfold maxLen at a1;clear hn G i W V L;obtain⟨m,y⟩:∃m,m=decide (K≠[]):=⟨_,rfl⟩;have a5:=hid y;have q:(Y.toList==[])= !m:=by rw[J,y];by_cases h:K=[]<;>simp[h]
 have a8:(Y.toList !=[])=m:=by rw[bne,q,Bool.not_not]
 have a9:Y.toList.isEmpty= !m:=by
  rw[←q];cases Y.toList<;>rfl
 clear J y;go_wp2;go_loopw [5,6,19] (fun vd _ vk wr=>∃k:Nat,k≤Y.size∧vk=.int .i64 (k:Int)∧wr=w2∧vd=.bool (m&&dM 10 (K.take k))) (fun _ _ vk _=>Y.size - (intOf vk).toNat)
 case atStart=>exact⟨0,Nat.zero_le _,rfl,rfl,by simp[dM]⟩
 case round=>
  obtain⟨k,t,rfl,rfl,rfl⟩:=hrel;obtain⟨d,hd⟩:∃d,d=(m&&dM 10 (K.take k)):=⟨_,rfl⟩;rw[←hd];have HD:=hid hd;clear hd;by_cases a:k<Y.size
  ·obtain⟨x,hx⟩:∃x,Y[k]=x:=⟨_,rfl⟩;have I:k<K.length:=by rw[P.out];exact a
   have F:K[k]=x:=by
    have:Y.data.toList[k]?=some x:=by rw[←hx];exact Lib.data_getElem? Y k a
    rw[B.out]at this;obtain⟨_,e⟩:=List.getElem?_eq_some_iff.1 this;exact e
   have HS:Hid (K.take (k+1)=K.take k++[x]):=by rw[←F];exact dG _ k I
   have Q:Hid ((m&&dM 10 (K.take (k+1)))=(d&&ku 10 x)):=by
    show _=_;rw[HS.out,HD.out];unfold dM;rw[List.all_append,List.all_cons,List.all_nil,Bool.and_true,Bool.and_assoc]
   obtain⟨b,hb⟩:∃b,b=dJ.digit x.toNat:=⟨_,rfl⟩;have a7:=hid hb;have a6:Hid (b=ku 10 x):=hb.trans (sJ x);clear I F hb;cases d with
   |true=>
    go_wp2_with fail
    refine(iD.fB _ _).mono ?_;rintro e w3 ⟨rfl,X⟩;subst X;rw[←a7.out];go_wp2;go_roundw
    case rel=>exact⟨k+1,by omega,by go_num,by first|rfl|trivial,by rw[Q.out,a6.out];rfl⟩
    case measure=>simp[intOf];omega
   |false=>
    go_wp2;go_roundw
    case rel=>exact⟨k+1,by omega,by go_num,by first|rfl|trivial,by rw[Q.out];rfl⟩
    case measure=>simp[intOf];omega
  obtain rfl:k=Y.size:=by omega
  have a4:Hid (d=(m&&dM 10 K)):=by show _=_;rw[HD.out,List.take_of_length_le (by rw[P.out];exact Nat.le_refl _)]
  have HE:Hid (o=((num K).isSome||d)):=by show _=_;rw[HO.out,a4.out,a5.out]
  cases d with
  |true=>
   have j:Hid (o=true):=by show _=_;rw[HE.out,Bool.or_true]
   go_wp2;go_ret;exact⟨aC j.symm,HB⟩
  |false=>
   cases t:num K with
   |none=>
    have HV:=hid (sV K t);have j:Hid (o=false):=by show _=_;rw[HE.out,t];rfl
    clear t;go_wp2_with fail
    refine(bP Y _ (by omega)).mono ?_;rw[B.out,HV.out];rintro e w4 ⟨rfl,z⟩;go_wp2;go_ret;exact⟨aC j.symm,bF HB z⟩
   |some v=>
    obtain⟨D,hD,_,_⟩:=sW K v t;have HV:=hid hD;have j:Hid (o=true):=by show _=_;rw[HE.out,t];rfl
    have b7:(0:Int)≤(D:Int):=by omega
    clear t hD;go_wp2_with fail
    refine(bP Y _ (by omega)).mono ?_;rw[B.out,HV.out];rintro e w4 ⟨rfl,z⟩;go_wp2;go_ret;exact⟨aC j.symm,bF HB z⟩
end ND
namespace vP
open Go.RowKit Base lS Kr NC ND
def pI (o:Option Nat):Value:=match o with
 |some v=>.tuple #[.int .u32 v,.bool true]
 |none=>.tuple #[.int .u32 0,.bool false]
theorem dh (o:Option Nat) (h:o=none):pI o=.tuple #[.int .u32 0,.bool false]:=by rw[h];rfl
theorem tC (o:Option Nat) (v:Nat) (h:o=some v):pI o=.tuple #[.int .u32 v,.bool true]:=by rw[h];rfl
theorem drop_at {α:Type} (R:List α) (k:Nat) (p:α) (a:k<R.length) (h:R[k]=p):R.drop k=p::R.drop (k+1):=by rw[←h];exact List.drop_eq_getElem_cons a
theorem wo (a c:Nat) (p:List UInt8) (r:List (List UInt8)) (h:num p=none):kW a c (p::r)=none:=by
 cases r<;>(unfold kW;rw[h])
theorem kX (a c:Nat) (p:List UInt8) (v:Nat) (h:num p=some v) (d:v<a):kW a c [p]=some (c+v):=by unfold kW;rw[h];simp only;rw[if_pos d]
theorem jA (a c:Nat) (p:List UInt8) (v:Nat) (h:num p=some v) (d:¬v<a):kW a c [p]=none:=by unfold kW;rw[h];simp only;rw[if_neg d]
theorem uq (a c:Nat) (p q:List UInt8) (r:List (List UInt8)) (v:Nat) (h:num p=some v) (d:v≤255):kW a c (p::q::r)=kW (a / 256) (c+v*(a / 256)) (q::r):=by
 conv=>lhs;unfold kW
 rw[h];simp only;rw[if_pos d]
theorem nG (a c:Nat) (p q:List UInt8) (r:List (List UInt8)) (v:Nat) (h:num p=some v) (d:¬v≤255):kW a c (p::q::r)=none:=by unfold kW;rw[h];simp only;rw[if_neg d]
theorem drop_end {α:Type} (R:List α) (k:Nat) (h:R.length=k):R.drop k=[]:=by subst h;exact List.drop_length
def mk:Nat→Nat
 |0=>4294967296
 |1=>16777216
 |2=>65536
 |3=>256
 |_=>1
theorem xq (v m:Nat) (a:m≤4294967296):v<m↔sat v<m:=by unfold sat;omega
theorem zh (v:Nat) (h:sat v<4294967296):sat v=v:=by unfold sat at h⊢;omega
theorem jm (s:ByteArray) (w:World) (hs:s.size≤900000) (hM:Max w):Calls prog 219 #[.string s] w fun e w'=>e=.returned (pI (Dz s.data.toList))∧Below w.heap.size w w':=by
 have a5:s.data.toList.length=s.size:=Array.length_toList;obtain⟨S,hS⟩:∃S,S=Dz s.data.toList:=⟨_,rfl⟩;obtain⟨R,hR⟩:∃R,R=cO (vV s.data.toList):=⟨_,rfl⟩;have b3:S=if R.length≤4 then kW 4294967296 0 R else none:=by rw[hS,hR];rfl
 obtain⟨U,hU⟩:∃U,U=ah (vV s.data.toList):=⟨_,rfl⟩;have a9:U.data.toList=vV s.data.toList:=by rw[hU];rfl
 have b8:(vV s.data.toList).length≤s.size:=by rw[←a5];exact yt _
 have c7:U.size≤900000:=by rw[hU,ak];omega
 have a6:0<R.length:=by rw[hR];exact List.length_pos_iff.2 (oz _)
 have b9:R.length≤900001:=by have:=oL (vV s.data.toList);rw[hR];omega
 have a1:Hid (∀p ∈ R,p.length≤900000):=by
  intro p W;rw[hR]at W;have:=nS _ p W;omega
 have b0:cO U.data.toList=R:=by rw[a9,hR]
 have c2:=hid b0;have HU:=hid hU;have c3:=hid hM;have b6:=hid b3;rw[←hS];clear hS b3 hR hU a9 b8 b0 hM a5;go_enter func219,ntmps219;go_wp2_with fail
 refine(Dt s _ (by omega)).mono ?_;rintro e w2 ⟨rfl,b7⟩;subst b7;rw[←HU.out];go_wp2_with fail
 refine(Tq U _ (by omega) c3).mono ?_;rw[c2.out];rintro e w3 ⟨A,n,c,rfl,hn,c8,c0,a7,hb⟩;rw[←hn]at a6 b9;obtain⟨g,c6,rfl,hg,E⟩:=a7.spot a6;have a3:=hid E;have HB:=hid hb;have Q:=hid hn;unfold maxLen at c0;clear hn a7 E hb;by_cases h4:n≤4
 ·have b5:¬(3:Int)<(n:Int) - 1:=by omega
  have c1:Hid (S=kW 4294967296 0 (R.drop 0)):=by show _=_;rw[b6.out,if_pos (by rw[←Q.out];exact h4),List.drop_zero]
  go_wp2;obtain⟨q,hq⟩:∃q:Int,q=(n:Int) - 1:=⟨_,rfl⟩;rw[←hq];have HQ:=hid hq;clear hq b5;generalize decide ((3:Int)<q)=dd;go_loopw [6,7,8,9,10,21] (fun va _ _ _ _ vk wr=>∃(k a:Nat),k≤n∧vk=.int .i64 (k:Int)∧wr=w3∧va=.int .u64 (a:Int)∧a<4294967296∧Hid (k<n→a+mk k≤4294967296)∧Hid (S=kW (mk k) a (R.drop k))) (fun _ _ _ _ _ vk _=>n - (intOf vk).toNat)
  case atStart=>exact⟨0,0,Nat.zero_le _,rfl,rfl,rfl,by omega,fun _=>Nat.le_refl _,c1⟩
  case round=>
   obtain⟨k,a,hk,rfl,rfl,rfl,Z,c5,HW⟩:=hrel;by_cases hlt:k<n
   ·have f := c5 hlt;have D:k=0∨k=1∨k=2∨k=3:=by omega
    have y:mk k≤4294967296:=by rcases D with rfl|rfl|rfl|rfl<;>decide
    obtain⟨p,W⟩:∃p,p=R[k]'(by rw[←Q.out];exact hlt):=⟨_,rfl⟩;obtain⟨Y,hY⟩:∃Y,Y=ah p:=⟨_,rfl⟩;have z:=a3 k (by rw[List.length_map,List.length_map,←Q.out];exact hlt);rw[List.getElem_map,List.getElem_map,←W,←hY]at z;have H:Hid (Y.data.toList=p):=by show _=_;rw[hY];rfl
    have B:Y.size≤1073741824:=by
     rw[hY,ak];have:=a1 p (by rw[W];exact List.getElem_mem _);omega
    have L:Hid (R.drop k=p::R.drop (k+1)):=drop_at R k p (by rw[←Q.out];exact hlt) W.symm;clear W hY;cases hnp:num p with
    |none=>
     have HV:=hid (sS p hnp);have l:=hid (dh S (by rw[HW.out,L.out];exact wo _ _ _ _ hnp));clear hnp y f;rcases D with rfl|rfl|rfl|rfl
     all_goals
      try rw[Nat.add_zero]at z
      go_wp2_with fail
      refine(dw Y _ B).mono ?_;rw[H.out,HV.out];rintro e w4 ⟨rfl,j⟩;subst j;go_wp2;go_ret2;exact⟨by rw[l.out];rfl,HB⟩
    | some v=>
     have HV:=hid (sU p v hnp);obtain⟨x,hx⟩:∃x,x=sat v:=⟨_,rfl⟩;have N:x≤4294967296:=by rw[hx];unfold sat;omega
     rw[←hx]at HV;have V:(0:Int)≤(x:Int):=by omega
     have r:(x:Int)≤4294967296:=by omega
     by_cases hq:n=k+1
     ·have G:R.drop (k+1)=[]:=drop_end R _ (by rw[←Q.out];exact hq);have hA:((k:Int)==q)=true:=by have:=HQ.out;simp;omega
      have hB:¬(k:Int)<q:=by have:=HQ.out;omega
      have hC:4 - q=4 - (k:Int):=by have:=HQ.out;omega
      have a2:=hid hq;clear hq;by_cases hxm:x<mk k
      ·have C:x=v:=by rw[hx];exact zh v (by rw[←hx];omega)
       have l:=hid ((show S=kW (mk k) a [p]by rw[HW.out,L.out,G]).trans (kX (mk k) a p v hnp ((xq v (mk k) y).2 (by rw[←hx];exact hxm))));have I:=hid C;have c4:=hid G;have d:Hid ((a:Int)+(x:Int)=((a+v:Nat):Int)):=by show _=_;rw[I.out];omega
       have i:(x:Int)<(mk k:Int):=by omega
       have m:(a:Int)+(mk k:Int)≤4294967296:=by omega
       have F:(0:Int)≤(a:Int):=by omega
       have P:Hid (a+v<4294967296):=by have:=I.out;show _<_;omega
       have a0:Hid (S=kW (mk (k+1)) (a+v) (R.drop (k+1))):=by show _=_;rw[c4.out];exact l
       clear hnp hx C G hxm N r f y;rcases D with rfl|rfl|rfl|rfl
       all_goals
        try rw[Nat.add_zero]at z
        simp only[mk,Int.cast_ofNat_Int]at hA hB i m;simp only[Int.cast_ofNat_Int,Int.reduceSub]at hC;generalize (x:Int)=X at i V d HV;generalize (a:Int)=AC at m F d⊢;go_wp2_with fail
        refine(dw Y _ B).mono ?_;rw[H.out,HV.out];rintro e w4 ⟨rfl,j⟩;subst j;go_wp2;go_roundw
        case rel=>exact⟨_,a+v,by have:=a2.out;omega,by go_num,by first|rfl|trivial,by first|exact int_eq d|(rw[←d.out]),P,fun h=>absurd h (by have:=a2.out;omega),a0⟩
        case measure=>(have:=a2.out;simp[intOf];omega)
      have l:=hid (dh S ((show S=kW (mk k) a [p]by rw[HW.out,L.out,G]).trans (jA (mk k) a p v hnp (fun h=>hxm (by rw[hx];exact(xq v (mk k) y).1 h)))));have i:¬(x:Int)<(mk k:Int):=by omega
      clear hnp hx G hxm N f y;rcases D with rfl|rfl|rfl|rfl
      all_goals
       try rw[Nat.add_zero]at z
       simp only[mk,Int.cast_ofNat_Int]at hA hB i;simp only[Int.cast_ofNat_Int,Int.reduceSub]at hC;generalize (x:Int)=X at i V r HV;generalize (a:Int)=AC;go_wp2_with fail
       refine(dw Y _ B).mono ?_;rw[H.out,HV.out];rintro e w4 ⟨rfl,j⟩;subst j;go_wp2;go_ret2;exact⟨by rw[l.out];rfl,HB⟩
     have hA:((k:Int)==q)=false:=by have:=HQ.out;simp;omega
     have hB:(k:Int)<q:=by have:=HQ.out;omega
     have O:k=0∨k=1∨k=2:=by omega
     have t:k+1<n:=by omega
     obtain⟨p2,a8⟩:∃p2,p2=R[k+1]'(by rw[←Q.out];exact t):=⟨_,rfl⟩;have J:Hid (R.drop (k+1)=p2::R.drop (k+2)):=drop_at R (k+1) p2 (by rw[←Q.out];exact t) a8.symm;have T:=hid t;clear a8 hq t y D;by_cases hxm:x≤255
     ·have C:x=v:=by rw[hx];exact zh v (by rw[←hx];omega)
      have l:=(show S=kW (mk k) a (p::p2::R.drop (k+2))by rw[HW.out,L.out,J.out]).trans (uq (mk k) a p p2 (R.drop (k+2)) v hnp (by omega));rw[show mk k / 256=mk (k+1)by rcases O with rfl|rfl|rfl<;>rfl,←J.out]at l
      have a0:=hid l;have I:=hid C;have d:Hid ((a:Int)+(x:Int)*(mk (k+1):Int)=((a+v*mk (k+1):Nat):Int)):=by show _=_;rw[I.out];simp
      have i:(x:Int)≤255:=by omega
      have m:(a:Int)+(mk k:Int)≤4294967296:=by omega
      have F:(0:Int)≤(a:Int):=by omega
      have P:Hid (a+v*mk (k+1)<4294967296∧a+v*mk (k+1)+mk (k+1)≤4294967296):=by have:=I.out;show _∧_;rcases O with rfl|rfl|rfl<;>simp only[mk]at f⊢<;>omega
      clear hnp hx C hxm N r f l;rcases O with rfl|rfl|rfl
      all_goals
       try rw[Nat.add_zero]at z
       simp only[mk,Int.cast_ofNat_Int]at hA hB m;simp only[mk,Nat.reduceAdd,Int.cast_ofNat_Int]at d;generalize (x:Int)=X at i V d HV;generalize (a:Int)=AC at m F d⊢;go_wp2_with fail
       refine(dw Y _ B).mono ?_;rw[H.out,HV.out];rintro e w4 ⟨rfl,j⟩;subst j;go_wp2;go_roundw
       case rel=>exact⟨_,_,by have:=T.out;omega,by go_num,by first|rfl|trivial,by first|exact int_eq d|(rw[←d.out]),P.out.1,fun _=>P.out.2,a0⟩
       case measure=>(have:=T.out;simp[intOf];omega)
     have l:=hid (dh S ((show S=kW (mk k) a (p::p2::R.drop (k+2))by rw[HW.out,L.out,J.out]).trans (nG (mk k) a p p2 (R.drop (k+2)) v hnp (fun h=>hxm (by rw[hx];unfold sat;omega)))));have i:¬(x:Int)≤255:=by omega
     have a4:(255:Int)<(x:Int):=by omega
     clear hnp hx hxm N f;rcases O with rfl|rfl|rfl
     all_goals
      try rw[Nat.add_zero]at z
      simp only[Int.cast_ofNat_Int]at hA hB;generalize (x:Int)=X at i a4 r HV;generalize (a:Int)=AC;go_wp2_with fail
      refine(dw Y _ B).mono ?_;rw[H.out,HV.out];rintro e w4 ⟨rfl,j⟩;subst j;go_wp2;go_ret2;exact⟨by rw[l.out];rfl,HB⟩
   obtain rfl:k=n:=by omega
   have l:=hid (tC S a (by rw[HW.out,drop_end R k Q.out.symm];rfl));have F:(0:Int)≤(a:Int):=by omega
   have m:(a:Int)<4294967296:=by omega
   clear Z;generalize (a:Int)=AC at F m l⊢;go_wp2;go_ret2;exact⟨by rw[l.out];rfl,HB⟩
 have b5:(3:Int)<(n:Int) - 1:=by omega
 have l:=hid (dh S (by rw[b6.out,if_neg (by rw[←Q.out];exact h4)]));go_wp2;go_ret2;exact⟨by rw[l.out];rfl,HB⟩
end vP
