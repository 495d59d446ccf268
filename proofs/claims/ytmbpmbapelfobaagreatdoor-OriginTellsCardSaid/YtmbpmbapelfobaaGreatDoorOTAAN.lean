/- Lemmas. -/
import Derived.Test.YtmbpmbapelfobaaGreatDoorOTAAM
import Derived.Lib.TrimUEq
import Derived.Lib.SpaceUEq
import Derived.Lib.TrimAscii
import Derived.Lib.MapU
import Derived.Test.YtmbpmbapelfobaaGreatDoorShelf2
import Derived.IntWalk
set_option linter.unusedSimpArgs false
set_option linter.unusedVariables false
set_option maxRecDepth 100000
set_option maxHeartbeats 64000000
namespace Go.Proofs.YtmbpmbapelfobaaGreatDoor
open Tryz
namespace KE
open Go.RowKit Base sO uj RY aC
theorem un (x:Int) (c:0≤x) (a:x≤255):(u x).toNat=x.toNat:=by have:=jl x c a;omega
theorem Lu (r:Int) (h:xk r):(r≤127∧Lib.encodeRune r=[u r])∨(128≤r∧∃a b:UInt8,Lib.encodeRune r=[a,b]∧192≤a.toNat∧b.toNat / 64=2)∨
  (128≤r∧∃a b c:UInt8,Lib.encodeRune r=[a,b,c]∧192≤a.toNat∧b.toNat / 64=2∧c.toNat / 64=2)∨(128≤r∧∃a b c d:UInt8,Lib.encodeRune r=[a,b,c,d]∧192≤a.toNat∧b.toNat / 64=2∧c.toNat / 64=2∧d.toNat / 64=2):=by
 obtain⟨f,e,g⟩:=h;by_cases a:r≤127
 ·exact .inl ⟨a,enc1 r f a⟩
 by_cases b:r≤2047
 ·refine .inr (.inl ⟨by omega,_,_,enc2 r (by omega) b,?_,?_⟩)
  ·rw[un _ (by omega) (by omega)];omega
  ·rw[un _ (by omega) (by omega)];omega
 by_cases c:r≤65535
 ·refine .inr (.inr (.inl ⟨by omega,_,_,_,enc3 r (by omega),?_,?_,?_⟩))
  ·rw[un _ (by omega) (by omega)];omega
  ·rw[un _ (by omega) (by omega)];omega
  ·rw[un _ (by omega) (by omega)];omega
 ·refine .inr (.inr (.inr ⟨by omega,_,_,_,_,enc4 r (by omega) e,?_,?_,?_,?_⟩))
  ·rw[un _ (by omega) (by omega)];omega
  ·rw[un _ (by omega) (by omega)];omega
  ·rw[un _ (by omega) (by omega)];omega
  ·rw[un _ (by omega) (by omega)];omega
theorem Lp (r:Int) (h:xk r) (t:List UInt8):Lib.decodeN (Lib.encodeRune r++t).length ((Lib.encodeRune r++t).getD 0 0).toNat ((Lib.encodeRune r++t).getD 1 0).toNat ((Lib.encodeRune r++t).getD 2 0).toNat ((Lib.encodeRune r++t).getD 3 0).toNat=(r.toNat,(Lib.encodeRune r).length):=by
 obtain⟨d,e,f⟩:=h;by_cases a:r≤127
 ·rw[enc1 r d a];simp only[List.cons_append,List.nil_append,List.getD_cons_zero,un r d (by omega),Lib.decodeN];rw[if_pos (by omega)];rfl
 by_cases b:r≤2047
 ·rw[enc2 r (by omega) b];simp only[List.cons_append,List.nil_append,List.getD_cons_zero,List.getD_cons_succ,un (192+r / 64) (by omega) (by omega),un (128+r%64) (by omega) (by omega),Lib.decodeN,List.length_cons,List.length_nil];rw[if_neg (by omega),if_pos (by omega),if_pos (by omega)];refine Prod.ext ?_ rfl;simp only;omega
 by_cases c:r≤65535
 ·rw[enc3 r (by omega)];simp only[List.cons_append,List.nil_append,List.getD_cons_zero,List.getD_cons_succ,un (224+r / 4096) (by omega) (by omega),un (128+r / 64%64) (by omega) (by omega),un (128+r%64) (by omega) (by omega),Lib.decodeN,List.length_cons,List.length_nil];rw[if_neg (by omega),if_neg (by omega),if_pos (by omega),if_pos (by omega)];refine Prod.ext ?_ rfl;simp only;omega
 rw[enc4 r (by omega) e];simp only[List.cons_append,List.nil_append,List.getD_cons_zero,List.getD_cons_succ,un (240+r / 262144) (by omega) (by omega),un (128+r / 4096%64) (by omega) (by omega),un (128+r / 64%64) (by omega) (by omega),un (128+r%64) (by omega) (by omega),Lib.decodeN,List.length_cons,List.length_nil];rw[if_neg (by omega),if_neg (by omega),if_neg (by omega),if_pos (by omega),if_pos (by omega)];refine Prod.ext ?_ rfl;simp only;omega
theorem qY (r:Int) (h:xk r) (t:List UInt8):Lib.decodeL (Lib.encodeRune r++t)=(r.toNat,(Lib.encodeRune r).length):=by rw[Lib.decodeL_N];exact Lp r h t
theorem afo (t:List UInt8) (e d c a:UInt8) (s:128≤a.toNat) (i:Lib.runeStartB c=false) (j:Lib.runeStartB d=false) (k:Lib.runeStartB e=true) (h:(Lib.decodeL [e,d,c,a]).2=4):Lib.decodeLastL (t++[e,d,c,a])=Lib.decodeL [e,d,c,a]:=by
 have q:=Lib.getD_app_end t [e,d,c,a] 1 (by omega) (by simp);have n:=Lib.getD_app_end t [e,d,c,a] 2 (by omega) (by simp);have m:=Lib.getD_app_end t [e,d,c,a] 3 (by omega) (by simp);have l:=Lib.getD_app_end t [e,d,c,a] 4 (by omega) (by simp);have r:(t++[e,d,c,a]).length=t.length+4:=by simp
 have g:Lib.lastStart (t++[e,d,c,a])=(t++[e,d,c,a]).length - 4:=by
  unfold Lib.lastStart;simp only[n,m,l];rw[if_neg (by omega)];simp only[List.length_cons,List.length_nil,List.getD_cons_succ,List.getD_cons_zero,Nat.reduceAdd,Nat.reduceSub,i,j,k,Bool.false_eq_true,if_false,if_true];rw[if_neg (by omega),if_neg (by omega)]
 have f:=Lib.drop_app_end t [e,d,c,a];unfold Lib.decodeLastL;rw[if_neg (by simp),q,if_neg (by simp;omega),g];simp only[List.length_cons,List.length_nil]at f;simp only[f,h];rw[if_pos (by omega)]
theorem F5 {c:UInt8} (h:c.toNat / 64=2):Lib.runeStartB c=false:=by unfold Lib.runeStartB;rw[h];rfl
theorem Ci {c:UInt8} (h:192≤c.toNat):Lib.runeStartB c=true:=by
 unfold Lib.runeStartB;have:=c.toNat_lt;have a:c.toNat / 64≠2:=by omega
 simpa using a
theorem vY (r:Int) (h:xk r) (t:List UInt8):Lib.decodeLastL (t++Lib.encodeRune r)=(r.toNat,(Lib.encodeRune r).length):=by
 have f:=qY r h [];rw[List.append_nil]at f;rcases Lu r h with⟨l,e⟩|⟨_,a,b,e,g,i⟩|⟨_,a,b,c,e,g,i,j⟩|⟨_,a,b,c,d,e,g,i,j,k⟩
 ·rw[e]at f⊢;rw[Lib.decodeLastL_ascii t _ (by rw[un r h.1 (by omega)];have:=h.1;omega),un r h.1 (by omega)];rfl
 ·rw[e]at f⊢;rw[Lib.last2 t a b (by omega) (Ci g) (by rw[f];rfl),f]
 ·rw[e]at f⊢;rw[Lib.last3 t a b c (by omega) (F5 i) (Ci g) (by rw[f];rfl),f]
 rw[e]at f⊢;rw[afo t a b c d (by omega) (F5 j) (F5 i) (Ci g) (by rw[f];rfl),f]
def jo (l:List Int):Prop:=∀r ∈ l,xk r
theorem eP (a b:List Int):enc (a++b)=enc a++enc b:=by simp[enc]
theorem ng (r:Int):enc [r]=Lib.encodeRune r:=by simp[enc]
theorem dl (s:ByteArray):s.data.toList.length=s.size:=Array.length_toList
theorem Vs (a b:List Int) (r:Int) (h:xk r) (S:ByteArray) (c:S.data.toList=enc (a++r::b)):Utf8.decode S (enc a).length=(r.toNat,(Lib.encodeRune r).length):=by
 rw[←Lib.decodeL_drop,c,eP,List.drop_left,dS];exact qY r h _
def bl (r:Int):Bool:=decide (r≤32)
def pn (r:Nat):Bool:=decide (r≤32)
theorem abm (r:Int) (h:0≤r):pn r.toNat=bl r:=by unfold pn bl;congr 1;rw[eq_iff_iff];omega
theorem wQ (r:Int):0<(Lib.encodeRune r).length:=by have:=(Ak r).1;omega
theorem LZ (S:ByteArray):∀(b a:List Int) (f:Nat),S.data.toList=enc (a++b)→jo b→b.length<f→
  Lib.idxFuncFrom pn false S f (enc a).length=if b.all bl=true then -1 else(((enc a).length+(enc (b.takeWhile bl)).length:Nat):Int)
 |[],a,f,hS,_,_=>by
  rw[List.append_nil]at hS
  have c:S.size=(enc a).length:=by rw[←dl,hS]
  rw[Lib.idxFuncFrom_end _ _ _ _ _ (by omega)]
  rfl
 | r :: b, a, f, hS, hC, hf => by
  obtain⟨g,rfl⟩:∃g,f=g+1:=⟨f - 1,by simp at hf;omega⟩
  have e:=hC r (by simp)
  have h:=Vs a b r e S hS
  have c:(enc a).length<S.size:=by
   rw[←dl,hS,eP,List.length_append,dS,List.length_append];have:=wQ r;omega
  rw[Lib.idxFuncFrom,if_pos c,h];simp only[abm r e.1];cases hb:bl r with
  |false=>simp[hb,enc]
  |true=>
   rw[if_neg (by simp)];have d:=LZ S b (a++[r]) g (by rw[hS];simp) (fun x hx=>hC x (by simp[hx])) (by simp at hf;omega);rw[eP,ng,List.length_append]at d;rw[d];simp only[List.all_cons,hb,Bool.true_and,List.takeWhile_cons,if_true,dS,List.length_append];split
   ·rfl
   ·congr 1;omega
theorem Ip (S:ByteArray) (m:List Int):∀(n:Nat) (l:List Int) (f:Nat),l.length=n→S.data.toList=enc (l++m)→jo l→n<f→
  (l.all bl=true∧Lib.lastIdxFuncFrom pn false S f (enc l).length= -1)∨∃d r c,l=d++r::c∧bl r=false∧c.all bl=true∧Lib.lastIdxFuncFrom pn false S f (enc l).length=((enc d).length:Int)
 |0,l,f,hl,_,_,_=>by
  obtain rfl:=List.eq_nil_of_length_eq_zero hl
  exact .inl ⟨rfl,Lib.lastIdxFuncFrom_zero _ _ _ _⟩
 |n+1,l,f,hl,hS,hC,hf=>by
  obtain⟨g,rfl⟩:∃g,f=g+1:=⟨f - 1,by omega⟩
  have h:l≠[]:=by rintro rfl;simp at hl
  obtain⟨k,r,rfl⟩:∃k r,l=k++[r]:=⟨_,_,(List.dropLast_concat_getLast h).symm⟩
  have s:=hC r (by simp)
  have e:S.data.toList.take (enc (k++[r])).length=enc k++Lib.encodeRune r:=by rw[hS,eP (k++[r]),List.take_left,eP,ng]
  have t:0<(enc (k++[r])).length:=by rw[eP,List.length_append,ng];have:=wQ r;omega
  rw[Lib.lastIdxFuncFrom,if_pos t,e,vY r s]
  simp only[abm r s.1]
  have a:(enc (k++[r])).length - (Lib.encodeRune r).length=(enc k).length:=by rw[eP,List.length_append,ng];omega
  rw[a]
  cases hb:bl r with
  |false=>
   rw[if_pos rfl]
   exact .inr ⟨k,r,[],rfl,hb,rfl,rfl⟩
  |true=>
   rw[if_neg (by simp)]
   simp at hl
   rcases Ip S ([r]++m) n k g hl (by rw[hS];simp) (fun x hx=>hC x (by simp[hx])) (by omega)with⟨j,i⟩|⟨d,q,c,j,i,w,v⟩
   ·exact .inl ⟨by simp[j,hb],i⟩
   ·exact .inr ⟨d,q,c++[r],by rw[j];simp,i,by simp[w,hb],v⟩
def Uw (l:List Int):List Int:=((l.dropWhile bl).reverse.dropWhile bl).reverse
theorem Vz {p:Int→Bool} {l:List Int} (h:l.all p=true):l.dropWhile p=[]:=by
 induction l with
 |nil=>rfl
 |cons x l ih=>
  simp only[List.all_cons,Bool.and_eq_true]at h;rw[List.dropWhile_cons,if_pos h.1];exact ih h.2
theorem acj {p:Int→Bool} {a:List Int} (b:List Int) (h:a.all p=true):(a++b).dropWhile p=b.dropWhile p:=by
 induction a with
 |nil=>rfl
 |cons x l ih=>
  simp only[List.all_cons,Bool.and_eq_true]at h;rw[List.cons_append,List.dropWhile_cons,if_pos h.1];exact ih h.2
theorem trR (c a:List Int) (r:Int) (h:bl r=false) (d:a.all bl=true):((c++r::a).reverse.dropWhile bl).reverse=c++[r]:=by
 rw[List.reverse_append,List.reverse_cons,List.append_assoc,acj _ (by simpa using d),List.singleton_append,List.dropWhile_cons,h];simp
theorem RF (l:List Int):l=l.takeWhile bl++l.dropWhile bl:=List.takeWhile_append_dropWhile.symm
theorem Wn (l:List Int) (f:jo l):Lib.trimLeftF pn (ah (enc l))=ah (enc (l.dropWhile bl)):=by
 have hf:l.length≤(enc l).length:=(fE l).2;have d:(ah (enc l)).size=(enc l).length:=ak _;unfold Lib.trimLeftF Lib.idxFunc;by_cases hl:l=[]
 ·subst hl;rfl
 have i:0<l.length:=List.length_pos_iff.2 hl;have h:=LZ (ah (enc l)) l [] ((ah (enc l)).size+1) rfl f (by omega);have a:Lib.idxFuncFrom pn false (ah (enc l)) (ah (enc l)).size (enc []).length=Lib.idxFuncFrom pn false (ah (enc l)) ((ah (enc l)).size+1) (enc []).length:=idx_fuel (ah (enc l)) l [] _ _ rfl f (by omega) (by omega);rw[show(0:Nat)=(enc []).length from rfl,a,h];by_cases ha:l.all bl=true
 ·rw[if_pos ha,if_pos rfl,Vz ha];rfl
 rw[if_neg ha,if_neg (by omega)];apply ByteArray.ext;apply Array.ext';show((ah (enc l)).extract _ _).data.toList=_;rw[d];have e:((((enc ([]:List Int)).length+(enc (l.takeWhile bl)).length:Nat):Int)).toNat=(enc (l.takeWhile bl)).length:=by rw[show(enc ([]:List Int)).length=0 from rfl,Nat.zero_add,Int.toNat_natCast]
 rw[e];have hx:((ah (enc l)).extract (enc (l.takeWhile bl)).length (enc l).length).data.toList=(enc l).drop (enc (l.takeWhile bl)).length:=by
  rw[ByteArray.data_extract];simp only[ah,Array.toList_extract,List.extract_eq_take_drop];exact List.take_of_length_le (by rw[List.length_drop];exact Nat.le_refl _)
 rw[hx];have g:enc l=enc (l.takeWhile bl)++enc (l.dropWhile bl):=by rw[←eP,←RF]
 have c:=congrArg (List.drop (enc (l.takeWhile bl)).length) g;rw[List.drop_left]at c;exact c
where
 idx_fuel (S:ByteArray):∀(b a:List Int) (f g:Nat),S.data.toList=enc (a++b)→jo b→b.length≤f→b.length≤g→Lib.idxFuncFrom pn false S f (enc a).length=Lib.idxFuncFrom pn false S g (enc a).length
  |[],a,f,g,hS,_,_,_=>by
   rw[List.append_nil]at hS
   have hsz:S.size=(enc a).length:=by rw[←dl,hS]
   rw[Lib.idxFuncFrom_end _ _ _ _ _ (by omega),Lib.idxFuncFrom_end _ _ _ _ _ (by omega)]
  |r::b,a,f,g,hS,hC,hf,hg=>by
   obtain⟨f',rfl⟩:∃g,f=g+1:=⟨f - 1,by simp at hf;omega⟩
   obtain⟨g',rfl⟩:∃f,g=f+1:=⟨g - 1,by simp at hg;omega⟩
   have hr:=hC r (by simp)
   have hd:=Vs a b r hr S hS
   have ih:=idx_fuel S b (a++[r]) f' g' (by rw[hS];simp) (fun x hx=>hC x (by simp[hx])) (by simp at hf;omega) (by simp at hg;omega)
   rw[eP,ng,List.length_append]at ih
   rw[Lib.idxFuncFrom,Lib.idxFuncFrom,hd,ih]
theorem Ui (l:List Int) (j:jo l):Lib.trimRightF pn (ah (enc l))=ah (enc (l.reverse.dropWhile bl).reverse):=by
 have hf:l.length≤(enc l).length:=(fE l).2;have d:(ah (enc l)).size=(enc l).length:=ak _;unfold Lib.trimRightF Lib.rightEndF Lib.lastIdxFunc;have hx:∀k,((ah (enc l)).extract 0 k).data.toList=(enc l).take k:=fun k=>by
  rw[ByteArray.data_extract];simp[ah,Array.toList_extract,List.extract_eq_take_drop]
 by_cases hl:l=[]
 ·subst hl;rfl
 have f:=last_fuel (ah (enc l)) [] l.length l (ah (enc l)).size ((ah (enc l)).size+1) rfl (by rw[List.append_nil];rfl) j (by omega) (by omega);rw[←d]at f;rw[f];rw[d];rcases Ip (ah (enc l)) [] l.length l ((enc l).length+1) rfl (by rw[List.append_nil];rfl) j (by omega)with⟨c,m⟩|⟨a,r,g,c,m,t,s⟩
 ·rw[m,if_neg (by omega)];apply ByteArray.ext;apply Array.ext';rw[hx,List.take_zero,Vz (by simpa using c)];rfl
 rw[s,if_pos (by omega)];have q:=j r (by rw[c];simp);have i:Lib.decodeGoB ((ah (enc l)).extract (enc a).length (enc l).length)=(r.toNat,(Lib.encodeRune r).length):=by
  have n:((ah (enc l)).extract (enc a).length (enc l).length).data.toList=Lib.encodeRune r++enc g:=by
   rw[ByteArray.data_extract];simp only[ah,Array.toList_extract,List.extract_eq_take_drop];rw[c,eP,List.drop_left,dS,List.take_of_length_le (by simp)]
  have h:((ah (enc l)).extract (enc a).length (enc l).length).size≠0:=by
   rw[←dl,n,List.length_append];have:=wQ r;omega
  unfold Lib.decodeGoB;rw[if_neg h,←Lib.decodeL_drop,List.drop_zero,n];exact qY r q _
 have e:(((enc a).length:Nat):Int).toNat=(enc a).length:=by simp
 rw[e,i];apply ByteArray.ext;apply Array.ext';rw[hx];have x:(l.reverse.dropWhile bl).reverse=a++[r]:=by rw[c];exact trR a g r m t
 rw[x];show _=enc (a++[r])
 conv=>lhs;rw[c]
 have w:enc (a++r::g)=enc (a++[r])++enc g:=by rw[←eP];simp
 rw[w];have v:(enc a).length+(Lib.encodeRune r).length=(enc (a++[r])).length:=by rw[eP,ng,List.length_append]
 rw[v,List.take_left]
where
 last_fuel (S:ByteArray) (m:List Int):∀(n:Nat) (l:List Int) (f g:Nat),l.length=n→S.data.toList=enc (l++m)→jo l→n≤f→n≤g→Lib.lastIdxFuncFrom pn false S f (enc l).length=Lib.lastIdxFuncFrom pn false S g (enc l).length
  |0,l,f,g,hl,_,_,_,_=>by
   obtain rfl:=List.eq_nil_of_length_eq_zero hl
   rw[show(enc ([]:List Int)).length=0 from rfl,Lib.lastIdxFuncFrom_zero,Lib.lastIdxFuncFrom_zero]
  |n+1,l,f,g,hl,hS,hC,hf,hg=>by
   obtain⟨f',rfl⟩:∃g,f=g+1:=⟨f - 1,by omega⟩
   obtain⟨g',rfl⟩:∃f,g=f+1:=⟨g - 1,by omega⟩
   have hne:l≠[]:=by rintro rfl;simp at hl
   obtain⟨k,r,rfl⟩:∃k r,l=k++[r]:=⟨_,_,(List.dropLast_concat_getLast hne).symm⟩
   have hr:=hC r (by simp)
   simp at hl
   have htk:S.data.toList.take (enc (k++[r])).length=enc k++Lib.encodeRune r:=by rw[hS,eP (k++[r]),List.take_left,eP,ng]
   have hlen:(enc (k++[r])).length - (Lib.encodeRune r).length=(enc k).length:=by rw[eP,List.length_append,ng];omega
   have ih:=last_fuel S ([r]++m) n k f' g' hl (by rw[hS];simp) (fun x hx=>hC x (by simp[hx])) (by omega) (by omega)
   rw[Lib.lastIdxFuncFrom,Lib.lastIdxFuncFrom,htk,vY r hr]
   simp only[hlen,ih]
theorem zf {l:List Int} (h:jo l) (p:Int→Bool):jo (l.dropWhile p):=fun r hr=>h r ((List.dropWhile_sublist p).subset hr)
theorem Gj (l:List Int) (a:jo l):Lib.trimF pn (ah (enc l))=ah (enc (Uw l)):=by
 unfold Lib.trimF Uw;rw[Wn l a,Ui _ (zf a bl)]
def bk (r:Int):Bool:=decide (r=9)||(decide (r=10)||decide (r=13))
def fz (r:Int):Int:=if bk r=true then -1 else r
theorem Wx:∀(l:List Int) (n:Nat),jo l→l.length≤n→Lib.mapGoD fz n (enc l)=enc (l.filter fun r=> !bk r)
 |[],0,_,_=>rfl
 |[],n+1,_,_=>rfl
 |_::_,0,_,h=>by simp at h
 |r::l,n+1,hC,hn=>by
  have a:=hC r (by simp)
  have c:enc (r::l)≠[]:=by rw[dS];exact Ov r _
  have d:=qY r a (enc l)
  rw[←dS]at d
  rw[Lib.mapGoD,if_neg c,d]
  have e:((r.toNat:Nat):Int)=r:=by have:=a.1;omega
  simp only[e]
  rw[dS,List.drop_left,Wx l n (fun x hx=>hC x (by simp[hx])) (by simp at hn;omega)]
  cases hb:bk r with
  |true=>
   have:fz r= -1:=by unfold fz;rw[hb];rfl
   rw[this]
   simp[hb]
  |false=>
   have f:fz r=r:=by unfold fz;rw[hb];rfl
   rw[f,if_pos a.1]
   simp[hb,enc]
theorem Zz (l:List Int) (a:jo l):Lib.mapD fz (enc l)=enc (l.filter fun r=> !bk r):=Wx l _ a (fE l).2
theorem Wu (r:Int) (h:xk r) (d:r≤127):cu (u r)=bl r∧brk (u r)=bk r:=by
 have c:=un r h.1 (by omega);constructor
 ·unfold cu bl;congr 1;rw[c,eq_iff_iff];have:=h.1;omega
 have a:∀k:UInt8,(k.toNat:Int)≤127→(decide (u r=k)=decide (r=(k.toNat:Int))):=fun k a=>by
  congr 1;rw[eq_iff_iff];constructor
  ·intro e;have:=congrArg UInt8.toNat e;rw[c]at this;have:=h.1;omega
  intro e;apply UInt8.toNat_inj.1;rw[c];omega
 unfold brk bk;rw[a 9 (by decide),a 10 (by decide),a 13 (by decide)];rfl
theorem zB {c:UInt8} (h:128≤c.toNat):cu c=false∧brk c=false:=by
 constructor
 ·unfold cu;simp;omega
 unfold brk;have a:∀k:UInt8,k.toNat<128→decide (c=k)=false:=fun k a=>by
  rw[decide_eq_false_iff_not];rintro rfl;omega
 rw[a 9 (by decide),a 10 (by decide),a 13 (by decide)];rfl
theorem zC (r:Int) (h:xk r) (l:128≤r):∀c ∈ Lib.encodeRune r,128≤c.toNat:=by
 rcases Lu r h with⟨k,_⟩|⟨_,a,b,e,g,f⟩|⟨_,a,b,c,e,g,f,i⟩|⟨_,a,b,c,d,e,g,f,i,j⟩
 ·omega
 all_goals
  intro x hx;rw[e]at hx;simp only[List.mem_cons,List.not_mem_nil,or_false]at hx
 ·rcases hx with rfl|rfl<;>omega
 ·rcases hx with rfl|rfl|rfl<;>omega
 rcases hx with rfl|rfl|rfl|rfl<;>omega
theorem Og (r:Int) (h:128≤r):bl r=false∧bk r=false:=by
 constructor
 ·unfold bl;simp;omega
 unfold bk;simp;omega
theorem VA:∀l:List Int,jo l→(enc l).dropWhile cu=enc (l.dropWhile bl)
 |[],_=>rfl
 | r :: l, hC => by
  have a:=hC r (by simp)
  have d:=VA l fun x hx=>hC x (by simp[hx])
  by_cases h1:r≤127
  ·have e:=enc1 r a.1 h1
   have g:=(Wu r a h1).1
   rw[dS,e,List.singleton_append,List.dropWhile_cons,List.dropWhile_cons,g,d]
   split
   ·rfl
   ·rw[dS,e];rfl
  ·obtain⟨c,t,e⟩:∃c t,Lib.encodeRune r=c::t:=by
    cases e:Lib.encodeRune r with
    |nil=>have:=wQ r;rw[e]at this;simp at this
    |cons c t=>exact⟨c,t,rfl⟩
   have f:=zC r a (by omega) c (by rw[e];simp);rw[dS,e,List.cons_append,List.dropWhile_cons,(zB f).1,List.dropWhile_cons,(Og r (by omega)).1];simp only[Bool.false_eq_true,if_false];rw[dS,e];rfl
theorem EJ:∀(n:Nat) (l:List Int),l.length=n→jo l→((enc l).reverse.dropWhile cu).reverse=enc (l.reverse.dropWhile bl).reverse
 |0,l,hl,_=>by
  obtain rfl:=List.eq_nil_of_length_eq_zero hl
  rfl
 | n + 1, l, hl, hC => by
  have d:l≠[]:=by rintro rfl;simp at hl
  obtain⟨k,r,rfl⟩:∃k r,l=k++[r]:=⟨_,_,(List.dropLast_concat_getLast d).symm⟩
  simp at hl
  have a:=hC r (by simp)
  have f:=EJ n k hl fun x hx=>hC x (by simp[hx])
  rw[eP,ng,List.reverse_append,List.reverse_append]
  by_cases h1:r≤127
  ·have e:=enc1 r a.1 h1
   have i:=(Wu r a h1).1
   rw[e]
   simp only[List.reverse_singleton,List.singleton_append,List.dropWhile_cons,i]
   split
   ·exact f
   ·simp[eP,ng,e]
  ·obtain⟨t,c,e⟩:∃t c,Lib.encodeRune r=t++[c]:=by
    have g:Lib.encodeRune r≠[]:=by intro e;have:=wQ r;rw[e]at this;simp at this
    exact⟨_,_,(List.dropLast_concat_getLast g).symm⟩
   have h:=zC r a (by omega) c (by rw[e];simp);rw[e];simp only[List.reverse_append,List.reverse_singleton,List.singleton_append,List.cons_append,List.dropWhile_cons,(zB h).1,(Og r (by omega)).1,Bool.false_eq_true,if_false];simp[eP,ng,e]
theorem aaU (l:List Int) (a:jo l):sJ (enc l)=enc (Uw l):=by
 unfold sJ Uw;rw[VA l a,EJ _ _ rfl (zf a bl)]
theorem EL:∀l:List Int,jo l→(enc l).filter (fun c=> !brk c)=enc (l.filter fun r=> !bk r)
 |[],_=>rfl
 | r :: l, hC => by
  have a:=hC r (by simp)
  rw[dS,List.filter_append,EL l fun x hx=>hC x (by simp[hx])]
  by_cases h1:r≤127
  ·have e:=enc1 r a.1 h1
   have d:=(Wu r a h1).2
   rw[e,List.filter_cons,d,List.filter_cons]
   cases bk r<;>simp[enc,e]
  ·have hf:(Lib.encodeRune r).filter (fun c=> !brk c)=Lib.encodeRune r:=by
    refine List.filter_eq_self.2 fun c hc=>?_;rw[(zB (zC r a (by omega) c hc)).2];rfl
   rw[hf,List.filter_cons,(Og r (by omega)).2];simp[enc]
theorem Qi {l:List Int} (h:jo l):jo l.reverse:=fun r hr=>h r (by simpa using hr)
theorem Qj {l:List Int} (h:jo l):jo (Uw l):=Qi (zf (Qi (zf h bl)) bl)
theorem Oj (L:List UInt8):Lib.mapD fz (Lib.trimF pn (ah (enc (dec L)))).data.toList=clean L:=by
 have a:jo (dec L):=uq L;rw[Gj _ a];show Lib.mapD fz (enc (Uw (dec L)))=_;rw[Zz _ (Qj a)];unfold clean;rw[aaU _ a,EL _ (Qj a)]
theorem qg (L:List UInt8):(clean L).length≤3*L.length:=by
 unfold clean;refine Nat.le_trans (List.length_filter_le _ _) ?_;have a:(sJ (enc (dec L))).length≤(enc (dec L)).length:=by
  unfold sJ;rw[List.length_reverse];refine Nat.le_trans (List.dropWhile_sublist _).length_le ?_;rw[List.length_reverse];exact(List.dropWhile_sublist _).length_le
 exact Nat.le_trans a (enc_dec_len _ L (Nat.le_refl _))
where
 enc_dec_len:∀(n:Nat) (L:List UInt8),L.length≤n→(enc (dec L)).length≤3*L.length
  |_,[],_=>by simp[mZ,enc]
  |0,_::_,h=>by simp at h
  | n + 1, x :: t, h => by
   have hs:=nD x t
   have he:(Lib.encodeRune (rd (x::t)).1).length≤3*(rd (x::t)).2.1.toNat:=by
    cases hw:(rd (x::t)).2.2
    ·rw[(qK x t).2 hw];have:(Lib.encodeRune 65533).length=3:=by decide
     omega
    ·rw[((qK x t).1 hw).2,List.length_take];omega
   simp only[List.length_cons]at h;have ih:=enc_dec_len n ((x::t).drop (rd (x::t)).2.1.toNat) (by rw[List.length_drop,List.length_cons];omega);rw[List.length_drop,List.length_cons]at ih;rw[gU,dS,List.length_append,List.length_cons];omega
end KE
namespace AY
open Go.RowKit Base aV sO uj RY aC KE
def sN (w:World):Prop:=Lib.Utf8Tabs 1 2 w
theorem sN.below {w w':World} (h:sN w) (a:Below w.heap.size w w'):sN w':=Utf8Tabs_below h a
theorem acB (x:Int) (w:World):Calls prog 28 #[.int .i32 x] w fun e w'=>e=.returned (.bool (decide (x≤32)))∧w'=w:=by
 go_enter func28,ntmps28;go_wp2;go_ret;exact⟨rfl,rfl⟩
theorem Vw (x:Int) (w:World):Calls prog 30 #[.int .i32 x] w fun e w'=>e=.returned (.int .i32 (fz x))∧w'=w:=by
 obtain⟨y,c⟩:∃y,y=fz x:=⟨_,rfl⟩;rw[←c];have a:=hid c;clear c;by_cases h9:x=9
 ·subst h9;go_enter func30,ntmps30;go_wp2;go_ret;exact⟨by rw[a.out];rfl,rfl⟩
 by_cases h10:x=10
 ·subst h10;go_enter func30,ntmps30;go_wp2;go_ret;exact⟨by rw[a.out];rfl,rfl⟩
 by_cases h13:x=13
 ·subst h13;go_enter func30,ntmps30;go_wp2;go_ret;exact⟨by rw[a.out];rfl,rfl⟩
 have g:(x==9)=false:=beq_eq_false_iff_ne.2 h9;have f:(x==10)=false:=beq_eq_false_iff_ne.2 h10;have q3:(x==13)=false:=beq_eq_false_iff_ne.2 h13;have d:Hid (y=x):=by show _=_;rw[a.out];simp[fz,bk,h9,h10,h13]
 go_enter func30,ntmps30;go_wp2;go_ret;exact⟨by rw[d.out];rfl,rfl⟩
theorem pred (w:World):PredAt prog 28 #[] encR pn w:=fun W x _=>(acB (x:Int) W).mono fun e w' ⟨h1,h2⟩=>⟨by rw[h1];unfold pn;congr 2;rw[decide_eq_decide];omega,0,h2⟩
theorem maps (w:World):MapGrows prog 30 #[] fz w:=fun W x _ _=>(Vw (x:Int) W).mono fun e w' ⟨h1,h2⟩=>⟨h1,by rw[h2];exact Below.refl _ _⟩
theorem aaS (l:List Int):(Uw l).length≤l.length:=by
 unfold Uw;rw[List.length_reverse];refine Nat.le_trans (List.dropWhile_sublist _).length_le ?_;rw[List.length_reverse];exact(List.dropWhile_sublist _).length_le
theorem Bz (T:List UInt8) (w:World) (H:T.length≤1000000) (B:sN w):Calls prog 12 #[.string (ah T)] w fun e w'=>e=.returned (.string (ah (clean T)))∧Below w.heap.size w w':=by
 have z:(enc (dec T)).length≤3*T.length:=qg.enc_dec_len _ T (Nat.le_refl _);have J:(dec T).length≤3000000:=by have:=(fE (dec T)).2;omega
 have f:∀r ∈ dec T,RV r:=fun r m=>by have:=uq T r m;unfold xk at this;unfold RV;omega
 have n:(enc (Uw (dec T))).length≤12000000:=by have h1:=(fE (Uw (dec T))).1;have Z:=aaS (dec T);omega
 have d:=Oj T;rw[Gj _ (uq T)]at d;have C:∀w:World,sN w→Calls prog 27 #[.string (ah (enc (dec T))),.func (.func 28) #[] #[]] w fun e w'=>e=.returned (.string (ah (enc (Uw (dec T)))))∧Below w.heap.size w w':=fun w h=>by
  have:=strings_TrimFunc 28 #[] (enters_of func28 (by kernel_rfl) rfl) pn (ah (enc (dec T))) w (by rw[ak];omega) h (pred w);rw[Gj _ (uq T)]at this;exact this
 have D:∀w:World,sN w→Calls prog 29 #[.func (.func 30) #[] #[],.string (ah (enc (Uw (dec T))))] w fun e w'=>e=.returned (.string (ah (clean T)))∧Below w.heap.size w w':=fun w h=>by
  have:=strings_Map 30 #[] (enters_of func30 (by kernel_rfl) rfl) fz (ah (enc (Uw (dec T)))) w (by rw[ak];omega) (maps w) (fun x hx=>by unfold fz;split<;>omega) h;rw[d]at this;exact this
 have O:=hid C;have V:=hid D;have E:=hid B;have t:=hid f;clear C D B d f n;have G:(ah T).size≤1000000:=by rw[ak];exact H
 have q:=fun(w:World) s=>run_bytes_of_string (P:=prog) w 9 55 5 s underlying9 underlying55 underlying5;have k:Hid ((ah T).size≤grownCap w (ah T).size 0 5):=grownCap_ge w (ah T).size 0 5;go_enter func12,ntmps12;go_wp2_with fail
 clear q;refine(sO.qE _ (ah T).size _ T _ (kM (ah T) _ w 5) (by omega) k).mono ?_;rintro e F ⟨v,rfl,a,j⟩;have y:Hid (Below w.heap.size w F):=bD (((Below.refl w.heap.size w).alloc (Nat.le_refl _) _).drew) j;clear j;obtain⟨A,c,rfl,Y,X,m⟩:=aW a;have Q:=hid m;clear a m;go_wp2_with fail
 refine(uj.iK A _ c (dec T) _ Q t (by omega)).mono ?_;rintro e W ⟨v,rfl,a,i⟩;have l:=hid (bD y i);clear i;obtain⟨A3,N,rfl,L,I,g⟩:=aW a;have aS:=bI 55 9 5 underlying55 underlying5 underlying9 _ N g;clear a g;go_wp2_with fail
 clear aS;refine qV l (O _ (E.below l)) fun w4 HB4=>?_;go_wp2_with fail
 refine qV HB4 (V _ (E.below HB4)) fun w5 HB5=>?_;go_wp2;go_ret;exact⟨rfl,HB5⟩
end AY
namespace AZ
open Go.RowKit Base dJ aV aC qB UG pz rV kS pJ vJ KE AY Gz U3
theorem Bj (C:List UInt8):(aC.apart C).rest.length≤C.length∧(aC.apart C).bQ.length≤C.length∧(aC.apart C).dY.length≤C.length:=by
 have d:=oK 35 C;have c:=oK 63 (aT 35 C).1;have a:=oK 58 (aT 63 (aT 35 C).1).1;unfold aC.apart;simp only;split
 ·refine⟨?_,?_,?_⟩<;>simp only<;>omega
 refine⟨?_,?_,?_⟩<;>simp only<;>omega
theorem yG (u:U) (p:Parts):(aC.finish u p).aF=u.aF:=by
 cases h1:p.hq<;>cases h2:p.hf<;>simp[aC.finish,h1,h2]
theorem JX {f:Func} {a b:Tmp} {w:World} {g:Nat} {u:U} {p:Value} (h:f.results=#[.cell a 25,.tmp b]) (i:UB w g u p) (z:Int) (c:Array Value) (k:c.getD a undef=.pointer (some ⟨g,0,none⟩)) (j:c.getD b undef=.int .i64 z):
  (results f c).run prog w=.ok (.tuple #[.agg (cells u p),.int .i64 z]) w:=by
 have e:c[a]?.getD undef=.pointer (some ⟨g,0,none⟩):=by simpa using k
 have d:c[b]?.getD undef=.int .i64 z:=by simpa using j
 simp[results,h,e,d,asAddr,i.load]
def RJ (w:World) (o:Option U) (e:Ending) (w':World):Prop:=Below w.heap.size w w'∧∃A n c,e=.returned (.tuple #[.agg (cells (o.getD U0) (.slice A n c)),.int .i64 (if o.isSome=true then 0 else 2)])∧Own w w' (o.getD U0) A n c
theorem Fq (T:List UInt8) (w:World) (hs:T.length≤65536) (hL:pK w) (hT:Tab.Pow w) (hM:Max w) (hU:sN w):Calls prog 5 #[.string (ah T),.pointer none] w (RJ w (aC.url T none)):=by
 have a2:=qg T;obtain⟨C,hC⟩:∃x,x=clean T:=⟨_,rfl⟩;rw[←hC]at a2;obtain⟨p,hp⟩:∃x,x=aC.apart C:=⟨_,rfl⟩;have a0:=Bj C;rw[←hp]at a0;obtain⟨OR,Q⟩:∃x,x=aC.resolve p none:=⟨_,rfl⟩;obtain⟨OU,P⟩:∃x,x=aC.url T none:=⟨_,rfl⟩;have a4:Hid (OU=OR.map fun u=>aC.finish u p):=by show _=_;rw[P];unfold aC.url;rw[←hC,←hp,←Q]
 rw[←P];have c7:Hid (∀w:World,sN w→Calls prog 12 #[.string (ah T)] w fun e w'=>e=.returned (.string (ah C))∧Below w.heap.size w w'):=fun w h=>by rw[hC];exact Bz T w (by omega) h
 have c9:Hid (∀w:World,Max w→Calls prog 11 #[.string (ah C)] w fun e w'=>e=.returned (.agg (eu p))∧Below w.heap.size w w'):=fun w h=>by rw[hp];exact Bh C w (by omega) h
 have c1:Hid (∀w:World,pK w→Tab.Pow w→Max w→Calls prog 13 #[.agg (eu p),.pointer none] w (kZ w OR)):=fun w a c d=>by rw[Q];exact JZ p w (by omega) a c d
 have c6:Hid (∀(u:U) (A:Option Addr) (n c:Nat) (w:World),Calls prog 14 #[.agg (cells u (.slice A n c)),.agg (eu p)] w fun e w'=>e=.returned (.agg (cells (aC.finish u p) (.slice A n c)))∧Below w.heap.size w w'):=fun u A n c w=>yF u p A n c w (by omega) (by omega);have e1:¬((ah T).size:Int)>65536:=by rw[ak];omega
 have e0:((ah T).size:Int)≤65536:=by omega
 have HL:=hid hL;have HT:=hid hT;have HM:=hid hM;have b9:=hid hU;clear P Q hp hC hL hT hM hU a0 a2;obtain⟨s,B,q,f,hq,hf⟩:=p;go_enter func5,ntmps5;go_upto_region 1 with(fail)
 generalize hw:World.alloc w _=w1;have k:UB w1 (w.heap.size) (U0) (.slice none 0 0)∧Below w.heap.size w w1:=by
  subst hw;exact iG w _ _
 clear hw;have I:Hid (w.heap.size≤w.heap.size):=(Below.refl w.heap.size w).size;have N:=hid (bD (Below.refl w.heap.size w) k.2);have X:=hid k.1;clear k;go_wp2_with fail
 refine(c7 _ (b9.below N)).mono ?_;rintro e w2 ⟨rfl,g⟩;have W:=hid (X.below g);have L:=hid (bD N g);clear g;go_wp2_with fail
 refine(c9 _ (HM.below L)).mono ?_;rintro e Z ⟨rfl,g⟩;have v:=hid (W.below g);have a8:=hid (bD L g);clear g;rw[show Value.agg (eu ⟨s,B,q,f,hq,hf⟩)=.agg #[.string (ah s),.string (ah B),.string (ah q),.string (ah f),.bool hq,.bool hf]from rfl];go_upto_region 4 with(fail)
 generalize hw:World.alloc Z _=w4;have k:PB w4 (Z.heap.size) (⟨s,B,q,f,hq,hf⟩)∧Below Z.heap.size Z w4:=by
  subst hw;exact iG Z _ _
 clear hw;have O:=v.lt;clear O;have t:=hid (v.below k.2);have j:=hid (bD a8 k.2);have z:=hid k.1;clear k;obtain⟨p0,p1,p2,p3,p4,p5⟩:=z.facts;go_wp2_with fail
 clear p0 p1 p2 p3 p4 p5;refine(c1 _ (HL.below j) (cO HT j) (HM.below j)).mono ?_;rintro e G ⟨g,i,F,D,E,ok,rfl,H,a1⟩;have c4:Hid (w.heap.size<w4.heap.size):=t.lt;have c2:Hid (w.heap.size≤w4.heap.size):=j.size;have r:=hid (t.below g);have y:=hid (z.below g);have a7:=hid (bD j g);have a5:=hid a1;have a3:=hid (show Own w4 G i F D E from H);clear a1 H;clear g;rw[show Value.agg (cells i (.slice F D E))=.agg #[.string (ah i.au),.string (ah i.bT),.string (ah i.bW),.string (ah i.aS),.bool i.hh,.int .i64 i.port,.bool i.bP,.string (ah i.txt),.slice F D E,.bool i.hq,.bool i.hf,.string (ah i.bQ),.string (ah i.dY)]from rfl];go_upto_region 5 with(fail)
 generalize hw:World.alloc G _=w6;have k:UB w6 (G.heap.size) (i) (.slice F D E)∧Below G.heap.size G w6:=by
  subst hw;exact iG G _ _
 clear hw;have O:=r.lt;clear O;have b3:=y.lt;clear b3;have l:=hid (r.below k.2);have Y:=hid (y.below k.2);have J:=hid (bD a7 k.2);have V:=hid k.1;have c8:=hid k.2;clear k
 skip
 cases ok with
 |false=>
  have c3:Hid (OU=none):=by
   show _=_;rcases a5 with⟨_,h⟩|⟨h,_⟩
   ·cases h
   rw[a4.out,h];rfl
  go_wp2_with (refine aJ l U0 none 0 0 (.tmp 4) (.tmp 24) rfl rfl rfl rfl ?_)
  refine bodyPost_ret (JX (u:=U0) (p:=.slice none 0 0) rfl (l.row U0 _) 2 _ rfl rfl) rfl ?_;rw[c3.out];exact⟨below_setRow J I _,none,0,0,rfl,rJ _ _ rfl⟩
 |true=>
  have c0:Hid (OU=some (aC.finish i ⟨s,B,q,f,hq,hf⟩)):=by
   show _=_;rcases a5 with⟨h,_⟩|⟨_,h,_⟩
   ·rw[a4.out,h];rfl
   cases h
  have b5:(aC.finish i ⟨s,B,q,f,hq,hf⟩).aF=i.aF:=yG _ _;obtain⟨d0,d1,d2,d3,d4,d5,d6,d7,d8,d9,b8,b7,b6⟩:=V.facts;obtain⟨p0,p1,p2,p3,p4,p5⟩:=Y.facts;go_wp2_with fail
  clear d0 d1 d2 d3 d4 d5 d6 d7 d8 d9 b8 b7 b6;clear p0 p1 p2 p3 p4 p5
  skip
  have c5:Hid (Below G.heap.size G w6):=c8.out;refine(c6 i F D E _).mono ?_;rintro e w7 ⟨rfl,g⟩;have m:=hid (l.below g);have a6:=hid (bD J g);have a9:=hid g;clear g;have b0:=(a3.below c5).below a9;go_wp2_with (refine aJ m (aC.finish i ⟨s,B,q,f,hq,hf⟩) F D E (.tmp 4) (.tmp 27) rfl rfl rfl rfl ?_)
  have ho:=(b0.row c4 (cells (aC.finish i ⟨s,B,q,f,hq,hf⟩) (.slice F D E))).base c2;refine bodyPost_ret (JX (u:=aC.finish i ⟨s,B,q,f,hq,hf⟩) (p:=.slice F D E) rfl (m.row _ _) 0 _ rfl rfl) rfl ?_;rw[c0.out];exact⟨below_setRow a6 I _,F,D,E,rfl,by show Own _ _ (aC.finish i ⟨s,B,q,f,hq,hf⟩) _ _ _;unfold Own;rw[b5];exact ho⟩
end AZ
namespace NV
open Go.RowKit aC
theorem jE {α:Type} {c:Prop} [Decidable c] {x:Option α} {u:α} (h:(if c then none else x)=some u):¬c∧x=some u:=by
 by_cases hc:c
 ·rw[if_pos hc]at h;cases h
 rw[if_neg hc]at h;exact⟨hc,h⟩
end NV
namespace abL
open Go.RowKit Base dw nN
theorem str_rest (R:List UInt8) (k:Nat) (h:k≤R.length):(ah R).extract k (ah R).size=ah (R.drop k):=by
 have e:=extract_drop (ah R) k (by rw[ak];exact h);have a:(ah R).data.toList=R:=rfl;rw[a]at e;rw[←bF ((ah R).extract k (ah R).size),e]
theorem Zg (a b c:UInt8) (t:List UInt8):(a=37∧0≤hex b.toNat∧0≤hex c.toNat→esc (a::b::c::t)=some (UInt8.ofNat (16*hex b.toNat+hex c.toNat).toNat))∧(¬(a=37∧0≤hex b.toNat∧0≤hex c.toNat)→esc (a::b::c::t)=none):=by
 constructor<;>intro h
 ·rw[esc,if_pos h]
 rw[esc,if_neg h]
theorem Tf (c:Int) (w:World):Calls prog 198 #[.int .u8 c] w fun e w'=>e=.returned (.int .i64 (hex c))∧w'=w:=
 (nK.jm c w).mono fun _ _ ⟨he,hw⟩=>⟨he,hw.symm⟩
theorem one_one (a:Int):∀u ∈ [Value.int .u8 a],u.oneCell'=true:=by
 intro u c;simp at c;subst c;rfl
attribute [local go_sem ↓] Go.wp_at_zero Go.wp_at_succ
def lenOf:Value→Nat
 | .string q=>q.size
 |_=>0
theorem Oo (s : ByteArray) (w : World) (hs : s.size ≤ 1073741824) : Calls prog 170 #[.string s] w fun e w' => e = .returned (.string (ah (dec s.data.toList))) ∧ Below w.heap.size w w' := by
 obtain⟨E,hi,n,l,k⟩:=info_parts rD;obtain⟨C,B⟩:∃C,C=s.data.toList:=⟨_,rfl⟩;have P:s=ah C:=by rw[B];exact(bF s).symm
 subst P;rw[ak]at hs;rw[←B];clear B;go_enter func170,ntmps170;go_wp2;go_loopw [0,3] (fun vs v wr=>∃(R X:List UInt8),R.length+X.length≤1073741824∧vs=.string (ah R)∧wr.ownsRow w.heap.size 5 1 v X.length (aU X)∧Below w.heap.size w wr∧Hid (X++dec R=dec C)) (fun vs _ _=>lenOf vs)
 case atStart=>exact⟨C,[],by simpa using hs,rfl,World.ownsRow_nil _ _ _ _,Below.refl _ _,rfl⟩
 case round=>
  obtain⟨R,X,A,rfl,i,d,D⟩:=hrel;cases R with
  |nil=>
   have HE:Hid (X=dec C):=by
    have e:=D.out;rw[mZ,List.append_nil]at e;exact e
   have y:(ah []).size=0:=rfl;rw[HE.out]at i;obtain⟨A',c',rfl,_,_,Q⟩:=aW i;have aS:=bI 55 9 5 underlying55 underlying5 underlying9 _ c' Q;go_wp2;go_ret;exact⟨rfl,d⟩
  | cons a t=>
   have y:(ah (a::t)).size=t.length+1:=by rw[ak,List.length_cons]
   have a2:∀h:0<(ah (a::t)).size,(ah (a::t))[0]'h=a:=fun _=>rfl;have Y:(ah (a::t)).extract 1 (t.length+1)=ah t:=by
    have:=str_rest (a::t) 1 (by simp);rw[y]at this;exact this
   have r:t.length+1+X.length≤1073741824:=by simpa using A
   by_cases h37:a=37
   ·subst h37;have L:(((37:UInt8).toNat:Int)==37)=true:=by decide
    by_cases h3:t.length<2
    ·have z:Hid (dec (37::t)=37::dec t):=lC _ _ (by
      match t,h3 with
      |[],_=>rfl
      |[_],_=>rfl)
     have G:¬(2:Int)<(t.length:Int)+1:=by omega
     go_wp2_with (at_builtin;refine bJ rfl _ _ 55 rfl w.heap.size 5 E (.int .u8 0) 1 underlying55 hi n l k rfl _ X.length _ rfl i d d.size [.int .u8 37] 1 rfl rfl (by intro u q;simp at q;subst q;rfl) (by unfold maxLen;omega) (by omega) ?_)
     intro J H f g;clear i d;go_wp2;go_roundw
     case rel=>exact⟨t,X++[37],by simp at r⊢;omega,rfl,by rw[eG,List.length_append];exact f,g,by
       rw[List.append_assoc];have:=D.out;rw[z.out]at this;exact this⟩
     case measure=>simp[lenOf,ak]
    obtain⟨b,c,j,rfl⟩:∃b c j,t=b::c::j:=by
     match t,h3 with
     |b::c::j,_=>exact⟨b,c,j,rfl⟩
     |[],h=>simp at h
     |[_],h=>simp at h
    clear h3;have G:(2:Int)<(((b::c::j).length:Nat):Int)+1:=by simp;omega
    have a1:∀h:1<(ah (37::b::c::j)).size,(ah (37::b::c::j))[1]'h=b:=fun _=>rfl;have a0:∀h:2<(ah (37::b::c::j)).size,(ah (37::b::c::j))[2]'h=c:=fun _=>rfl;have W:(ah (37::b::c::j)).extract 3 ((b::c::j).length+1)=ah j:=by
     have:=str_rest (37::b::c::j) 3 (by simp);rw[y]at this;exact this
    obtain⟨Z,a4⟩:=wo b;obtain⟨V,a3⟩:=wo c;obtain⟨HY,HZ⟩:=Zg 37 b c j;obtain⟨m,T⟩:∃m,m=(b::c::j).length:=⟨_,rfl⟩;have F:m=j.length+2:=by rw[T];simp
    rw[←T]at y Y W G r;have HM:=hid F;clear T F;by_cases hx:hex b.toNat<0
    ·have z:Hid (dec (37::b::c::j)=37::dec (b::c::j)):=lC _ _ (HZ (by intro h;omega));go_wp2_with fail
     refine(Tf _ _).mono ?_;rintro e I ⟨rfl,x⟩;subst x;go_wp2_with (at_builtin;refine bJ rfl _ _ 55 rfl w.heap.size 5 E (.int .u8 0) 1 underlying55 hi n l k rfl _ X.length _ rfl i d d.size [.int .u8 37] 1 rfl rfl (by intro u q;simp at q;subst q;rfl) (by unfold maxLen;omega) (by omega) ?_)
     intro J H f g;clear i d;go_wp2;go_roundw
     case rel=>exact⟨b::c::j,X++[37],by simp;have:=HM.out;omega,rfl,by rw[eG,List.length_append];exact f,g,by
       rw[List.append_assoc];have:=D.out;rw[z.out]at this;exact this⟩
     case measure=>simp[lenOf,ak]
    have O:0≤hex b.toNat:=by omega
    clear hx Z;by_cases hy:hex c.toNat<0
    ·have z:Hid (dec (37::b::c::j)=37::dec (b::c::j)):=lC _ _ (HZ (by intro h;omega));go_wp2_with fail
     refine(Tf _ _).mono ?_;rintro e I ⟨rfl,x⟩;subst x;go_wp2_with fail
     refine(Tf _ _).mono ?_;rintro e I ⟨rfl,x⟩;subst x;go_wp2_with (at_builtin;refine bJ rfl _ _ 55 rfl w.heap.size 5 E (.int .u8 0) 1 underlying55 hi n l k rfl _ X.length _ rfl i d d.size [.int .u8 37] 1 rfl rfl (by intro u q;simp at q;subst q;rfl) (by unfold maxLen;omega) (by omega) ?_)
     intro J H f g;clear i d;go_wp2;go_roundw
     case rel=>exact⟨b::c::j,X++[37],by simp;have:=HM.out;omega,rfl,by rw[eG,List.length_append];exact f,g,by
       rw[List.append_assoc];have:=D.out;rw[z.out]at this;exact this⟩
     case measure=>simp[lenOf,ak]
    have N:0≤hex c.toNat:=by omega
    clear hy V;have z:Hid (dec (37::b::c::j)=UInt8.ofNat (16*hex b.toNat+hex c.toNat).toNat::dec j):=by
     rw[sQ _ _ _ (HY ⟨rfl,O,N⟩)];exact rfl
    have HU:Hid (((UInt8.ofNat (16*hex b.toNat+hex c.toNat).toNat).toNat:Int)=16*hex b.toNat+hex c.toNat):=abE _ (by omega) (by omega);go_wp2_with fail
    refine(Tf _ _).mono ?_;rintro e I ⟨rfl,x⟩;subst x;go_wp2_with fail
    refine(Tf _ _).mono ?_;rintro e I ⟨rfl,x⟩;subst x;have s1:IntKind.i64.wrap (16*hex b.toNat)=16*hex b.toNat:=IntWalk.i64_in _ (by omega);have s2:IntKind.i64.wrap (16*hex b.toNat+hex c.toNat)=16*hex b.toNat+hex c.toNat:=IntWalk.i64_in _ (by omega);have s3:(16*hex b.toNat+hex c.toNat)%256=16*hex b.toNat+hex c.toNat:=by omega
    have s4:IntKind.u8.wrap (16*hex b.toNat+hex c.toNat)=16*hex b.toNat+hex c.toNat:=by rw[IntKind.wrap_u8];omega
    go_wp2;have s5:(1:Int)<(m:Int)+1:=by omega
    go_region_held3 (fun _=>True) (trivial) (first|(go_at_call 198;refine(Tf _ _).mono ?_;rintro e w' ⟨rfl,rfl⟩)|(refine ND (by rfl) _ _ 55 (by rfl) w.heap.size 5 E (.int .u8 0) 1 underlying55 hi n l k (by rfl) _ X.length _ (by rfl) i d d.size [.int .u8 (16*hex b.toNat+hex c.toNat)] 1 (by rfl) (by decide) (by rfl) (one_one _) (by unfold maxLen;omega) (by omega) ⟨⟨rfl,rfl,rfl,Nat.le_refl _,fun _ _=>rfl⟩,fun _=>rfl,by simp⟩ ?_;intro J H f g))
    go_goals
    all_goals
     clear i d s1 s2 s3 s4 s5;go_wp2;go_roundw
     case rel=>exact⟨j,X++[UInt8.ofNat (16*hex b.toNat+hex c.toNat).toNat],by simp;have:=HM.out;omega,rfl,by
       rw[eG,List.length_append];show World.ownsRow _ _ _ _ _ _ (aU X++[Value.int .u8 ((UInt8.ofNat (16*hex b.toNat+hex c.toNat).toNat).toNat:Int)]);rw[HU.out];exact f,g,by
       rw[List.append_assoc];have:=D.out;rw[z.out]at this;exact this⟩
     case measure=>simp[lenOf,ak];omega
   have z:Hid (dec (a::t)=a::dec t):=lC _ _ (by
    match t with
    |[]=>rfl
    |[_]=>rfl
    |_::_::_=>rw[esc,if_neg (by intro h;exact h37 h.1)])
   have L:((a.toNat:Int)==37)=false:=by
    simp;intro h;exact h37 (UInt8.toNat_inj.1 (by simp;omega))
   clear h37;go_wp2_with (at_builtin;refine bJ rfl _ _ 55 rfl w.heap.size 5 E (.int .u8 0) 1 underlying55 hi n l k rfl _ X.length _ rfl i d d.size [.int .u8 (a.toNat:Int)] 1 rfl rfl (by intro u q;simp at q;subst q;rfl) (by unfold maxLen;omega) (by omega) ?_)
   intro J H f g;clear i d;go_wp2;go_roundw
   case rel=>exact⟨t,X++[a],by simp at A⊢;omega,rfl,by rw[eG,List.length_append];exact f,g,by
     rw[List.append_assoc];have:=D.out;rw[z.out]at this;exact this⟩
   case measure=>simp[lenOf,ak]
end abL
namespace yU
open Go.RowKit fA lX qy jq Gv
theorem eY {p:UInt8→Prop} [∀c,Decidable (p c)] (h:∀n:Fin 256,p (UInt8.ofNat n.val)) (c:UInt8):p c:=by
 have:=h ⟨c.toNat,c.toNat_lt⟩;simpa using this
theorem LX {s:List UInt8} {sp:Bool} {R:List UInt8} (h:aS s sp=some R):R.length≤3*s.length+200:=by
 unfold aS at h;split at h
 ·unfold hbr at h;split at h
  ·unfold addr at h;split at h
   ·cases h
   injection h with h
   subst h;simp only[List.length_cons,List.length_append,List.length_nil];unfold Xl;rename_i V _;have:=JJ (fun i=>V.getD i 0);omega
  cases h
 split at h
 ·unfold Oq at h;split at h
  ·unfold Jo at h;split at h
   ·cases h
   split at h
   ·cases hp:Dx (lower (nN.dec s))with
    |none=>rw[hp]at h;cases h
    |some n=>
     rw[hp]at h;injection h with h
     subst h;have:=yx.acW n (FD hp);omega
   injection h with h
   subst h;have:=nN.pU s;simp[lower];omega
  cases h
 unfold Rf at h;split at h
 ·injection h with h
  subst h;have:=aP.fE 0 s;omega
 cases h
end yU
namespace nO
open Go.RowKit Base fA iy mJ Je jr ig fJ jq aC NV
def pl (l:List ByteArray):Nat:=(bZ.aF l).length
structure Fit (u:U) (N:Nat):Prop where
 all:u.au.length+u.bT.length+u.bW.length+u.aS.length+u.txt.length+u.bQ.length+u.dY.length+pl u.aF≤N
 lo: -1≤u.port
 hi:u.port≤65535
theorem Fit.mono {u:U} {N M:Nat} (h:Fit u N) (a:N≤M):Fit u M:=⟨Nat.le_trans h.all a,h.lo,h.hi⟩
theorem FC:pl []=0:=rfl
theorem JH (l:List ByteArray) (s:ByteArray):pl (l++[s])=pl l+1+s.size:=by
 unfold pl;rw[bZ.FH,List.length_append,List.length_cons,show s.data.toList.length=s.size from Array.length_toList];omega
theorem Q9 (l:List ByteArray) (k:Nat):pl (l.take k)≤pl l:=by
 unfold pl;rw[bZ.kE,bZ.kE,List.length_take];have:=bZ.Gf l k;omega
theorem Po (f:Bool) (l:List ByteArray):pl (jd f l)≤pl l:=by
 unfold jd;split
 ·exact Nat.le_refl _
 exact Q9 _ _
theorem adF (f:Bool) (L:List UInt8):(wr f L).length≤3*L.length+1:=by
 unfold wr;split
 ·simp only[List.length_append,List.length_take,List.length_cons,List.length_nil];omega
 have:=aP.fE 4 L;omega
theorem Xe (f a:Bool) (l:List ByteArray) (L:List UInt8):pl (sH f a l L)≤pl l+3*L.length+2:=by
 have c:(ah ([]:List UInt8)).size=0:=rfl;have d:=Po f l;unfold sH;split
 ·split
  ·rw[JH,c];omega
  omega
 split
 ·split
  ·rw[JH,c];omega
  omega
 have:=adF (f&&l.isEmpty) L;rw[JH,ak];omega
theorem Xf (f sp:Bool):∀(M:List UInt8) (l:List ByteArray) (b:List UInt8),pl (wb f sp l b M)≤pl l+3*(b.length+M.length)+2*(M.length+1)
 |[],l,b=>by
  have:=Xe f true l b
  unfold wb
  simp only[List.length_nil]
  omega
 |c::M,l,b=>by
  unfold wb
  split
  ·have a:=Xf f sp M (sH f false l b) []
   have d:=Xe f false l b
   simp only[List.length_nil,List.length_cons]at a⊢
   omega
  ·have a:=Xf f sp M l (b++[c])
   simp only[List.length_append,List.length_nil,List.length_cons]at a⊢
   omega
theorem xH (au:List UInt8) (l:List ByteArray) (s:List UInt8):pl (walk au l s)≤pl l+5*s.length+2:=by
 have:=Xf (decide (au=aB)) (aj au) s l [];unfold walk;simp only[List.length_nil]at this;omega
theorem tC (au s:List UInt8):pl (aG au s)≤5*s.length+2:=by
 unfold aG;split
 ·rw[FC];omega
 have h:=xH au [] (if iL (aj au) s 0=true then s.drop 1 else s);have a:(if iL (aj au) s 0=true then s.drop 1 else s).length≤s.length:=by
  split
  ·rw[List.length_drop];omega
  exact Nat.le_refl _
 rw[FC]at h;omega
theorem Y2 (b:UInt8):∀L:List UInt8,(aT b L).1.length≤L.length∧(aT b L).2.1.length≤L.length
 |[]=>by simp[aT]
 |c::L=>by
  have h:=Y2 b L
  unfold aT
  split
  ·simp
  ·simp only[List.length_cons]
   omega
theorem zo (b:UInt8):∀L:List UInt8,(aT b L).1.length+(aT b L).2.1.length≤L.length
 |[]=>by simp[aT]
 |c::L=>by
  have h:=zo b L
  unfold aT
  split
  ·simp
  ·simp only[List.length_cons]
   omega
theorem E8:∀(L:List UInt8) (p:List UInt8×List UInt8),fZ L=some p→p.1.length+p.2.length+1≤L.length
 |[],p,h=>by cases h
 | c :: L, p, h => by
  unfold fZ at h
  split at h
  ·rename_i q hq
   have:=E8 L q hq
   cases h
   simp only[List.length_cons]
   omega
  ·split at h
   ·cases h
    simp
   ·cases h
theorem Vq (s:List UInt8):(iV s).1.length+(iV s).2.1.length+3*(iV s).2.2.1.length≤3*s.length:=by
 unfold iV;split
 ·simp
 rename_i p hp;have e:=E8 s p hp;have d:=zo 58 p.1;have c:=aP.fE 5 (aT 58 p.1).1;have a:=aP.fE 5 (aT 58 p.1).2.1;simp only;omega
theorem Z5 {au d:List UInt8} {z:Int} (h:prt au d=some z): -1≤z∧z≤65535:=by
 unfold prt at h;split at h
 ·cases h;omega
 split at h
 ·split at h
  ·cases h;omega
  split at h
  ·cases h;omega
  cases h
 cases h
theorem oh {au s:List UInt8} {u:U} {N:Nat} (h:authority au s=some u) (f:au.length+5*s.length+300≤N):Fit u N:=by
 unfold authority at h;obtain⟨_,h⟩:=jE h;obtain⟨_,h⟩:=jE h;have c:(s.take (upto (aj au) s)).length+(s.drop (upto (aj au) s)).length=s.length:=by rw[List.length_take,List.length_drop];omega
 have e:=Vq (s.take (upto (aj au) s));have hh:=pF.DL (iV (s.take (upto (aj au) s))).2.2.1 false;have d:=tC au (s.drop (upto (aj au) s));split at h
 ·rename_i H p e1 e2;have g:=yU.LX e1;have a:=Z5 e2;cases h;refine⟨?_,a.1,a.2⟩;simp only[U0,List.length_nil];omega
 cases h
theorem OG {b:U} {N M:Nat} (a:Fit b M) (l:List ByteArray) (c:M+pl l≤N):Fit {aN b with aF:=l} N:=by
 have:=a.all;refine⟨?_,a.lo,a.hi⟩;simp only[aN,U0,List.length_nil];omega
theorem wu {b:U} {N M:Nat} (a:Fit b M) (l:List ByteArray) (c:M+(pl l - pl b.aF)≤N):Fit {aN b with aF:=l} N:=by
 have:=a.all;refine⟨?_,a.lo,a.hi⟩;simp only[aN,U0,List.length_nil];omega
theorem Hl {b:U} {M:Nat} (a:Fit b M):Fit (along (aN b) b) M:=by
 have:=a.all;refine⟨?_,a.lo,a.hi⟩;simp only[along,aN,U0,List.length_nil];omega
theorem Ai {r:List UInt8} {b u:U} {N M:Nat} (h:dO r b=some u) (a:Fit b M) (e:M+5*r.length+300≤N):Fit u N:=by
 have d:=List.length_drop (i:=2) (l:=r);have c:=(List.dropWhile_sublist (bU true) (l:=r.drop 2)).length_le;unfold dO at h;split at h
 ·refine oh h ?_;have:=a.all;split<;>omega
 injection h with h
 subst h;split
 ·have:=tC b.au r;exact OG a _ (by omega)
 split
 ·exact(Hl a).mono (by omega)
 have g:=xH b.au (jd false b.aF) r;have f:=Po false b.aF;exact wu a _ (by omega)
theorem Gl (l:List ByteArray) {N:Nat} (H:List UInt8) (a:4+pl l+H.length≤N):Fit {uF with aS:=H,aF:=l} N:=by
 refine⟨?_,?_,?_⟩<;>simp[uF,U0,aB];omega
theorem Zh {s:List UInt8} {u:U} {N:Nat} (h:far s=some u) (a:5*s.length+300≤N):Fit u N:=by
 have g:=tC aB s;have f:=tC aB (s.drop (upto true s));have d:(s.take (upto true s)).length+(s.drop (upto true s)).length=s.length:=by rw[List.length_take,List.length_drop];omega
 unfold far at h;split at h
 ·cases h;exact Gl _ [] (by simp only[List.length_nil];omega)
 split at h
 ·cases h;exact Gl _ [] (by simp only[List.length_nil];omega)
 split at h
 ·cases h
 rename_i H e;have c:=yU.LX e;cases h;refine Gl _ _ ?_;split
 ·simp only[List.length_nil];omega
 omega
theorem LG {r:List UInt8} {base:Option U} {u:U} {N M:Nat} (h:file r base=some u) (a:∀b,base=some b→Fit b M) (j:M+5*r.length+300≤N):Fit u N:=by
 unfold file at h;split at h
 ·refine Zh h ?_;rw[List.length_drop];omega
 split at h
 ·injection h with h
  subst h;have c:∀(q:Prop) [Decidable q] (x:List ByteArray),pl (if q then x.take 1 else[])≤pl x:=by
   intro q _ x;split
   ·exact Q9 _ _
   rw[FC];omega
  have g:=List.length_drop (i:=1) (l:=r);cases base with
  |none=>
   have d:=xH aB (if wG ((Option.elim none [] U.aF).head?.elim [] fun x=>x.data.toList)=true∧pR (r.drop 1)=false then(Option.elim none [] U.aF).take 1 else[]) (r.drop 1);have f:=c (wG ((Option.elim none [] U.aF).head?.elim [] fun x=>x.data.toList)=true∧pR (r.drop 1)=false) (Option.elim none [] U.aF);have e:pl (Option.elim none [] U.aF)=0:=rfl;exact Gl _ [] (by simp only[List.length_nil];omega)
  |some b=>
   have a:=a b rfl;have d:=xH aB (if wG ((Option.elim (some b) [] U.aF).head?.elim [] fun x=>x.data.toList)=true∧pR (r.drop 1)=false then(Option.elim (some b) [] U.aF).take 1 else[]) (r.drop 1);have f:=c (wG ((Option.elim (some b) [] U.aF).head?.elim [] fun x=>x.data.toList)=true∧pR (r.drop 1)=false) (Option.elim (some b) [] U.aF);have e:pl (Option.elim (some b) [] U.aF)=pl b.aF:=rfl;exact wu a _ (by omega)
 split at h
 ·injection h with h
  subst h;have c:pl (if pR r=true then[]else jd true [])=0:=by split<;>rfl
  have d:=xH aB (if pR r=true then[]else jd true []) r;exact Gl _ [] (by simp only[List.length_nil];omega)
 rename_i b;have a:=a b rfl;split at h
 ·injection h with h
  subst h;exact(Hl a).mono (by omega)
 injection h with h
 subst h;have c:pl (if pR r=true then[]else jd true b.aF)≤pl b.aF:=by
  split
  ·rw[FC];omega
  exact Po _ _
 have d:=xH aB (if pR r=true then[]else jd true b.aF) r;exact wu a _ (by omega)
theorem ZQ (m:Bool) (s:List UInt8):(aC.bP m s).length≤3*s.length+3:=by
 have h:=aP.fE 0 s;unfold aC.bP Lib.trimSuffix;split
 ·rw[List.length_append];split
  ·rw[List.length_take];simp only[List.length_cons,List.length_nil];omega
  simp only[List.length_cons,List.length_nil];omega
 omega
theorem TR {p:Parts} {u:U} {N:Nat} (h:aC.plain p=some u) (d:p.au.length+5*p.rest.length+300≤N):Fit u N:=by
 have c:=List.length_drop (i:=2) (l:=p.rest);unfold aC.plain at h;split at h
 ·exact oh h (by omega)
 split at h
 ·injection h with h
  subst h;have a:=tC p.au p.rest;refine⟨?_,?_,?_⟩<;>simp[U0];omega
 injection h with h
 subst h;have a:=ZQ (p.hq||p.hf) p.rest;refine⟨?_,?_,?_⟩<;>simp[U0,FC];omega
theorem Na {p:Parts} {base:Option U} {u:U} {N M:Nat} (h:aC.resolve p base=some u) (d:∀b,base=some b→Fit b M) (g:M+p.au.length+5*p.rest.length+300≤N):Fit u N:=by
 have f:=(List.dropWhile_sublist (bU true) (l:=p.rest)).length_le;unfold aC.resolve at h;split at h
 ·refine LG h (fun b e=>d b ?_) (by omega);cases base with
  |none=>cases e
  |some c=>
   simp only[Option.filter]at e;split at e
   ·exact e
   cases e
 split at h
 ·split at h
  ·split at h
   ·exact Ai h (d _ rfl) (by omega)
   exact oh h (by omega)
  exact oh h (by omega)
 split at h
 ·exact TR h (by omega)
 split at h
 ·cases h
 rename_i b;have a:=d b rfl;split at h
 ·unfold jw at h;obtain⟨_,h⟩:=jE h;injection h with h
  subst h;exact a.mono (by omega)
 split at h
 ·exact LG h (fun c e=>by injection e with e;subst e;exact a) (by omega)
 exact Ai h a (by omega)
theorem Oz {u:U} {p:Parts} {N M:Nat} (h:Fit u M) (d:M+3*p.bQ.length+3*p.dY.length≤N):Fit (finish u p) N:=by
 have f:=aP.fE (if aj u.au=true then 3 else 2) p.bQ;have e:=aP.fE 1 p.dY;obtain⟨a,b,c⟩:=h;unfold finish;cases p.hq<;>cases p.hf<;>refine⟨?_,?_,?_⟩<;>simp only[if_true,if_false,Bool.false_eq_true]<;>first|assumption|omega
theorem Si (C:List UInt8):(aC.apart C).au.length+(aC.apart C).rest.length+(aC.apart C).bQ.length+(aC.apart C).dY.length≤C.length:=by
 have d:=zo 35 C;have c:=zo 63 (aT 35 C).1;have a:=zo 58 (aT 63 (aT 35 C).1).1;unfold aC.apart;simp only;split
 ·simp only[lower,List.length_map];omega
 simp only[List.length_nil];omega
theorem RG {s:List UInt8} {base:Option U} {u:U} {M:Nat} (h:aC.url s base=some u) (c:∀b,base=some b→Fit b M):Fit u (M+15*s.length+300):=by
 have e:=KE.qg s;have d:=Si (clean s);unfold aC.url at h;obtain⟨v,a,rfl⟩:=Option.map_eq_some_iff.1 h;exact Oz (Na (N:=M+(aC.apart (clean s)).au.length+5*(aC.apart (clean s)).rest.length+300) a c (Nat.le_refl _)) (by omega)
end nO
namespace yV
open Go.RowKit aC
theorem bV (L:List UInt8) (d c:UInt8):Lib.hasSuffix (L++[d]) [c]=decide (d=c):=by
 rw[Bool.eq_iff_iff];unfold Lib.hasSuffix;rw[List.isSuffixOf_iff_suffix,decide_eq_true_iff];constructor
 ·rintro⟨t,e⟩;exact(List.append_inj' e rfl).2|>fun h=>(List.cons.inj h).1.symm
 rintro rfl;exact⟨L,rfl⟩
theorem jk (L:List UInt8):L=[]∨∃M d,L=M++[d]:=by
 rcases List.eq_nil_or_concat L with h|⟨M,d,h⟩
 ·exact .inl h
 exact .inr ⟨M,d,by simpa using h⟩
theorem CW (L:List UInt8) (h:Lib.hasSuffix L [32]=false):Lib.hasSuffix (aP.enc 0 L) [32]=false:=by
 rcases jk L with rfl|⟨M,d,rfl⟩
 ·rfl
 rw[bV,decide_eq_false_iff_not]at h;rw[aP.oL];have H:∃X y,aP.one 0 d=X++[y]∧y≠32:=by
  unfold aP.one;split
  ·refine⟨[37,aP.lq (d.toNat / 16)],aP.lq (d.toNat%16),rfl,?_⟩;have c:∀n:Fin 16,aP.lq n.val≠32:=by decide
   exact c ⟨_,Nat.mod_lt _ (by decide)⟩
  exact⟨[],_,rfl,h⟩
 obtain⟨X,y,e,a⟩:=H;rw[e,←List.append_assoc,bV,decide_eq_false_iff_not];exact a
end yV
namespace GH
open Go.RowKit aC
def HC (c:UInt8):Prop:=c≠47∧c≠92∧c≠64∧c≠63∧c≠35∧33≤c.toNat∧c.toNat≤126
instance (c:UInt8):Decidable (HC c):=by unfold HC;exact inferInstance
end GH
namespace dJ
open Go.RowKit
section
variable {P:Program} {ops:Array Oper} {Q:Exit→Act→World→Prop}
end
end dJ
namespace UM
open Go.RowKit Base
theorem abz:(prog.info? 79).map (·.size)=some 2:=by kernel_rfl
theorem afp:liesAt prog prog.depth 79 (2 / prog.cellsOf 79) 0 79 1=true:=by kernel_rfl
abbrev UF (B b:Nat) (l:List UInt8) (w:World):Prop:=Lib.IsBuilder 79 5 B b (Lib.byteCells l) w
theorem Ey (b:Nat) (w:World) (c:w.cell? ⟨b,0,none⟩=some (.pointer (some ⟨b,0,none⟩))):
  Calls prog 122 #[.pointer (some ⟨b,0,none⟩)] w fun e w'=>e=.returned (.tuple #[])∧w'=w:=by
 obtain⟨j,a,_⟩:=Option.map_eq_some_iff.1 abz;go_enter func122,ntmps122;go_wp2;rw[Lib.run_neq_ptr_same w _ underlying77 a];go_wp2
 go_end0
 exact⟨rfl,rfl⟩
theorem CQ (b:Nat) (w:World) (g:w.cell? ⟨b,0,none⟩=some (.pointer none)) (a:w.shape? b=some (79,2)) (f:w.frozen? ⟨b,0,none⟩=false):
  Calls prog 122 #[.pointer (some ⟨b,0,none⟩)] w fun e w'=>e=.returned (.tuple #[])∧w'=w.setCell ⟨b,0,none⟩ (.pointer (some ⟨b,0,none⟩)):=by
 obtain⟨j,d,c⟩:=Option.map_eq_some_iff.1 abz;go_enter func122,ntmps122;go_wp2;rw[Lib.run_to_unsafe w ⟨b,0,none⟩ underlying77 underlying139 d (by rw[c];decide) a (Nat.zero_lt_succ 1)];simp only[Result.andThen];rw[Oper.upon_value];go_wp2;rw[run_callFunc_extern func147 (by kernel_rfl) (by kernel_rfl) (by kernel_rfl) (e:=Extern.AbiNoEscape.same) (by kernel_rfl)];rw[Lib.run_noEscape];simp only[Result.andThen];rw[Oper.upon_value];go_wp2;rw[Lib.run_from_unsafe w ⟨b,0,none⟩ underlying139 underlying77 d a afp];simp only[Result.andThen];rw[Oper.upon_value];go_wp2
 go_end0
 exact⟨rfl,rfl⟩
theorem check_any (B b:Nat) (bs:List Value) (w:World) (h:Lib.IsBuilder 79 5 B b bs w):
  Calls prog 122 #[.pointer (some ⟨b,0,none⟩)] w fun e w'=>e=.returned (.tuple #[])∧(Lib.BuilderAt 79 5 B b (.pointer (some ⟨b,0,none⟩)) bs w'∧Below B w w'):=by
 rcases h with h|h
 ·refine(CQ b w h.cell0 h.shape h.frozen0).mono ?_;rintro e w' ⟨rfl,rfl⟩;exact⟨rfl,h.used _,(Below.refl B w).setCell (p:=⟨b,0,none⟩) h.1 _⟩
 ·refine(Ey b w h.cell0).mono ?_;rintro e w' ⟨rfl,rfl⟩;exact⟨rfl,h,Below.refl B _⟩
theorem UE (B b:Nat) (l:List UInt8) (s:ByteArray) (w:World) (h:UF B b l w) (F:l.length+s.size≤140737488355328) (N:B≤w.heap.size):
  Calls prog 66 #[.pointer (some ⟨b,0,none⟩),.string s] w fun e w'=>e=.returned (.tuple #[.int .i64 s.size,.nilIface])∧UF B b (l++s.data.toList) w'∧Below B w w':=by
 obtain⟨J,hi,z,y,x⟩:=info_parts rD;have n:(Lib.byteCells l).length=l.length:=by simp[Lib.byteCells]
 have q:=Base.hid n;clear n;go_enter func66,ntmps66;go_wp2_with (refine(check_any B b _ _ h).mono ?_)
 rintro e t ⟨rfl,O,j⟩;obtain⟨G,v,d,i,C⟩:=O;have Y:t.cell? ⟨b,0,none⟩=some (.pointer (some ⟨b,0,none⟩)):=by rw[Lib.cell_of_heap d];rfl
 have X:t.cell? ⟨b,1,none⟩=some v:=by rw[Lib.cell_of_heap d];rfl
 go_wp2_with (at_builtin;refine Lib.wpList_append_own_string _ rfl _ _ 55 9 rfl B 5 J underlying55 underlying9 hi z y x _ _ _ rfl i s rfl ?c3 ?c4 ?c5 ?_)
 case c3=>have:=q.out;unfold maxLen;omega
 case c4=>have:=q.out;omega
 case c5=>have:=j.size;omega
 intro I r a c _;have D:b<t.heap.size:=(Array.getElem?_eq_some_iff.1 d).1;have f:r.heap[b]?=some (.cells #[.pointer (some ⟨b,0,none⟩),v] 79 (0,0)):=by
  rw[c.block b D (fun e=>C e.symm)];exact d
 have W:r.cell? ⟨b,0,none⟩=some (.pointer (some ⟨b,0,none⟩)):=by rw[Lib.cell_of_heap f];rfl
 have V:r.cell? ⟨b,1,none⟩=some v:=by rw[Lib.cell_of_heap f];rfl
 have Q:r.frozen? ⟨b,1,none⟩=false:=Lib.frozen_of_heap f 1;obtain⟨H,E,m,rfl⟩:∃H E m,I=.slice H E m:=by
  rcases a.2 with⟨A,_⟩|⟨g,m,P,A,_⟩
  ·exact⟨_,_,_,A⟩
  ·exact⟨_,_,_,A⟩
 go_wp2;go_ret2;refine⟨rfl,Or.inr ?_,?_⟩
 ·have L:=Lib.BuilderAt.put (T:=79) (e:=5) G f (bs':=Lib.byteCells l++Lib.strCells s) (by simpa[Lib.strCells_length]using a) (by decide);have e:Lib.byteCells (l++s.data.toList)=Lib.byteCells l++Lib.strCells s:=by simp[Lib.byteCells,Lib.strCells]
  rw[e];exact L
 ·exact(j.grown c (by have:=j.size;omega) (fun k hk=>(i.lt k hk).1)).setCell (p:=⟨b,1,none⟩) G _
end UM
namespace YT
open Go.RowKit Base aV bZ UM
theorem F8 (B b:Nat) (l:List UInt8) (w:World) (h:UF B b l w) (a:B≤w.heap.size):
  Calls prog 67 #[.pointer (some ⟨b,0,none⟩)] w fun e w'=>e=.returned (.string (ah l))∧Below B w w':=Tryz.Builder_String B b l w h a
theorem MH (s0 s1 s2 s3:ByteArray) (b4:Bool) (Z:Int) (J:Bool) (D:ByteArray) (A:Option Addr) (n r:Nat) (l:List ByteArray) (b9 L:Bool) (F E:ByteArray) (w:World) (C:dW w A n (l.map Value.string)) (a2:n≤r) (I:r≤maxLen) (h7:D.size≤1073741824) (T:(aF l).length≤1073741824):
  Calls prog 18 #[.agg #[.string s0,.string s1,.string s2,.string s3,.bool b4,.int .i64 Z,.bool J,.string D,.slice A n r,.bool b9,.bool L,.string F,.string E]] w fun e w'=>e=.returned (.string (ah (kG J D l)))∧Below w.heap.size w w':=by
 have G:l.length=n:=by rw[←C.1,List.length_map]
 have a:=kE l;unfold maxLen at I;cases J with
 |true=>
  clear G a;clear C;go_enter func18,ntmps18;go_wp2;go_ret;exact⟨rfl,(Below.refl _ _).alloc (Nat.le_refl _) _⟩
 | false=>
  have HR:=hid C;have W:=hid G;have N:=hid a;have O:=hid T;clear C G a T;go_enter func18,ntmps18;go_wp2;generalize hw1:w.alloc _=w1;have x:Below w.heap.size w w1:=by rw[←hw1];exact(Below.refl _ _).alloc (Nat.le_refl _) _
  have m:w1.heap.size=w.heap.size+1:=by rw[←hw1];simp
  clear hw1;have Q:Hid (UF (w.heap.size+1) (w.heap.size+1) [] (w1.alloc (.cells #[.pointer none,.slice none 0 0] 79))):=by
   have h:=Lib.fresh_isBuilder 79 5 w1;rw[m]at h;exact h
  go_loopw [5,13] (fun _ vk wr=>∃k:Nat,k≤n∧vk=.int .i64 (k:Int)∧Hid (UF (w.heap.size+1) (w.heap.size+1) (aF (l.take k)) wr)∧Hid (Below (w.heap.size+1) w1 wr)) (fun _ vk _=>n - (intOf vk).toNat)
  case atStart=>exact⟨0,Nat.zero_le _,rfl,Q,(Below.refl _ _).alloc (by rw[m];exact Nat.le_refl _) _⟩
  case round=>
   obtain⟨k,hk,rfl,Y,f⟩:=hrel;have t:w.heap.size+1≤wr.heap.size:=by have:=f.size;rw[m]at this;exact this
   by_cases hlt:k<n
   ·have d:k<l.length:=by rw[W.out];exact hlt
    have y:=HR.below (x.trans (f.mono (by omega)));obtain⟨g,off,rfl,hg,c⟩:=y.spot (by omega);have V:=c k (by rw[List.length_map];exact d);rw[List.getElem_map]at V;obtain⟨s,B⟩:∃s,s=l[k]:=⟨_,rfl⟩;have HS:Hid (l.take (k+1)=l.take k++[s]):=by rw[B];exact fQ l k d
    rw[←B]at V;have i:=X9 l k d;have j:=Gf l (k+1);have v:=kE (l.take k);rw[List.length_take,Nat.min_eq_left (by omega)]at v;have a:=N.out;have H:=O.out;rw[←B]at i;have a0:s.size≤1073741824:=by omega
    have a1:∀w:World,(Op.stringOp .add ⟨#[47]⟩ s).run prog w=.ok (.string (ah ([47]++s.data.toList))) w:=fun w=>iO ⟨#[47]⟩ s w (by show 1+s.size≤_;omega);have z:Hid ((aF (l.take k)).length+(1+s.size)≤140737488355328):=by show _≤_;omega
    clear B i j v a H y c d;go_wp2_with (refine(UE _ _ _ _ _ Y (by rw[ak];have:=z.out;simp at this⊢;omega) t).mono ?_;rintro e w3 ⟨rfl,P,q⟩)
    go_roundw
    case rel=>exact⟨k+1,by omega,by go_num,by
     rw[HS.out,FH];exact P,f.trans q⟩
    case measure=>simp[intOf];omega
   ·obtain rfl:k=n:=by omega
    have HT:Hid (l.take k=l):=List.take_of_length_le (by rw[W.out];exact Nat.le_refl _);go_wp2_with (refine(F8 _ _ _ _ Y t).mono ?_;rintro e w3 ⟨rfl,q⟩)
    go_ret;exact⟨congrArg (fun X=>Ending.returned (.string (ah (aF X)))) HT,x.trans ((f.trans q).mono (by omega))⟩
end YT
namespace Bc
open Go.RowKit Base
def Box (w:World) (b:Nat) (c:Array Value):Prop:=w.heap[b]?=some (.cells c 25 (0,0))
theorem Box.cell {w:World} {b:Nat} {c:Array Value} (h:Box w b c) (i:Nat):w.cell? ⟨b,i,none⟩=c[i]?:=cell_of_row w b i _ _ _ h
theorem Qe {w:World} {b:Nat} {q n m l k j i g f e d c a:Value} (h:Box w b #[q,n,m,l,k,j,i,g,f,e,d,c,a]):
  w.cell? ⟨b,0,none⟩=some q∧w.cell? ⟨b,1,none⟩=some n∧w.cell? ⟨b,2,none⟩=some m∧w.cell? ⟨b,3,none⟩=some l∧w.cell? ⟨b,4,none⟩=some k∧w.cell? ⟨b,5,none⟩=some j∧w.cell? ⟨b,6,none⟩=some i∧w.cell? ⟨b,7,none⟩=some g∧w.cell? ⟨b,8,none⟩=some f∧w.cell? ⟨b,9,none⟩=some e∧w.cell? ⟨b,10,none⟩=some d∧w.cell? ⟨b,11,none⟩=some c∧w.cell? ⟨b,12,none⟩=some a:=
 ⟨(h.cell 0).trans rfl,(h.cell 1).trans rfl,(h.cell 2).trans rfl,(h.cell 3).trans rfl,(h.cell 4).trans rfl,(h.cell 5).trans rfl,(h.cell 6).trans rfl,(h.cell 7).trans rfl,(h.cell 8).trans rfl,(h.cell 9).trans rfl,(h.cell 10).trans rfl,(h.cell 11).trans rfl,(h.cell 12).trans rfl⟩
theorem L8 (z:Int) (d: -9223372036854775808≤z) (c:z≤9223372036854775807) (w:World) (a:Tab.Pow w):
  Calls prog 21 #[.int .i64 z] w fun e w'=>e=.returned (.string (ah (Lib.itoa z)))∧Below w.heap.size w w':=
 (strconv_Itoa z d c w a).mono fun e w' ⟨he,k,os,hw⟩=>⟨he,by rw[hw];exact Tab.below_grow w k os⟩
theorem nS (k:Nat):∀n,n<10^(k+1)→(Lib.decDigits n).length≤k+1:=by
 induction k with
 |zero=>intro n h;rw[Lib.decDigits,dif_pos (by omega)];simp
 |succ k ih=>
  intro n h;rw[Lib.decDigits];split
  ·simp
  have:=ih (n / 10) (by rw[Nat.pow_succ]at h;omega);rw[List.length_append];simp;omega
theorem EX (z:Int) (c: -9223372036854775808≤z) (a:z≤9223372036854775807):(Lib.itoa z).length≤20:=by
 unfold Lib.itoa;split
 ·have:=nS 18 z.natAbs (by omega);simp;omega
 have:=nS 18 z.toNat (by omega);omega
end Bc
