/- Texts that belong together: Hz, acr, agU, J5, acK, ND, aj8. -/
import Derived.Test.YtgamccijegollaaGreatDoorFNAAE
import Derived.IntWalk
import Derived.Test.YtgamccijegollaaGreatDoorFNAAG
import Derived.Test.YtgamccijegollaaGreatDoorFNAAK
import Derived.Lib.TrimUEq
import Derived.Lib.SpaceUEq
import Derived.Lib.TrimAscii
import Derived.Lib.MapU
import Derived.Shelf.GgClosure.StringsTrimFunc
import Derived.Test.YtgamccijegollaaGreatDoorFNAAI
import Derived.Test.YtgamccijegollaaGreatDoorFNAAL
import Derived.Test.YtgamccijegollaaGreatDoorFNAAM
import Derived.Test.YtgamccijegollaaGreatDoorFNAAJ
set_option linter.unusedSimpArgs false
set_option linter.unusedVariables false
set_option maxRecDepth 100000
set_option maxHeartbeats 64000000
namespace Go.Proofs.YtgamccijegollaaGreatDoor.Hz
open Go.RowKit Base zD FM fU dI
theorem Ir (n:Nat) (h:n<16):hex (FM.jR n).toNat=n:=by
 have H:∀k:Fin 16,hex ((FM.jR k.val).toNat:Int)=(k.val:Int):=by decide
 exact H ⟨n,h⟩
theorem fA (k:Int) (c:UInt8) (L:List UInt8):enc k (c::L)=one k c++enc k L:=by simp[enc]
theorem lV (k:Int) (L:List UInt8) (h:∀c ∈ L,ji k c.toNat=false):enc k L=L:=by
 induction L with
 |nil=>rfl
 |cons c L ih=>
  rw[fA,ih (fun d hd=>h d (by simp[hd]))]
  unfold one
  rw[h c (by simp)]
  rfl
theorem N9 (c:UInt8) (rest:List UInt8):esc (37::FM.jR (c.toNat / 16)::FM.jR (c.toNat%16)::rest)=some c:=by
 have hc:=c.toNat_lt
 have h1:=Ir (c.toNat / 16) (by omega)
 have h2:=Ir (c.toNat%16) (by omega)
 rw[esc,if_pos ⟨rfl,by rw[h1];omega,by rw[h2];omega⟩,h1,h2]
 congr 1
 apply UInt8.toNat_inj.1
 simp
 omega
theorem zZ (x:UInt8) (t:List UInt8) (h:x≠37):esc (x::t)=none:=by
 match t with
 |[]=>rfl
 |[_]=>rfl
 |_::_::_=>rw[esc,if_neg (fun e=>h e.1)]
end Go.Proofs.YtgamccijegollaaGreatDoor.Hz
namespace Go.Proofs.YtgamccijegollaaGreatDoor.acr
open Go.RowKit Base qh BI acU wS
theorem un (x:Int) (h0:0≤x) (h1:x≤255):(u x).toNat=x.toNat:=by have:=jw x h0 h1;omega
theorem aaf (r:Int) (h:Cc r):(r≤127∧Lib.encodeRune r=[u r])∨(128≤r∧∃a b:UInt8,Lib.encodeRune r=[a,b]∧192≤a.toNat∧b.toNat / 64=2)∨
  (128≤r∧∃a b c:UInt8,Lib.encodeRune r=[a,b,c]∧192≤a.toNat∧b.toNat / 64=2∧c.toNat / 64=2)∨(128≤r∧∃a b c d:UInt8,Lib.encodeRune r=[a,b,c,d]∧192≤a.toNat∧b.toNat / 64=2∧c.toNat / 64=2∧d.toNat / 64=2):=by
 obtain⟨h0,h1,h2⟩:=h
 by_cases a:r≤127
 ·exact .inl ⟨a,enc1 r h0 a⟩
 by_cases b:r≤2047
 ·refine .inr (.inl ⟨by omega,_,_,enc2 r (by omega) b,?_,?_⟩)
  ·rw[un _ (by omega) (by omega)];omega
  ·rw[un _ (by omega) (by omega)];omega
 by_cases c:r≤65535
 ·refine .inr (.inr (.inl ⟨by omega,_,_,_,enc3 r (by omega),?_,?_,?_⟩))
  ·rw[un _ (by omega) (by omega)];omega
  ·rw[un _ (by omega) (by omega)];omega
  ·rw[un _ (by omega) (by omega)];omega
 ·refine .inr (.inr (.inr ⟨by omega,_,_,_,_,enc4 r (by omega) h1,?_,?_,?_,?_⟩))
  ·rw[un _ (by omega) (by omega)];omega
  ·rw[un _ (by omega) (by omega)];omega
  ·rw[un _ (by omega) (by omega)];omega
  ·rw[un _ (by omega) (by omega)];omega
theorem Dj (r:Int) (h:Cc r) (t:List UInt8):Lib.decodeN (Lib.encodeRune r++t).length ((Lib.encodeRune r++t).getD 0 0).toNat ((Lib.encodeRune r++t).getD 1 0).toNat ((Lib.encodeRune r++t).getD 2 0).toNat ((Lib.encodeRune r++t).getD 3 0).toNat=(r.toNat,(Lib.encodeRune r).length):=by
 obtain⟨h0,h1,h2⟩:=h
 by_cases a:r≤127
 ·rw[enc1 r h0 a]
  simp only[List.cons_append,List.nil_append,List.getD_cons_zero,un r h0 (by omega),Lib.decodeN]
  rw[if_pos (by omega)]
  rfl
 by_cases b:r≤2047
 ·rw[enc2 r (by omega) b]
  simp only[List.cons_append,List.nil_append,List.getD_cons_zero,List.getD_cons_succ,un (192+r / 64) (by omega) (by omega),un (128+r%64) (by omega) (by omega),Lib.decodeN,List.length_cons,List.length_nil]
  rw[if_neg (by omega),if_pos (by omega),if_pos (by omega)]
  refine Prod.ext ?_ rfl
  simp only
  omega
 by_cases c:r≤65535
 ·rw[enc3 r (by omega)]
  simp only[List.cons_append,List.nil_append,List.getD_cons_zero,List.getD_cons_succ,un (224+r / 4096) (by omega) (by omega),un (128+r / 64%64) (by omega) (by omega),un (128+r%64) (by omega) (by omega),Lib.decodeN,List.length_cons,List.length_nil]
  rw[if_neg (by omega),if_neg (by omega),if_pos (by omega),if_pos (by omega)]
  refine Prod.ext ?_ rfl
  simp only
  omega
 rw[enc4 r (by omega) h1]
 simp only[List.cons_append,List.nil_append,List.getD_cons_zero,List.getD_cons_succ,un (240+r / 262144) (by omega) (by omega),un (128+r / 4096%64) (by omega) (by omega),un (128+r / 64%64) (by omega) (by omega),un (128+r%64) (by omega) (by omega),Lib.decodeN,List.length_cons,List.length_nil]
 rw[if_neg (by omega),if_neg (by omega),if_neg (by omega),if_pos (by omega),if_pos (by omega)]
 refine Prod.ext ?_ rfl
 simp only
 omega
theorem wL (r:Int) (h:Cc r) (t:List UInt8):Lib.decodeL (Lib.encodeRune r++t)=(r.toNat,(Lib.encodeRune r).length):=by rw[Lib.decodeL_N];exact Dj r h t
theorem last4 (t:List UInt8) (c0 c1 c2 c3:UInt8) (h3:128≤c3.toNat) (h2:Lib.runeStartB c2=false) (h1:Lib.runeStartB c1=false) (h0:Lib.runeStartB c0=true) (hd:(Lib.decodeL [c0,c1,c2,c3]).2=4):Lib.decodeLastL (t++[c0,c1,c2,c3])=Lib.decodeL [c0,c1,c2,c3]:=by
 have g1:=Lib.getD_app_end t [c0,c1,c2,c3] 1 (by omega) (by simp)
 have g2:=Lib.getD_app_end t [c0,c1,c2,c3] 2 (by omega) (by simp)
 have g3:=Lib.getD_app_end t [c0,c1,c2,c3] 3 (by omega) (by simp)
 have g4:=Lib.getD_app_end t [c0,c1,c2,c3] 4 (by omega) (by simp)
 have hl:(t++[c0,c1,c2,c3]).length=t.length+4:=by simp
 have hs:Lib.lastStart (t++[c0,c1,c2,c3])=(t++[c0,c1,c2,c3]).length - 4:=by
  unfold Lib.lastStart
  simp only[g2,g3,g4]
  rw[if_neg (by omega)]
  simp only[List.length_cons,List.length_nil,List.getD_cons_succ,List.getD_cons_zero,Nat.reduceAdd,Nat.reduceSub,h2,h1,h0,Bool.false_eq_true,if_false,if_true]
  rw[if_neg (by omega),if_neg (by omega)]
 have hdrop:=Lib.drop_app_end t [c0,c1,c2,c3]
 unfold Lib.decodeLastL
 rw[if_neg (by simp),g1,if_neg (by simp;omega),hs]
 simp only[List.length_cons,List.length_nil]at hdrop
 simp only[hdrop,hd]
 rw[if_pos (by omega)]
theorem RQ {c:UInt8} (h:c.toNat / 64=2):Lib.runeStartB c=false:=by unfold Lib.runeStartB;rw[h];rfl
theorem LM {c:UInt8} (h:192≤c.toNat):Lib.runeStartB c=true:=by
 unfold Lib.runeStartB
 have:=c.toNat_lt
 have h2:c.toNat / 64≠2:=by omega
 simpa using h2
theorem Di (r:Int) (h:Cc r) (t:List UInt8):Lib.decodeLastL (t++Lib.encodeRune r)=(r.toNat,(Lib.encodeRune r).length):=by
 have hd:=wL r h []
 rw[List.append_nil]at hd
 rcases aaf r h with⟨h1,e⟩|⟨_,a,b,e,ha,hb⟩|⟨_,a,b,c,e,ha,hb,hc⟩|⟨_,a,b,c,d,e,ha,hb,hc,hdd⟩
 ·rw[e]at hd⊢
  rw[Lib.decodeLastL_ascii t _ (by rw[un r h.1 (by omega)];have:=h.1;omega),un r h.1 (by omega)]
  rfl
 ·rw[e]at hd⊢
  rw[Lib.last2 t a b (by omega) (LM ha) (by rw[hd];rfl),hd]
 ·rw[e]at hd⊢
  rw[Lib.last3 t a b c (by omega) (RQ hb) (LM ha) (by rw[hd];rfl),hd]
 rw[e]at hd⊢
 rw[last4 t a b c d (by omega) (RQ hc) (RQ hb) (LM ha) (by rw[hd];rfl),hd]
def jG (l:List Int):Prop:=∀r ∈ l,Cc r
theorem iQ (a b:List Int):enc (a++b)=enc a++enc b:=by simp[enc]
theorem oV (r:Int):enc [r]=Lib.encodeRune r:=by simp[enc]
theorem dl (s:ByteArray):s.data.toList.length=s.size:=Array.length_toList
theorem ak5 (a b:List Int) (r:Int) (h:Cc r) (S:ByteArray) (hS:S.data.toList=enc (a++r::b)):Utf8.decode S (enc a).length=(r.toNat,(Lib.encodeRune r).length):=by
 rw[←Lib.decodeL_drop,hS,iQ,List.drop_left,fA]
 exact wL r h _
def bl (r:Int):Bool:=decide (r≤32)
def pn (r:Nat):Bool:=decide (r≤32)
theorem pn_bl (r:Int) (h:0≤r):pn r.toNat=bl r:=by unfold pn bl;congr 1;rw[eq_iff_iff];omega
theorem D8 (r:Int):0<(Lib.encodeRune r).length:=by have:=(Jy r).1;omega
theorem aaD (S:ByteArray):∀(b a:List Int) (f:Nat),S.data.toList=enc (a++b)→jG b→b.length<f→
  Lib.idxFuncFrom pn false S f (enc a).length=if b.all bl=true then -1 else(((enc a).length+(enc (b.takeWhile bl)).length:Nat):Int)
 |[],a,f,hS,_,_=>by
  rw[List.append_nil]at hS
  have hsz:S.size=(enc a).length:=by rw[←dl,hS]
  rw[Lib.idxFuncFrom_end _ _ _ _ _ (by omega)]
  rfl
 | r :: b, a, f, hS, hC, hf => by
  obtain⟨g,rfl⟩:∃g,f=g+1:=⟨f - 1,by simp at hf;omega⟩
  have hr:=hC r (by simp)
  have hd:=ak5 a b r hr S hS
  have hsz:(enc a).length<S.size:=by
   rw[←dl,hS,iQ,List.length_append,fA,List.length_append]
   have:=D8 r
   omega
  rw[Lib.idxFuncFrom,if_pos hsz,hd]
  simp only[pn_bl r hr.1]
  cases hb:bl r with
  |false=>simp[hb,enc]
  |true=>
   rw[if_neg (by simp)]
   have ih:=aaD S b (a++[r]) g (by rw[hS];simp) (fun x hx=>hC x (by simp[hx])) (by simp at hf;omega)
   rw[iQ,oV,List.length_append]at ih
   rw[ih]
   simp only[List.all_cons,hb,Bool.true_and,List.takeWhile_cons,if_true,fA,List.length_append]
   split
   ·rfl
   ·congr 1
    omega
theorem Vu (S:ByteArray) (m:List Int):∀(n:Nat) (l:List Int) (f:Nat),l.length=n→S.data.toList=enc (l++m)→jG l→n<f→
  (l.all bl=true∧Lib.lastIdxFuncFrom pn false S f (enc l).length= -1)∨∃l1 r l2,l=l1++r::l2∧bl r=false∧l2.all bl=true∧Lib.lastIdxFuncFrom pn false S f (enc l).length=((enc l1).length:Int)
 |0,l,f,hl,_,_,_=>by
  obtain rfl:=List.eq_nil_of_length_eq_zero hl
  exact .inl ⟨rfl,Lib.lastIdxFuncFrom_zero _ _ _ _⟩
 |n+1,l,f,hl,hS,hC,hf=>by
  obtain⟨g,rfl⟩:∃g,f=g+1:=⟨f - 1,by omega⟩
  have hne:l≠[]:=by rintro rfl;simp at hl
  obtain⟨k,r,rfl⟩:∃k r,l=k++[r]:=⟨_,_,(List.dropLast_concat_getLast hne).symm⟩
  have hr:=hC r (by simp)
  have htk:S.data.toList.take (enc (k++[r])).length=enc k++Lib.encodeRune r:=by rw[hS,iQ (k++[r]),List.take_left,iQ,oV]
  have hp:0<(enc (k++[r])).length:=by rw[iQ,List.length_append,oV];have:=D8 r;omega
  rw[Lib.lastIdxFuncFrom,if_pos hp,htk,Di r hr]
  simp only[pn_bl r hr.1]
  have hlen:(enc (k++[r])).length - (Lib.encodeRune r).length=(enc k).length:=by rw[iQ,List.length_append,oV];omega
  rw[hlen]
  cases hb:bl r with
  |false=>
   rw[if_pos rfl]
   exact .inr ⟨k,r,[],rfl,hb,rfl,rfl⟩
  |true=>
   rw[if_neg (by simp)]
   simp at hl
   rcases Vu S ([r]++m) n k g hl (by rw[hS];simp) (fun x hx=>hC x (by simp[hx])) (by omega)with⟨h1,h2⟩|⟨l1,q,l2,h1,h2,h3,h4⟩
   ·exact .inl ⟨by simp[h1,hb],h2⟩
   ·exact .inr ⟨l1,q,l2++[r],by rw[h1];simp,h2,by simp[h3,hb],h4⟩
def XM (l:List Int):List Int:=((l.dropWhile bl).reverse.dropWhile bl).reverse
theorem ald {p:Int→Bool} {l:List Int} (h:l.all p=true):l.dropWhile p=[]:=by
 induction l with
 |nil=>rfl
 |cons x l ih=>
  simp only[List.all_cons,Bool.and_eq_true]at h
  rw[List.dropWhile_cons,if_pos h.1]
  exact ih h.2
theorem dw_app {p:Int→Bool} {a:List Int} (b:List Int) (h:a.all p=true):(a++b).dropWhile p=b.dropWhile p:=by
 induction a with
 |nil=>rfl
 |cons x l ih=>
  simp only[List.all_cons,Bool.and_eq_true]at h
  rw[List.cons_append,List.dropWhile_cons,if_pos h.1]
  exact ih h.2
theorem trR (l1 l2:List Int) (r:Int) (h:bl r=false) (h2:l2.all bl=true):((l1++r::l2).reverse.dropWhile bl).reverse=l1++[r]:=by
 rw[List.reverse_append,List.reverse_cons,List.append_assoc,dw_app _ (by simpa using h2),List.singleton_append,List.dropWhile_cons,h]
 simp
theorem agy (l:List Int):l=l.takeWhile bl++l.dropWhile bl:=List.takeWhile_append_dropWhile.symm
theorem amm (l:List Int) (hC:jG l):Lib.trimLeftF pn (strOf (enc l))=strOf (enc (l.dropWhile bl)):=by
 have hf:l.length≤(enc l).length:=(iW l).2
 have hsz:(strOf (enc l)).size=(enc l).length:=o9 _
 unfold Lib.trimLeftF Lib.idxFunc
 by_cases hl:l=[]
 ·subst hl
  rfl
 have hlt:0<l.length:=List.length_pos_iff.2 hl
 have h:=aaD (strOf (enc l)) l [] ((strOf (enc l)).size+1) rfl hC (by omega)
 have hmore:Lib.idxFuncFrom pn false (strOf (enc l)) (strOf (enc l)).size (enc []).length=Lib.idxFuncFrom pn false (strOf (enc l)) ((strOf (enc l)).size+1) (enc []).length:=aaE (strOf (enc l)) l [] _ _ rfl hC (by omega) (by omega)
 rw[show(0:Nat)=(enc []).length from rfl,hmore,h]
 by_cases ha:l.all bl=true
 ·rw[if_pos ha,if_pos rfl,ald ha]
  rfl
 rw[if_neg ha,if_neg (by omega)]
 apply ByteArray.ext
 apply Array.ext'
 show((strOf (enc l)).extract _ _).data.toList=_
 rw[hsz]
 have e:((((enc ([]:List Int)).length+(enc (l.takeWhile bl)).length:Nat):Int)).toNat=(enc (l.takeWhile bl)).length:=by rw[show(enc ([]:List Int)).length=0 from rfl,Nat.zero_add,Int.toNat_natCast]
 rw[e]
 have hx:((strOf (enc l)).extract (enc (l.takeWhile bl)).length (enc l).length).data.toList=(enc l).drop (enc (l.takeWhile bl)).length:=by
  rw[ByteArray.data_extract]
  simp only[strOf,Array.toList_extract,List.extract_eq_take_drop]
  exact List.take_of_length_le (by rw[List.length_drop];exact Nat.le_refl _)
 rw[hx]
 have hs:enc l=enc (l.takeWhile bl)++enc (l.dropWhile bl):=by rw[←iQ,←agy]
 have hs2:=congrArg (List.drop (enc (l.takeWhile bl)).length) hs
 rw[List.drop_left]at hs2
 exact hs2
where
 aaE (S:ByteArray):∀(b a:List Int) (f g:Nat),S.data.toList=enc (a++b)→jG b→b.length≤f→b.length≤g→Lib.idxFuncFrom pn false S f (enc a).length=Lib.idxFuncFrom pn false S g (enc a).length
  |[],a,f,g,hS,_,_,_=>by
   rw[List.append_nil]at hS
   have hsz:S.size=(enc a).length:=by rw[←dl,hS]
   rw[Lib.idxFuncFrom_end _ _ _ _ _ (by omega),Lib.idxFuncFrom_end _ _ _ _ _ (by omega)]
  |r::b,a,f,g,hS,hC,hf,hg=>by
   obtain⟨f',rfl⟩:∃g,f=g+1:=⟨f - 1,by simp at hf;omega⟩
   obtain⟨g',rfl⟩:∃f,g=f+1:=⟨g - 1,by simp at hg;omega⟩
   have hr:=hC r (by simp)
   have hd:=ak5 a b r hr S hS
   have ih:=aaE S b (a++[r]) f' g' (by rw[hS];simp) (fun x hx=>hC x (by simp[hx])) (by simp at hf;omega) (by simp at hg;omega)
   rw[iQ,oV,List.length_append]at ih
   rw[Lib.idxFuncFrom,Lib.idxFuncFrom,hd,ih]
theorem aiA (l:List Int) (hC:jG l):Lib.trimRightF pn (strOf (enc l))=strOf (enc (l.reverse.dropWhile bl).reverse):=by
 have hf:l.length≤(enc l).length:=(iW l).2
 have hsz:(strOf (enc l)).size=(enc l).length:=o9 _
 unfold Lib.trimRightF Lib.rightEndF Lib.lastIdxFunc
 have hx:∀k,((strOf (enc l)).extract 0 k).data.toList=(enc l).take k:=fun k=>by
  rw[ByteArray.data_extract]
  simp[strOf,Array.toList_extract,List.extract_eq_take_drop]
 by_cases hl:l=[]
 ·subst hl
  rfl
 have hfu:=Vw (strOf (enc l)) [] l.length l (strOf (enc l)).size ((strOf (enc l)).size+1) rfl (by rw[List.append_nil];rfl) hC (by omega) (by omega)
 rw[←hsz]at hfu
 rw[hfu]
 rw[hsz]
 rcases Vu (strOf (enc l)) [] l.length l ((enc l).length+1) rfl (by rw[List.append_nil];rfl) hC (by omega)with⟨h1,h2⟩|⟨l1,r,l2,h1,h2,h3,h4⟩
 ·rw[h2,if_neg (by omega)]
  apply ByteArray.ext
  apply Array.ext'
  rw[hx,List.take_zero,ald (by simpa using h1)]
  rfl
 rw[h4,if_pos (by omega)]
 have hr:=hC r (by rw[h1];simp)
 have hdd:Lib.decodeGoB ((strOf (enc l)).extract (enc l1).length (enc l).length)=(r.toNat,(Lib.encodeRune r).length):=by
  have he:((strOf (enc l)).extract (enc l1).length (enc l).length).data.toList=Lib.encodeRune r++enc l2:=by
   rw[ByteArray.data_extract]
   simp only[strOf,Array.toList_extract,List.extract_eq_take_drop]
   rw[h1,iQ,List.drop_left,fA,List.take_of_length_le (by simp)]
  have hs2:((strOf (enc l)).extract (enc l1).length (enc l).length).size≠0:=by
   rw[←dl,he,List.length_append]
   have:=D8 r
   omega
  unfold Lib.decodeGoB
  rw[if_neg hs2,←Lib.decodeL_drop,List.drop_zero,he]
  exact wL r hr _
 have e:(((enc l1).length:Nat):Int).toNat=(enc l1).length:=by simp
 rw[e,hdd]
 apply ByteArray.ext
 apply Array.ext'
 rw[hx]
 have e2:(l.reverse.dropWhile bl).reverse=l1++[r]:=by rw[h1];exact trR l1 l2 r h2 h3
 rw[e2]
 show _=enc (l1++[r])
 conv=>lhs;rw[h1]
 have e3:enc (l1++r::l2)=enc (l1++[r])++enc l2:=by rw[←iQ];simp
 rw[e3]
 have e4:(enc l1).length+(Lib.encodeRune r).length=(enc (l1++[r])).length:=by rw[iQ,oV,List.length_append]
 rw[e4,List.take_left]
where
 Vw (S:ByteArray) (m:List Int):∀(n:Nat) (l:List Int) (f g:Nat),l.length=n→S.data.toList=enc (l++m)→jG l→n≤f→n≤g→Lib.lastIdxFuncFrom pn false S f (enc l).length=Lib.lastIdxFuncFrom pn false S g (enc l).length
  |0,l,f,g,hl,_,_,_,_=>by
   obtain rfl:=List.eq_nil_of_length_eq_zero hl
   rw[show(enc ([]:List Int)).length=0 from rfl,Lib.lastIdxFuncFrom_zero,Lib.lastIdxFuncFrom_zero]
  |n+1,l,f,g,hl,hS,hC,hf,hg=>by
   obtain⟨f',rfl⟩:∃g,f=g+1:=⟨f - 1,by omega⟩
   obtain⟨g',rfl⟩:∃f,g=f+1:=⟨g - 1,by omega⟩
   have hne:l≠[]:=by rintro rfl;simp at hl
   obtain⟨k,r,rfl⟩:∃k r,l=k++[r]:=⟨_,_,(List.dropLast_concat_getLast hne).symm⟩
   have hr:=hC r (by simp)
   simp at hl
   have htk:S.data.toList.take (enc (k++[r])).length=enc k++Lib.encodeRune r:=by rw[hS,iQ (k++[r]),List.take_left,iQ,oV]
   have hlen:(enc (k++[r])).length - (Lib.encodeRune r).length=(enc k).length:=by rw[iQ,List.length_append,oV];omega
   have ih:=Vw S ([r]++m) n k f' g' hl (by rw[hS];simp) (fun x hx=>hC x (by simp[hx])) (by omega) (by omega)
   rw[Lib.lastIdxFuncFrom,Lib.lastIdxFuncFrom,htk,Di r hr]
   simp only[hlen,ih]
theorem Ik {l:List Int} (h:jG l) (p:Int→Bool):jG (l.dropWhile p):=fun r hr=>h r ((List.dropWhile_sublist p).subset hr)
theorem Sr (l:List Int) (hC:jG l):Lib.trimF pn (strOf (enc l))=strOf (enc (XM l)):=by
 unfold Lib.trimF XM
 rw[amm l hC,aiA _ (Ik hC bl)]
def bk (r:Int):Bool:=decide (r=9)||(decide (r=10)||decide (r=13))
def fz (r:Int):Int:=if bk r=true then -1 else r
theorem amu:∀(l:List Int) (n:Nat),jG l→l.length≤n→Lib.mapGoD fz n (enc l)=enc (l.filter fun r=> !bk r)
 |[],0,_,_=>rfl
 |[],n+1,_,_=>rfl
 |_::_,0,_,h=>by simp at h
 |r::l,n+1,hC,hn=>by
  have hr:=hC r (by simp)
  have hne:enc (r::l)≠[]:=by rw[fA];exact adp r _
  have hd:=wL r hr (enc l)
  rw[←fA]at hd
  rw[Lib.mapGoD,if_neg hne,hd]
  have e:((r.toNat:Nat):Int)=r:=by have:=hr.1;omega
  simp only[e]
  rw[fA,List.drop_left,amu l n (fun x hx=>hC x (by simp[hx])) (by simp at hn;omega)]
  cases hb:bk r with
  |true=>
   have:fz r= -1:=by unfold fz;rw[hb];rfl
   rw[this]
   simp[hb]
  |false=>
   have h2:fz r=r:=by unfold fz;rw[hb];rfl
   rw[h2,if_pos hr.1]
   simp[hb,enc]
theorem map_enc (l:List Int) (hC:jG l):Lib.mapD fz (enc l)=enc (l.filter fun r=> !bk r):=amu l _ hC (iW l).2
theorem amr (r:Int) (h:Cc r) (h1:r≤127):fO (u r)=bl r∧brk (u r)=bk r:=by
 have hn:=un r h.1 (by omega)
 constructor
 ·unfold fO bl
  congr 1
  rw[hn,eq_iff_iff]
  have:=h.1
  omega
 have hk:∀k:UInt8,(k.toNat:Int)≤127→(decide (u r=k)=decide (r=(k.toNat:Int))):=fun k hk=>by
  congr 1
  rw[eq_iff_iff]
  constructor
  ·intro e
   have:=congrArg UInt8.toNat e
   rw[hn]at this
   have:=h.1
   omega
  intro e
  apply UInt8.toNat_inj.1
  rw[hn]
  omega
 unfold brk bk
 rw[hk 9 (by decide),hk 10 (by decide),hk 13 (by decide)]
 rfl
theorem IE {c:UInt8} (h:128≤c.toNat):fO c=false∧brk c=false:=by
 constructor
 ·unfold fO
  simp
  omega
 unfold brk
 have hk:∀k:UInt8,k.toNat<128→decide (c=k)=false:=fun k hk=>by
  rw[decide_eq_false_iff_not]
  rintro rfl
  omega
 rw[hk 9 (by decide),hk 10 (by decide),hk 13 (by decide)]
 rfl
theorem IG (r:Int) (h:Cc r) (h1:128≤r):∀c ∈ Lib.encodeRune r,128≤c.toNat:=by
 rcases aaf r h with⟨h2,_⟩|⟨_,a,b,e,ha,hb⟩|⟨_,a,b,c,e,ha,hb,hc⟩|⟨_,a,b,c,d,e,ha,hb,hc,hd⟩
 ·omega
 all_goals
  intro x hx
  rw[e]at hx
  simp only[List.mem_cons,List.not_mem_nil,or_false]at hx
 ·rcases hx with rfl|rfl<;>omega
 ·rcases hx with rfl|rfl|rfl<;>omega
 rcases hx with rfl|rfl|rfl|rfl<;>omega
theorem ac4 (r:Int) (h:128≤r):bl r=false∧bk r=false:=by
 constructor
 ·unfold bl;simp;omega
 unfold bk;simp;omega
theorem ale:∀l:List Int,jG l→(enc l).dropWhile fO=enc (l.dropWhile bl)
 |[],_=>rfl
 | r :: l, hC => by
  have hr:=hC r (by simp)
  have ih:=ale l fun x hx=>hC x (by simp[hx])
  by_cases h1:r≤127
  ·have e:=enc1 r hr.1 h1
   have hb:=(amr r hr h1).1
   rw[fA,e,List.singleton_append,List.dropWhile_cons,List.dropWhile_cons,hb,ih]
   split
   ·rfl
   ·rw[fA,e];rfl
  ·obtain⟨c,t,e⟩:∃c t,Lib.encodeRune r=c::t:=by
    cases e:Lib.encodeRune r with
    |nil=>have:=D8 r;rw[e]at this;simp at this
    |cons c t=>exact⟨c,t,rfl⟩
   have hc:=IG r hr (by omega) c (by rw[e];simp)
   rw[fA,e,List.cons_append,List.dropWhile_cons,(IE hc).1,List.dropWhile_cons,(ac4 r (by omega)).1]
   simp only[Bool.false_eq_true,if_false]
   rw[fA,e]
   rfl
theorem Qe:∀(n:Nat) (l:List Int),l.length=n→jG l→((enc l).reverse.dropWhile fO).reverse=enc (l.reverse.dropWhile bl).reverse
 |0,l,hl,_=>by
  obtain rfl:=List.eq_nil_of_length_eq_zero hl
  rfl
 | n + 1, l, hl, hC => by
  have hne:l≠[]:=by rintro rfl;simp at hl
  obtain⟨k,r,rfl⟩:∃k r,l=k++[r]:=⟨_,_,(List.dropLast_concat_getLast hne).symm⟩
  simp at hl
  have hr:=hC r (by simp)
  have ih:=Qe n k hl fun x hx=>hC x (by simp[hx])
  rw[iQ,oV,List.reverse_append,List.reverse_append]
  by_cases h1:r≤127
  ·have e:=enc1 r hr.1 h1
   have hb:=(amr r hr h1).1
   rw[e]
   simp only[List.reverse_singleton,List.singleton_append,List.dropWhile_cons,hb]
   split
   ·exact ih
   ·simp[iQ,oV,e]
  ·obtain⟨t,c,e⟩:∃t c,Lib.encodeRune r=t++[c]:=by
    have hn:Lib.encodeRune r≠[]:=by intro e;have:=D8 r;rw[e]at this;simp at this
    exact⟨_,_,(List.dropLast_concat_getLast hn).symm⟩
   have hc:=IG r hr (by omega) c (by rw[e];simp)
   rw[e]
   simp only[List.reverse_append,List.reverse_singleton,List.singleton_append,List.cons_append,List.dropWhile_cons,(IE hc).1,(ac4 r (by omega)).1,Bool.false_eq_true,if_false]
   simp[iQ,oV,e]
theorem trm_enc (l:List Int) (hC:jG l):ru (enc l)=enc (XM l):=by
 unfold ru XM
 rw[ale l hC,Qe _ _ rfl (Ik hC bl)]
theorem Qj:∀l:List Int,jG l→(enc l).filter (fun c=> !brk c)=enc (l.filter fun r=> !bk r)
 |[],_=>rfl
 | r :: l, hC => by
  have hr:=hC r (by simp)
  rw[fA,List.filter_append,Qj l fun x hx=>hC x (by simp[hx])]
  by_cases h1:r≤127
  ·have e:=enc1 r hr.1 h1
   have hb:=(amr r hr h1).2
   rw[e,List.filter_cons,hb,List.filter_cons]
   cases bk r<;>simp[enc,e]
  ·have hf:(Lib.encodeRune r).filter (fun c=> !brk c)=Lib.encodeRune r:=by
    refine List.filter_eq_self.2 fun c hc=>?_
    rw[(IE (IG r hr (by omega) c hc)).2]
    rfl
   rw[hf,List.filter_cons,(ac4 r (by omega)).2]
   simp[enc]
theorem afb {l:List Int} (h:jG l):jG l.reverse:=fun r hr=>h r (by simpa using hr)
theorem afc {l:List Int} (h:jG l):jG (XM l):=afb (Ik (afb (Ik h bl)) bl)
theorem adb (L:List UInt8):Lib.mapD fz (Lib.trimF pn (strOf (enc (dec L)))).data.toList=clean L:=by
 have hC:jG (dec L):=zU L
 rw[Sr _ hC]
 show Lib.mapD fz (enc (XM (dec L)))=_
 rw[map_enc _ (afc hC)]
 unfold clean
 rw[trm_enc _ hC,Qj _ (afc hC)]
theorem yF (L:List UInt8):(clean L).length≤3*L.length:=by
 unfold clean
 refine Nat.le_trans (List.length_filter_le _ _) ?_
 have h1:(ru (enc (dec L))).length≤(enc (dec L)).length:=by
  unfold ru
  rw[List.length_reverse]
  refine Nat.le_trans (List.dropWhile_sublist _).length_le ?_
  rw[List.length_reverse]
  exact(List.dropWhile_sublist _).length_le
 exact Nat.le_trans h1 (Dk _ L (Nat.le_refl _))
where
 Dk:∀(n:Nat) (L:List UInt8),L.length≤n→(enc (dec L)).length≤3*L.length
  |_,[],_=>by simp[lT,enc]
  |0,_::_,h=>by simp at h
  | n + 1, x :: t, h => by
   have hs:=nJ x t
   have he:(Lib.encodeRune (rd (x::t)).1).length≤3*(rd (x::t)).2.1.toNat:=by
    cases hw:(rd (x::t)).2.2
    ·rw[(sF x t).2 hw]
     have:(Lib.encodeRune 65533).length=3:=by decide
     omega
    ·rw[((sF x t).1 hw).2,List.length_take]
     omega
   simp only[List.length_cons]at h
   have ih:=Dk n ((x::t).drop (rd (x::t)).2.1.toNat) (by rw[List.length_drop,List.length_cons];omega)
   rw[List.length_drop,List.length_cons]at ih
   rw[iK,fA,List.length_append,List.length_cons]
   omega
end Go.Proofs.YtgamccijegollaaGreatDoor.acr
namespace Go.Proofs.YtgamccijegollaaGreatDoor.agU
open Go.RowKit Base qh BI cO acA acG acv acD aco acJ wS
theorem jY {α:Type} {c:Prop} [Decidable c] {x:Option α} {u:α} (h:(if c then none else x)=some u):¬c∧x=some u:=by
 by_cases hc:c
 ·rw[if_pos hc]at h;cases h
 rw[if_neg hc]at h;exact⟨hc,h⟩
theorem akR {au s:List UInt8} {u:U} (h:authority au s=some u):u.au=au:=by
 unfold authority at h
 obtain⟨_,h⟩:=jY h
 obtain⟨_,h⟩:=jY h
 split at h
 ·cases h;rfl
 cases h
theorem Ul {p:Parts} {base:Option U} (h1:p.au≠FILE) (h2:special p.au=false) (h3:p.au≠[]):wS.resolve p base=wS.plain p:=by
 unfold wS.resolve
 rw[if_neg h1,if_neg (by rw[h2];simp),if_pos h3]
theorem adz (u:U) (p:Parts):(finish u p).au=u.au:=by
 cases h1:p.hq<;>cases h2:p.hf<;>simp[finish,h1,h2]
end Go.Proofs.YtgamccijegollaaGreatDoor.agU
namespace Go.Proofs.YtgamccijegollaaGreatDoor.J5
open Go.RowKit Base dI cO oO wu WU akq acJ WJ
theorem dn {p:UInt8→Prop} [∀c,Decidable (p c)] (h:∀n:Fin 256,p (UInt8.ofNat n.val)) (c:UInt8):p c:=by
 have:=h ⟨c.toNat,c.toNat_lt⟩
 simpa using this
theorem aaA {s:List UInt8} {sp:Bool} {R:List UInt8} (h:hst s sp=some R):R.length≤3*s.length+200:=by
 unfold hst at h
 split at h
 ·unfold hbr at h
  split at h
  ·unfold addr at h
   split at h
   ·cases h
   injection h with h
   subst h
   simp only[List.length_cons,List.length_append,List.length_nil]
   unfold am8
   rename_i V _
   have:=agb (fun i=>V.getD i 0)
   omega
  cases h
 split at h
 ·unfold SL at h
  split at h
  ·unfold XB at h
   split at h
   ·cases h
   split at h
   ·cases hp:NR (lower (fU.dec s))with
    |none=>rw[hp]at h;cases h
    |some n=>
     rw[hp]at h
     injection h with h
     subst h
     have:=Gl.pr_len n (Ri hp)
     omega
   injection h with h
   subst h
   have:=fU.ku s
   simp[lower]
   omega
  cases h
 unfold zA at h
 split at h
 ·injection h with h
  subst h
  have:=FM.iW 0 s
  omega
 cases h
end Go.Proofs.YtgamccijegollaaGreatDoor.J5
namespace Go.Proofs.YtgamccijegollaaGreatDoor.acK
open Go.RowKit Base zD qh BI acU acr cO acA acG acv acD aco acJ wS agU
theorem abk (x:UInt8) (t:List UInt8) (h:x.toNat≤127):rd (x::t)=((x.toNat:Int),1,true):=by
 simp only[rd]
 rw[if_pos (by omega)]
theorem ahi (x:UInt8) (t:List UInt8) (h:x.toNat≤127):dec (x::t)=(x.toNat:Int)::dec t:=by
 rw[iK,abk x t h]
 rfl
theorem E5 (x:UInt8) (b:List UInt8) (hx:x.toNat≤127):∀(m k:Nat) (l h r:Int) (t:List UInt8),128≤l→tail m k l h r (t++x::b)=tail m k l h r t
 |0,_,_,_,_,_,_=>by simp[tail]
 |m+1,k,l,h,r,[],hl=>by
  simp only[List.nil_append,tail]
  rw[if_pos (by omega)]
 |m+1,k,l,h,r,c::t,hl=>by
  simp only[List.cons_append,tail]
  split
  ·rfl
  ·exact E5 x b hx m (k+1) 128 191 _ t (by omega)
theorem lo_ge (c:Int) (h1:194≤c) (h2:c≤244):128≤lo c:=by unfold lo;(repeat' split)<;>omega
theorem rd_stop (y:UInt8) (t:List UInt8) (x:UInt8) (b:List UInt8) (hx:x.toNat≤127):rd (y::t++x::b)=rd (y::t):=by
 simp only[List.cons_append,rd]
 by_cases h1:(y.toNat:Int)≤127
 ·rw[if_pos h1,if_pos h1]
 rw[if_neg h1,if_neg h1]
 by_cases h2:(y.toNat:Int)≤193∨245≤(y.toNat:Int)
 ·rw[if_pos h2,if_pos h2]
 rw[if_neg h2,if_neg h2]
 have hl:=lo_ge (y.toNat:Int) (by omega) (by omega)
 split
 ·exact E5 x b hx _ _ _ _ _ _ hl
 split
 ·exact E5 x b hx _ _ _ _ _ _ hl
 exact E5 x b hx _ _ _ _ _ _ hl
theorem Qb (x:UInt8) (b:List UInt8) (hx:x.toNat≤127):∀(n:Nat) (a:List UInt8),a.length≤n→dec (a++x::b)=dec a++(x.toNat:Int)::dec b
 |_,[],_=>by rw[List.nil_append,ahi x b hx];rfl
 |0,_::_,h=>by simp at h
 |n+1,y::t,hl=>by
  have hs:=nJ y t
  have hd:(y::t++x::b).drop (rd (y::t)).2.1.toNat=(y::t).drop (rd (y::t)).2.1.toNat++x::b:=by
   rw[List.drop_append_of_le_length]
   simp only[List.length_cons];omega
  have e:dec (y::t++x::b)=(rd (y::t)).1::dec ((y::t).drop (rd (y::t)).2.1.toNat++x::b):=by
   rw[List.cons_append,iK,←List.cons_append,rd_stop y t x b hx,hd]
  rw[e,Qb x b hx n _ (by simp only[List.length_drop,List.length_cons]at hl⊢;omega),iK y t]
  rfl
theorem ahp (x:UInt8) (h:x.toNat≤127):Lib.encodeRune (x.toNat:Int)=[x]:=by
 rw[enc1 _ (by omega) (by omega),u_of]
def ED (L:List UInt8):List UInt8:=enc (dec L)
theorem rG (L:List UInt8):clean L=(ru (ED L)).filter fun c=> !brk c:=rfl
theorem xX (a:List UInt8) (x:UInt8) (b:List UInt8) (hx:x.toNat≤127):ED (a++x::b)=ED a++x::ED b:=by
 unfold ED
 rw[Qb x b hx _ a (Nat.le_refl _),iQ,fA,ahp x hx]
 rfl
theorem ajn:ED []=[]:=rfl
theorem oL:∀L:List UInt8,(∀c ∈ L,c.toNat≤127)→ED L=L
 |[],_=>rfl
 |x::t,h=>by
  have:=xX [] x t (h x (by simp))
  rw[List.nil_append,ajn,List.nil_append]at this
  rw[this,oL t (fun c hc=>h c (by simp[hc]))]
theorem iP (b:UInt8):∀L:List UInt8,(∀c ∈ L,c≠b)→fG b L=(L,[],false)
 |[],_=>rfl
 |c::L,h=>by rw[fG,if_neg (h c (by simp)),iP b L (fun d hd=>h d (by simp[hd]))]
theorem kW (b:UInt8):∀(L M:List UInt8),(∀c ∈ L,c≠b)→fG b (L++b::M)=(L,M,true)
 |[],M,_=>by rw[List.nil_append,fG,if_pos rfl]
 |c::L,M,h=>by rw[List.cons_append,fG,if_neg (h c (by simp)),kW b L M (fun d hd=>h d (by simp[hd]))]
end Go.Proofs.YtgamccijegollaaGreatDoor.acK
namespace Go.Proofs.YtgamccijegollaaGreatDoor.ND
open Go.RowKit Base dI cO zD FM fU Hz pU qg sV acp Nw B64G ajm JY acK
def unr (c:UInt8):Bool:=letter c.toNat||digit c.toNat||[45,46,95,126].contains c
def e1 (c:UInt8):List UInt8:=if unr c=true then[c]else[37,jR (c.toNat / 16),jR (c.toNat%16)]
def mV (b:List UInt8):List UInt8:=b.flatMap e1
def CX:List UInt8:=59::Gt
def Em (letters:Bool) (b:List UInt8):List UInt8:=if letters=true then CX++44::e64 b else 44::mV b
def zf (letters:Bool) (ty sub:List UInt8) (ps:PL) (b:List UInt8):List UInt8:=dS ty sub ps++Em letters b
def made (letters:Bool) (ty sub:List UInt8) (ps:PL) (b:List UInt8):List UInt8:=vX++zf letters ty sub ps b
def YW (c:UInt8):Bool:=decide (32≤c.toNat∧c.toNat≤126∧c≠35∧c≠44∧c≠63)
def Uf (L:List UInt8):Bool:=L.all fun c=>decide (c≠35)
def Q7 (ps:PL):Bool:=ps.all fun p=>decide (p.1≠Gt)&&(Uf p.1&&p.2.all YW)
def kR (ty sub:List UInt8) (ps:PL):Bool:=fD ty sub ps&&(Uf (ty++sub)&&Q7 ps)
theorem Qd:∀b:List UInt8,dec (mV b)=b
 |[]=>lT
 |c::b=>by
  have e:mV (c::b)=e1 c++mV b:=by simp[mV]
  rw[e]
  unfold e1
  split
  ·rename_i h
   have hc:c≠37:=by rintro rfl;revert h;decide
   rw[List.cons_append,List.nil_append,kJ _ _ (zZ c _ hc),Qd b]
  ·show dec (37::jR (c.toNat / 16)::jR (c.toNat%16)::mV b)=_
   rw[oQ _ _ c (N9 c (mV b))]
   show c::dec (mV b)=_
   rw[Qd b]
theorem ak6:∀L:List UInt8,(∀c ∈ L,c≠37)→dec L=L
 |[],_=>lT
 |c::L,h=>by rw[kJ _ _ (zZ c _ (h c (by simp))),ak6 L fun d hd=>h d (by simp[hd])]
def Gd (c:UInt8):Prop:=33≤c.toNat∧c.toNat≤126∧c≠35∧c≠44∧c≠63
instance (c:UInt8):Decidable (Gd c):=by unfold Gd;infer_instance
theorem e1_good (c:UInt8):∀d ∈ e1 c,Gd d:=by
 have h:=dn (p:=fun c=>∀d ∈ e1 c,Gd d) (by decide+kernel) c
 exact h
theorem ahs (b:List UInt8):∀d ∈ mV b,Gd d:=by
 intro d hd
 obtain⟨c,_,h⟩:=List.mem_flatMap.1 hd
 exact e1_good c d h
theorem aad (b:List UInt8):∀d ∈ e64 b,Gd d∧d≠37:=by
 intro d hd
 rw[(qC b).1]at hd
 rcases List.mem_append.1 hd with h|h
 ·obtain⟨k,hk,rfl⟩:=Ij b d h
  have H:∀k:Fin 64,Gd (aU k.val)∧aU k.val≠37:=by decide+kernel
  exact H ⟨k,hk⟩
 rw[(List.mem_replicate.1 h).2]
 decide
theorem aiN (letters:Bool) (b:List UInt8):∃X R,Em letters b=X++44::R∧(∀d ∈ X,Gd d)∧∀d ∈ R,Gd d:=by
 unfold Em
 cases letters with
 |true=>exact⟨CX,e64 b,by simp,by decide,fun d hd=>(aad b d hd).1⟩
 |false=>exact⟨[],mV b,by simp,by simp,ahs b⟩
theorem tch_vch (c:UInt8) (h:FX c=true) (h2:c≠35):Gd c:=
 dn (p:=fun c=>FX c=true→c≠35→Gd c) (by decide+kernel) c h h2
theorem gd_vch {c:UInt8} (h:Gd c):YW c=true:=by
 unfold YW
 rw[decide_eq_true_iff]
 exact⟨by have:=h.1;omega,h.2⟩
theorem YC {L:List UInt8} (h:dP L=true) (h2:Uf L=true):∀c ∈ L,YW c=true:=fun c hc=>
 gd_vch (tch_vch c (mg h hc) (by simpa using List.all_eq_true.1 h2 c hc))
theorem anc {v:List UInt8} (h:v.all YW=true):∀c ∈ Au v,YW c=true:=by
 have hv:=List.all_eq_true.1 h
 unfold Au
 split
 ·exact hv
 intro c hc
 unfold qq qt at hc
 rcases List.mem_cons.1 hc with rfl|hc
 ·decide
 rcases List.mem_append.1 hc with hc|hc
 ·obtain⟨d,hd,hm⟩:=List.mem_flatMap.1 hc
  unfold qe at hm
  split at hm
  ·rcases List.mem_cons.1 hm with rfl|hm
   ·decide
   rw[List.mem_singleton.1 hm];exact hv d hd
  rw[List.mem_singleton.1 hm];exact hv d hd
 rw[List.mem_singleton.1 hc];decide
theorem af8:∀ps:PL,(∀p ∈ ps,dP p.1=true)→Q7 ps=true→∀c ∈ pps ps,YW c=true
 |[],_,_,c,hc=>by rw[Ot]at hc;cases hc
 | p ::ps,ht,h,c,hc=>by
  unfold Q7 at h
  rw[List.all_cons,Bool.and_eq_true,Bool.and_eq_true,Bool.and_eq_true]at h
  rw[Jl]at hc
  rcases List.mem_append.1 hc with hc|hc
  ·unfold Q9 at hc
   rcases List.mem_cons.1 hc with rfl|hc
   ·decide
   ·rcases List.mem_append.1 hc with hc|hc
    ·exact YC (ht p (by simp)) h.1.2.1 c hc
    ·rcases List.mem_cons.1 hc with rfl|hc
     ·decide
     ·exact anc h.1.2.2 c hc
  ·exact af8 ps (fun q hq=>ht q (by simp[hq])) h.2 c hc
theorem G8 {ty sub:List UInt8} {ps:PL} (h:fD ty sub ps=true):dP ty=true∧dP sub=true∧∀p ∈ ps,dP p.1=true:=by
 unfold fD at h
 rw[Bool.and_eq_true,Bool.and_eq_true]at h
 refine⟨(nK h.1).1,(nK h.2.1).1,fun p hp=>?_⟩
 obtain⟨k,hk,rfl⟩:=List.getElem_of_mem hp
 have:=D6 h.2.2 k hk
 unfold yU at this
 rw[List.getElem?_eq_getElem hk]at this
 simp only[Bool.and_eq_true]at this
 exact(nK this.1).1
theorem VR {ty sub:List UInt8} {ps:PL} (h:kR ty sub ps=true):∀c ∈ dS ty sub ps,YW c=true:=by
 unfold kR at h
 rw[Bool.and_eq_true,Bool.and_eq_true]at h
 obtain⟨h1,h2,h3⟩:=G8 h.1
 have hn:Uf ty=true∧Uf sub=true:=by
  have:=h.2.1
  unfold Uf at this
  rw[List.all_append,Bool.and_eq_true]at this
  exact this
 intro c hc
 unfold dS ess at hc
 rcases List.mem_append.1 hc with hc|hc
 ·rcases List.mem_append.1 hc with hc|hc
  ·exact YC h1 hn.1 c hc
  rcases List.mem_cons.1 hc with rfl|hc
  ·decide
  exact YC h2 hn.2 c hc
 exact af8 ps h3 h.2.2 c hc
theorem Mc {c:UInt8} (h:YW c=true):32≤c.toNat∧c.toNat≤126∧c≠35∧c≠44∧c≠63:=by unfold YW at h;exact decide_eq_true_iff.1 h
theorem VQ {ty sub:List UInt8} {ps:PL} (h:fD ty sub ps=true):(∃A,dS ty sub ps=A++[34])∨∃A s z,dS ty sub ps=A++s::z∧(s=47∨s=61)∧dP z=true:=by
 obtain⟨h1,h2,h3⟩:=G8 h
 rcases List.eq_nil_or_concat ps with rfl|⟨qs,p,rfl⟩
 ·refine Or.inr ⟨ty,47,sub,?_,Or.inl rfl,h2⟩
  unfold dS ess
  rw[Ot,List.append_nil]
 have e:dS ty sub (qs++[p])=(dS ty sub qs++59::p.1)++61::Au p.2:=by
  unfold dS
  rw[Rh]
  unfold Q9
  simp
 rw[List.concat_eq_append,e]
 unfold Au
 split
 ·rename_i hv
  exact Or.inr ⟨_,61,p.2,rfl,Or.inr rfl,hv⟩
 refine Or.inl ⟨dS ty sub qs++59::p.1++61::34::qt p.2,?_⟩
 unfold qq
 simp
theorem Nb {ty sub:List UInt8} {ps:PL} (h:fD ty sub ps=true):∃c t,dS ty sub ps=c::t∧FX c=true:=by
 obtain⟨h1,-,-⟩:=G8 h
 obtain⟨c,t,rfl⟩:∃c t,ty=c::t:=by
  cases ty with
  |nil=>exact absurd rfl (En h1)
  |cons c t=>exact⟨c,t,rfl⟩
 exact⟨c,_,rfl,mg h1 (by simp)⟩
theorem amo (c:UInt8) (h:low c ∈ Gt):FX c=true∧c≠34∧c≠47∧c≠61:=by
 have:=dn (p:=fun c=>low c ∈ Gt→FX c=true∧c≠34∧c≠47∧c≠61) (by decide+kernel) c h
 exact this
theorem afK {H:List UInt8} (h:YT H=true):6≤H.length∧(∀c ∈ H.drop (H.length - 6),low c ∈ Gt)∧Lib.hasSuffix (ahd H) [59]=true:=by
 unfold YT at h
 rw[Bool.and_eq_true,Bool.and_eq_true,decide_eq_true_iff,decide_eq_true_iff]at h
 refine⟨h.1,fun c hc=>?_,h.2.2⟩
 rw[←h.2.1]
 exact List.mem_map_of_mem hc
theorem suf1 (L:List UInt8) (d c:UInt8):Lib.hasSuffix (L++[d]) [c]=decide (d=c):=by
 rw[Bool.eq_iff_iff]
 unfold Lib.hasSuffix
 rw[List.isSuffixOf_iff_suffix,decide_eq_true_iff]
 constructor
 ·rintro⟨t,e⟩
  exact(List.append_inj' e rfl).2|>fun h=>(List.cons.inj h).1.symm
 rintro rfl
 exact⟨L,rfl⟩
theorem ae5 (A:List UInt8) (d:UInt8) (h1:d≠32) (h2:d≠59):Lib.hasSuffix (Lib.trimRightS (A++[d]) [32]) [59]=false:=by
 have:Lib.trimRightS (A++[d]) [32]=A++[d]:=by
  show YU [32] (A++[d])=_
  rw[Eo,if_neg (by simpa using h1)]
 rw[this,suf1]
 exact decide_eq_false h2
theorem ahN (A:List UInt8):YT (A++[34])=false:=by
 rw[Bool.eq_false_iff]
 intro h
 obtain⟨h1,h2,-⟩:=afK h
 rw[List.length_append]at h1
 have hle:(A++[34]).length - 6≤A.length:=by
  have e:(A++[34]).length=A.length+1:=by simp
  omega
 have hm:(34:UInt8) ∈ (A++[34]).drop ((A++[34]).length - 6):=by
  rw[List.drop_append_of_le_length hle]
  exact List.mem_append_right _ (List.mem_singleton.2 rfl)
 exact(amo 34 (h2 34 hm)).2.1 rfl
theorem isB_sep (A z:List UInt8) (s:UInt8) (hs:s=47∨s=61) (hz:dP z=true):YT (A++s::z)=false:=by
 rw[Bool.eq_false_iff]
 intro h
 obtain⟨h1,h2,h3⟩:=afK h
 have hl:(A++s::z).length=A.length+(z.length+1):=by simp
 by_cases h6:6≤z.length
 ·unfold ahd at h3
  have ht:(A++s::z).take ((A++s::z).length - 6)=A++s::z.take (z.length - 6):=by
   rw[hl,show A.length+(z.length+1) - 6=A.length+(z.length - 6+1)by omega,List.take_length_add_append,List.take_succ_cons]
  rw[ht]at h3
  rcases List.eq_nil_or_concat (z.take (z.length - 6))with e|⟨N,d,e⟩
  ·rw[e,ae5 A s (by rcases hs with rfl|rfl<;>decide) (by rcases hs with rfl|rfl<;>decide)]at h3
   cases h3
  rw[List.concat_eq_append]at e
  have hd:FX d=true:=mg hz (List.mem_of_mem_take (i:=z.length - 6) (by rw[e];simp))
  have hd2:=nM d hd
  have hd3:d≠32:=fun e=>hd2.1 (by rw[e];decide)
  rw[e,show A++s::(N++[d])=(A++s::N)++[d]by simp,ae5 _ d hd3 hd2.2.2.2.1]at h3
  cases h3
 have hm:s ∈ (A++s::z).drop ((A++s::z).length - 6):=by
  rw[List.drop_append_of_le_length (by rw[hl];omega)]
  simp
 have:=amo s (h2 s hm)
 rcases hs with rfl|rfl
 ·exact this.2.2.1 rfl
 exact this.2.2.2 rfl
theorem ahM {ty sub:List UInt8} {ps:PL} (h:fD ty sub ps=true):YT (dS ty sub ps)=false:=by
 rcases VQ h with⟨A,e⟩|⟨A,s,z,e,hs,hz⟩
 ·rw[e];exact ahN A
 rw[e];exact isB_sep A z s hs hz
theorem afJ (P:List UInt8):YT (P++CX)=true∧Us (P++CX)=P:=by
 have hl:(P++CX).length - 6=(P++[59]).length:=by simp[CX,Gt]
 have e:P++CX=(P++[59])++Gt:=by simp[CX]
 have ha:ahd (P++CX)=P++[59]:=by
  unfold ahd
  rw[hl,e,List.take_left]
  show YU [32] (P++[59])=_
  rw[Eo,if_neg (by decide)]
 constructor
 ·unfold YT
  rw[ha,suf1,hl,e,List.drop_left,decide_eq_true (by simp[Gt]),decide_eq_true (by decide)]
  rfl
 unfold Us
 rw[ha]
 unfold Lib.trimSuffix
 rw[suf1,decide_eq_true rfl,if_pos rfl]
 simp
theorem abS (C L:List UInt8) (h1:∀c t,L=c::t→C.contains c=false) (h2:∀M c,L=M++[c]→C.contains c=false):Lib.trimS L C=L:=by
 rw[Sv]
 have e1:tlS C L=L:=by
  cases L with
  |nil=>rfl
  |cons c t=>rw[Si,h1 c t rfl];rfl
 rw[e1]
 rcases List.eq_nil_or_concat L with rfl|⟨M,c,rfl⟩
 ·rfl
 rw[List.concat_eq_append,Eo,h2 M c (List.concat_eq_append)]
 rfl
theorem anM (c:UInt8) (h:FX c=true):ws.contains c=false:=dn (p:=fun c=>FX c=true→ws.contains c=false) (by decide+kernel) c h
theorem ads {A L M:List UInt8} {c d:UInt8} (e:A++[d]=M++[c]):d=c:=by
 have:=List.append_inj_right' e rfl
 exact(List.cons.inj this).1
theorem aij (letters:Bool) {ty sub:List UInt8} {ps:PL} (b:List UInt8) (h:kR ty sub ps=true):proc (zf letters ty sub ps b)=some (⟨ty,sub,ps⟩,b):=by
 have hr:fD ty sub ps=true:=by unfold kR at h;rw[Bool.and_eq_true]at h;exact h.1
 have hv:=VR h
 obtain⟨c,t,hb,hc⟩:=Nb hr
 obtain⟨P,hP⟩:∃P,P=dS ty sub ps:=⟨_,rfl⟩
 rw[←hP]at hv hb
 have hP44:∀x ∈ P,x≠44:=fun x hx=>(Mc (hv x hx)).2.2.2.1
 have hty:typ P=⟨ty,sub,ps⟩:=by
  have:Es P=P:=by
   unfold Es
   rw[hb]
   have:Lib.hasPrefix (c::t) [59]=false:=by
    have:=(nM c hc).2.2.2.1
    unfold Lib.hasPrefix
    simp[List.isPrefixOf,Ne.symm this]
   rw[this]
   rfl
  unfold typ
  rw[this,hP,GR hr]
  rfl
 have hcw:=anM c hc
 cases letters with
 | false=>
  have e:zf false ty sub ps b=P++44::mV b:=by rw[hP];rfl
  have et:Lib.trimS P ws=P:=by
   refine abS ws P (fun x y e=>?_) (fun M x e=>?_)
   ·rw[hb]at e
    rw[←(List.cons.inj e).1]
    exact hcw
   rcases VQ hr with⟨A,e2⟩|⟨A,s,z,e2,hs,hz⟩
   ·rw[←hP]at e2
    rw[e2]at e
    rw[←ads (A:=A) (L:=[]) e]
    decide
   rw[←hP]at e2
   rcases List.eq_nil_or_concat z with rfl|⟨N,d,rfl⟩
   ·exact absurd rfl (En hz)
   rw[List.concat_eq_append]at e2 hz
   rw[e2,show A++s::(N++[d])=(A++s::N)++[d]by simp]at e
   rw[←ads (A:=A++s::N) (L:=[]) e]
   exact anM d (mg hz (by simp))
  unfold proc
  rw[e,kW 44 P (mV b) hP44,if_pos rfl]
  simp only
  rw[et,hP,ahM hr,←hP,hty,Qd]
  rfl
 | true=>
  have e:zf true ty sub ps b=(P++CX)++44::e64 b:=by rw[hP];simp[zf,Em]
  have hx:∀x ∈ P++CX,x≠44:=by
   intro x hx
   rcases List.mem_append.1 hx with hx|hx
   ·exact hP44 x hx
   exact(by decide:∀x ∈ CX,x≠44) x hx
  have et:Lib.trimS (P++CX) ws=P++CX:=by
   refine abS ws _ (fun x y e=>?_) (fun M x e=>?_)
   ·rw[hb]at e
    rw[←(List.cons.inj e).1]
    exact hcw
   rw[show P++CX=(P++[59,98,97,115,101,54])++[52]by simp[CX,Gt]]at e
   rw[←ads (A:=P++[59,98,97,115,101,54]) (L:=[]) e]
   decide
  have hd:dec (e64 b)=e64 b:=ak6 _ fun x hx=>(aad b x hx).2
  obtain⟨k1,k2⟩:=back b (e64 b) (txt_e64 b)
  unfold proc
  rw[e,kW 44 _ (e64 b) hx,if_pos rfl]
  simp only
  rw[et,(afJ P).1,(afJ P).2,if_pos rfl,hd,k1,if_pos rfl,k2,hty]
def uM (rest:List UInt8):wS.U:={wS.U0 with au:=DATA,port:= -1,opq:=true,txt:=rest}
theorem aiy (letters:Bool) {ty sub:List UInt8} {ps:PL} (b:List UInt8) (h:kR ty sub ps=true):(∀c ∈ zf letters ty sub ps b,32≤c.toNat∧c.toNat≤126∧c≠35∧c≠63)∧∃M d,zf letters ty sub ps b=M++[d]∧d≠32:=by
 obtain⟨X,R,e,hX,hR⟩:=aiN letters b
 have hv:=VR h
 unfold zf
 rw[e]
 constructor
 ·intro c hc
  rcases List.mem_append.1 hc with hc|hc
  ·have:=Mc (hv c hc)
   exact⟨this.1,this.2.1,this.2.2.1,this.2.2.2.2⟩
  rcases List.mem_append.1 hc with hc|hc
  ·have:=hX c hc
   exact⟨by have:=this.1;omega,this.2.1,this.2.2.1,this.2.2.2.2⟩
  rcases List.mem_cons.1 hc with rfl|hc
  ·decide
  have:=hR c hc
  exact⟨by have:=this.1;omega,this.2.1,this.2.2.1,this.2.2.2.2⟩
 rcases List.eq_nil_or_concat R with rfl|⟨N,d,rfl⟩
 ·exact⟨dS ty sub ps++X,44,by simp,by decide⟩
 refine⟨dS ty sub ps++X++44::N,d,by simp,?_⟩
 rintro rfl
 have:=hR 32 (by simp)
 exact absurd this.1 (by decide)
theorem adf {T:List UInt8} (h:∀c ∈ T,32≤c.toNat∧c.toNat≤126) (h1:∃c t,T=c::t∧c≠32) (h2:∃M d,T=M++[d]∧d≠32):wS.clean T=T:=by
 have hl:∀c ∈ T,c≠32→wS.fO c=false:=by
  intro c hc hn
  have:=(h c hc).1
  unfold wS.fO
  rw[decide_eq_false_iff_not]
  intro h3
  exact hn (UInt8.toNat_inj.1 (by show c.toNat=32;omega))
 have e:ED T=T:=oL T fun c hc=>by have:=(h c hc).2;omega
 have et:wS.ru T=T:=by
  obtain⟨c,t,e1,hc⟩:=h1
  obtain⟨M,d,e2,hd⟩:=h2
  have a1:T.dropWhile wS.fO=T:=by rw[e1,List.dropWhile_cons_of_neg (by rw[hl c (by rw[e1];simp) hc];simp)]
  have a2:T.reverse.dropWhile wS.fO=T.reverse:=by
   rw[e2,List.reverse_append]
   show(d::M.reverse).dropWhile wS.fO=_
   rw[List.dropWhile_cons_of_neg (by rw[hl d (by rw[e2];simp) hd];simp)]
   rfl
  unfold wS.ru
  rw[a1,a2,List.reverse_reverse]
 rw[rG,e,et,List.filter_eq_self.2 fun c hc=>?_]
 have:=(h c hc).1
 unfold wS.brk
 have h9:c≠9:=by rintro rfl;revert this;decide
 have h10:c≠10:=by rintro rfl;revert this;decide
 have h13:c≠13:=by rintro rfl;revert this;decide
 simp[h9,h10,h13]
theorem inS0 (c:UInt8) (h:32≤c.toNat∧c.toNat≤126):ji 0 c.toNat=false:=dn (p:=fun c=>32≤c.toNat∧c.toNat≤126→ji 0 c.toNat=false) (by decide+kernel) c h
theorem abZ {R:List UInt8} (h:∀c ∈ R,32≤c.toNat∧c.toNat≤126∧c≠35∧c≠63) (h1:∃c t,R=c::t∧c≠47) (h2:∃M d,R=M++[d]∧d≠32):wS.url (vX++R) none=some (uM R):=by
 have hT:∀c ∈ vX++R,32≤c.toNat∧c.toNat≤126∧c≠35∧c≠63:=by
  intro c hc
  rcases List.mem_append.1 hc with hc|hc
  ·exact(by decide:∀c ∈ vX,32≤c.toNat∧c.toNat≤126∧c≠35∧c≠63) c hc
  exact h c hc
 have ec:wS.clean (vX++R)=vX++R:=by
  obtain⟨M,d,e,hd⟩:=h2
  exact adf (fun c hc=>⟨(hT c hc).1,(hT c hc).2.1⟩) ⟨100,_,rfl,by decide⟩ ⟨vX++M,d,by rw[e];simp,hd⟩
 have ea:wS.apart (vX++R)=⟨DATA,R,[],[],false,false⟩:=by
  unfold wS.apart
  rw[iP 35 _ fun c hc=>(hT c hc).2.2.1]
  simp only
  rw[iP 63 _ fun c hc=>(hT c hc).2.2.2]
  simp only
  rw[show vX++R=DATA++58::R from rfl,kW 58 DATA R (by decide)]
  rw[show(true&&wS.lI DATA)=true from by decide,if_pos rfl]
  rfl
 obtain⟨c,t,e,hc⟩:=h1
 have p2:Lib.hasPrefix R [47,47]=false:=by
  rw[e]
  unfold Lib.hasPrefix
  simp[List.isPrefixOf,Ne.symm hc]
 have p1:Lib.hasPrefix R [47]=false:=by
  rw[e]
  unfold Lib.hasPrefix
  simp[List.isPrefixOf,Ne.symm hc]
 have eo:wS.opq false R=R:=by
  unfold wS.opq
  rw[lV 0 R fun c hc=>inS0 c ⟨(h c hc).1,(h c hc).2.1⟩]
  simp
 unfold wS.url
 rw[ec,ea]
 unfold wS.resolve wS.plain
 dsimp only
 rw[if_neg (show ¬DATA=wS.FILE by decide),if_neg (show ¬aco.special DATA=true by decide),if_pos (show DATA≠[]by decide)]
 rw[p2,p1]
 simp only[Bool.false_eq_true,if_false,Bool.or_self,Option.map_some]
 rw[eo]
 rfl
theorem ab1 (letters:Bool) {ty sub:List UInt8} {ps:PL} (b:List UInt8) (h:kR ty sub ps=true):wS.url (made letters ty sub ps b) none=some (uM (zf letters ty sub ps b)):=by
 obtain⟨g1,g2⟩:=aiy letters b h
 have hr:fD ty sub ps=true:=by unfold kR at h;rw[Bool.and_eq_true]at h;exact h.1
 obtain⟨c,t,hb,hc⟩:=Nb hr
 refine abZ g1 ⟨c,t++Em letters b,by unfold zf;rw[hb];rfl,(nM c hc).2.2.1⟩ g2
end Go.Proofs.YtgamccijegollaaGreatDoor.ND
namespace Go.Proofs.YtgamccijegollaaGreatDoor.aj8
open Go.RowKit Base L6 Dp dI cO acA Kr acG WS acv ac2 acD aco jQ acJ Zo WJ sU pO wS yw tN Fp mW tK yx
theorem AX (L:List UInt8) (w:World):Calls Tryz.prog 119 #[.string (strOf L),.string (cs true)] w fun e w'=>e=.returned (.string (strOf (L.dropWhile (gB true))))∧Below w.heap.size w w':=by
 refine(Tryz.strings_TrimLeft_set (strOf L) (cs true) w (by decide) (fun j b h=>?_)).mono ?_
 ·have:b ∈ [47,92]:=List.mem_of_getElem? h
  simp only[List.mem_cons,List.not_mem_nil,or_false]at this
  rcases this with rfl|rfl<;>decide
 rintro e w2 ⟨rfl,hb⟩
 refine⟨?_,hb⟩
 rw[show(strOf L).data.toList=L from rfl,show(cs true).data.toList=[47,92]from rfl]
 unfold Lib.trimLeftS
 congr 3
 have:(fun c=>[47,92].contains c)=gB true:=by
  funext c
  simp[gB]
 rw[this]
theorem Oa (T:List UInt8) (w:World) (hs:T.length≤900000) (hL:oI w) (hT:Tab.Pow w) (hM:Max w):Calls Tryz.prog 214 #[.string (strOf T)] w (mO w (far T)):=by
 obtain⟨O,hO⟩:∃O,O=far T:=⟨_,rfl⟩
 rw[←hO]
 obtain⟨X,hX⟩:∃X,X=T.take (upto true T):=⟨_,rfl⟩
 obtain⟨D,hD⟩:∃D,D=T.drop (upto true T):=⟨_,rfl⟩
 have hXl:X.length≤900000:=by rw[hX,List.length_take];omega
 have hDl:D.length≤900000:=by rw[hD,List.length_drop];omega
 have hU:∀w:World,Calls Tryz.prog 224 #[.string ⟨#[102,105,108,101]⟩,.string (strOf T)] w fun e w'=>e=.returned (.tuple #[.string (strOf X),.string (strOf D)])∧Below w.heap.size w w':=fun w=>by rw[hX,hD];exact Ws (strOf FILE) (strOf T) w (dW (by omega))
 unfold far at hO
 rw[←hX,←hD]at hO
 have HO:=hid hO
 have HU:=hid hU
 have HDR:Hid (∀w:World,Calls Tryz.prog 277 #[.string (strOf X)] w fun e w'=>e=.returned (.bool (drv X))∧w=w'):=fun w=>kL (strOf X) w
 have UC:Hid (∀(L:List UInt8) (w:World),L.length≤900000→Calls Tryz.prog 223 #[.string ⟨#[102,105,108,101]⟩,.string (strOf L)] w (lu w.heap.size w (rooted FILE L))):=fun L w h=>AA (strOf FILE) (strOf L) w (dW h)
 have HH:Hid (∀w:World,oI w→Tab.Pow w→Max w→Calls Tryz.prog 227 #[.string (strOf X),.bool true] w fun e w'=>e=.returned (HV (hst X true))∧Below w.heap.size w w'):=fun w a b d=>sU.parse_any (strOf X) true w (dW hXl) a b d
 have HL:=hid hL
 have HT:=hid hT
 have HM:=hid hM
 clear hO hU hX hD hL hT hM hXl
 go_enter Tryz.func214,Tryz.ntmps214
 go_upto_region 1 with(fail)
 generalize hw:World.alloc w _=w1
 have h1:UB w1 (w.heap.size) (U0) (.slice none 0 0)∧Below w.heap.size w w1:=by
  subst hw
  exact laid1 w _ _
 clear hw
 have bP:Hid (w.heap.size≤w.heap.size):=(Below.refl w.heap.size w).size
 have bM:=hid (bel (Below.refl w.heap.size w) h1.2)
 have aW:=hid h1.1
 clear h1
 go_upto_region 2 with(fail)
 generalize hw:World.alloc w1 _=w2
 have h1:UB w2 (w1.heap.size) (uF) (.slice none 0 0)∧Below w1.heap.size w1 w2:=by
  subst hw
  exact laid1 w1 _ _
 clear hw
 have hlr:=aW.out.lt
 have aX:Hid (w.heap.size≠w1.heap.size):=by show _≠_;omega
 have nO:Hid (w1.heap.size≠w.heap.size):=by show _≠_;omega
 clear hlr
 have fK:Hid (w.heap.size≤w1.heap.size):=bM.out.size
 have bK:=hid (aW.out.below h1.2)
 have eX:=hid (bel bM.out h1.2)
 have fZ:=hid h1.1
 clear aW bM
 clear h1
 go_wp2_with fail
 refine(HU.out _).mono ?_
 rintro e w3 ⟨rfl,hbx⟩
 have bD:=hid (bK.out.below hbx)
 have eY:=hid (fZ.out.below hbx)
 have cZ:=hid (bel eX.out hbx)
 clear bK fZ eX
 clear hbx
 cases hd:drv X with
 |true=>
  have mX:Hid (O=some {uF with aO:=rooted FILE T}):=by show _=_;rw[HO.out,if_pos hd]
  rw[hd]at HDR
  clear hd
  go_wp2_with fail
  refine(HDR.out _).mono ?_
  rintro e wx ⟨rfl,hwx⟩
  obtain rfl:w3=wx:=by first|exact hwx|exact hwx.symm
  clear hwx
  go_wp2_with fail
  refine(UC.out T _ hs).mono ?_
  rintro e w4 ⟨q,rfl,hown,hbx⟩
  obtain⟨Aq,cq,rfl,hq⟩:=bW (u:={U0 with aO:=rooted FILE T}) hown
  clear hq
  replace hown:=ay hown (Nat.le_refl _)
  have zF:Hid (w1.heap.size<w3.heap.size):=eY.out.lt
  have iy:Hid (w.heap.size<w3.heap.size):=bD.out.lt
  have bF:=hid (bD.out.below hbx)
  have bV:=hid (eY.out.below hbx)
  have dD:=hid (bel cZ.out hbx)
  have OQ:=hid hown
  clear hown
  clear bD eY cZ
  clear hbx
  have BX:=zF.out
  have cx:=bV.out.facts.2.2.2.2.2.2.2.2.1
  have fx:=bV.out.thaw.2.2.2.2.2.2.2.2.1
  go_upto_region 12 with(fail)
  have hxr:=bF.out.set (k:=w1.heap.size) (i:=8) (.slice Aq (rooted FILE T).length cq) (aX.out)
  have hxu:=bV.out.path (.slice Aq (rooted FILE T).length cq)
  have hoq:=gU.aN (w':=w4.setCell ⟨w1.heap.size,8,none⟩ (.slice Aq (rooted FILE T).length cq)) (gb:=w1.heap.size) OQ.out (fun k hk=>heap_setCell_other _ _ _ _ hk) (by omega)
  have hb:=dD.out.setCell (p:=⟨w1.heap.size,8,none⟩) (fK.out) (.slice Aq (rooted FILE T).length cq)
  clear bF bV OQ dD
  clear cx fx
  generalize World.setCell w4 _ _=w5 at hxr hxu hoq hb⊢
  have bH:Hid (UB w5 (w.heap.size) (U0) (.slice none 0 0)):=hxr
  clear hxr
  have bJ:Hid (UB w5 (w1.heap.size) (uF) (.slice Aq (rooted FILE T).length cq)):=hxu
  clear hxu
  have Ic:=hid hoq
  clear hoq
  have fC:=hid hb
  clear hb
  clear BX
  obtain⟨c0,c1,c2',c3,c4,c5,c6,c7,c8,c9,c10,c11,c12⟩:=bJ.out.facts
  go_wp2_with (refine aC bH.out (uF) Aq (rooted FILE T).length cq (.tmp 2) (.tmp 35) rfl rfl rfl rfl ?_)
  try simp only[Exit.inBlock,Exit.then]
  have hpo:∀k,k≠w.heap.size→(World.setRow w5 (w.heap.size) (cells (uF) (.slice Aq (rooted FILE T).length cq))).heap[k]?=w5.heap[k]?:=fun k hk=>setRow_other _ _ _ _ hk
  have ho:=ay (gU.aN Ic.out hpo iy.out) (by have h1:=bP.out;have h2:=iy.out;omega:w.heap.size≤_)
  exact bodyPost_ret (w:=World.setRow w5 w.heap.size (cells (uF) (.slice Aq (rooted FILE T).length cq))) (res2 (u:=uF) (p:=.slice Aq (rooted FILE T).length cq) rfl (bH.out.row (uF) _) true _ rfl rfl) rfl (eH (u:={uF with aO:=rooted FILE T}) mX.out (below_setRow fC.out bP.out _) ho)
 | false=>
  have jy:Hid (O=if X=[]then some {uF with aO:=rooted FILE D}else match hst X true with|none=>none|some H=>some {uF with hst:=if H=LOCAL then[]else H,aO:=rooted FILE D}):=by show _=_;rw[HO.out,if_neg (by rw[hd];simp)];first|done|rfl
  rw[hd]at HDR
  clear hd HO
  go_wp2_with fail
  refine(HDR.out _).mono ?_
  rintro e wx ⟨rfl,hwx⟩
  obtain rfl:w3=wx:=by first|exact hwx|exact hwx.symm
  clear hwx
  by_cases h0:X=[]
  ·
   have mX:Hid (O=some {uF with aO:=rooted FILE D}):=by show _=_;rw[jy.out,if_pos h0]
   have q0:((strOf X).toList==[])=true:=by rw[aK,h0];rfl
   have q1:(strOf X).toList=[]:=by rw[aK,h0]
   clear h0
   go_wp2_with fail
   refine(UC.out D _ hDl).mono ?_
   rintro e w4 ⟨q,rfl,hown,hbx⟩
   obtain⟨Aq,cq,rfl,hq⟩:=bW (u:={U0 with aO:=rooted FILE D}) hown
   clear hq
   replace hown:=ay hown (Nat.le_refl _)
   have zF:Hid (w1.heap.size<w3.heap.size):=eY.out.lt
   have iy:Hid (w.heap.size<w3.heap.size):=bD.out.lt
   have bF:=hid (bD.out.below hbx)
   have bV:=hid (eY.out.below hbx)
   have dD:=hid (bel cZ.out hbx)
   have OQ:=hid hown
   clear hown
   clear bD eY cZ
   clear hbx
   have BX:=zF.out
   have cx:=bV.out.facts.2.2.2.2.2.2.2.2.1
   have fx:=bV.out.thaw.2.2.2.2.2.2.2.2.1
   go_upto_region 12 with(fail)
   have hxr:=bF.out.set (k:=w1.heap.size) (i:=8) (.slice Aq (rooted FILE D).length cq) (aX.out)
   have hxu:=bV.out.path (.slice Aq (rooted FILE D).length cq)
   have hoq:=gU.aN (w':=w4.setCell ⟨w1.heap.size,8,none⟩ (.slice Aq (rooted FILE D).length cq)) (gb:=w1.heap.size) OQ.out (fun k hk=>heap_setCell_other _ _ _ _ hk) (by omega)
   have hb:=dD.out.setCell (p:=⟨w1.heap.size,8,none⟩) (fK.out) (.slice Aq (rooted FILE D).length cq)
   clear bF bV OQ dD
   clear cx fx
   generalize World.setCell w4 _ _=w5 at hxr hxu hoq hb⊢
   have bH:Hid (UB w5 (w.heap.size) (U0) (.slice none 0 0)):=hxr
   clear hxr
   have bJ:Hid (UB w5 (w1.heap.size) (uF) (.slice Aq (rooted FILE D).length cq)):=hxu
   clear hxu
   have Ic:=hid hoq
   clear hoq
   have fC:=hid hb
   clear hb
   clear BX
   obtain⟨c0,c1,c2',c3,c4,c5,c6,c7,c8,c9,c10,c11,c12⟩:=bJ.out.facts
   go_wp2_with (refine aC bH.out (uF) Aq (rooted FILE D).length cq (.tmp 2) (.tmp 35) rfl rfl rfl rfl ?_)
   try simp only[Exit.inBlock,Exit.then]
   have hpo:∀k,k≠w.heap.size→(World.setRow w5 (w.heap.size) (cells (uF) (.slice Aq (rooted FILE D).length cq))).heap[k]?=w5.heap[k]?:=fun k hk=>setRow_other _ _ _ _ hk
   have ho:=ay (gU.aN Ic.out hpo iy.out) (by have h1:=bP.out;have h2:=iy.out;omega:w.heap.size≤_)
   exact bodyPost_ret (w:=World.setRow w5 w.heap.size (cells (uF) (.slice Aq (rooted FILE D).length cq))) (res2 (u:=uF) (p:=.slice Aq (rooted FILE D).length cq) rfl (bH.out.row (uF) _) true _ rfl rfl) rfl (eH (u:={uF with aO:=rooted FILE D}) mX.out (below_setRow fC.out bP.out _) ho)
  ·
   have iV:Hid (O=match hst X true with|none=>none|some H=>some {uF with hst:=if H=LOCAL then[]else H,aO:=rooted FILE D}):=by show _=_;rw[jy.out,if_neg h0]
   have q0:((strOf X).toList==[])=false:=by rw[aK,beq_eq_false_iff_ne];exact h0
   have q1:¬(strOf X).toList=[]:=by rw[aK];exact h0
   have q2:(strOf X).toList.isEmpty=false:=by rw[aK];simpa using h0
   clear h0 jy
   cases hx:hst X true with
   |none=>
    have qc:Hid (O=none):=by show _=_;rw[iV.out,hx]
    rw[hx]at HH
    clear hx
    go_wp2_with fail
    refine(HH.out _ (HL.out.below cZ.out) (bY HT.out cZ.out) (HM.out.below cZ.out)).mono ?_
    rintro e w4 ⟨rfl,hbx⟩
    have bF:=hid (bD.out.below hbx)
    have bV:=hid (eY.out.below hbx)
    have dD:=hid (bel cZ.out hbx)
    clear bD eY cZ
    clear hbx
    rw[show HV none=.tuple #[.string (strOf []),.bool false]from rfl]
    go_wp2_with (refine aC bF.out U0 none 0 0 (.tmp 2) (.tmp 27) rfl rfl rfl rfl ?_)
    try simp only[Exit.inBlock,Exit.then]
    exact bodyPost_ret (w:=World.setRow w4 w.heap.size (cells U0 (.slice none 0 0))) (res2 (u:=U0) (p:=.slice none 0 0) rfl (bF.out.row U0 _) false _ rfl rfl) rfl (kH qc.out (below_setRow dD.out bP.out _))
   |some H=>
    have Ti:Hid (O=some {uF with hst:=if H=LOCAL then[]else H,aO:=rooted FILE D}):=by show _=_;rw[iV.out,hx]
    rw[hx]at HH
    clear hx iV
    go_wp2_with fail
    refine(HH.out _ (HL.out.below cZ.out) (bY HT.out cZ.out) (HM.out.below cZ.out)).mono ?_
    rintro e w4 ⟨rfl,hbx⟩
    have bF:=hid (bD.out.below hbx)
    have bV:=hid (eY.out.below hbx)
    have dD:=hid (bel cZ.out hbx)
    clear bD eY cZ
    clear hbx
    rw[show HV (some H)=.tuple #[.string (strOf H),.bool true]from rfl]
    skip
    by_cases hl:H=LOCAL
    ·
     have mX:Hid (O=some {uF with aO:=rooted FILE D}):=by show _=_;rw[Ti.out,if_pos hl];rfl
     have l0:((strOf H).toList==[108,111,99,97,108,104,111,115,116])=true:=by rw[aK,hl];rfl
     have l1:(strOf H).toList=[108,111,99,97,108,104,111,115,116]:=by rw[aK,hl];rfl
     clear hl
     go_wp2_with fail
     refine(UC.out D _ hDl).mono ?_
     rintro e w5 ⟨q,rfl,hown,hbx⟩
     obtain⟨Aq,cq,rfl,hq⟩:=bW (u:={U0 with aO:=rooted FILE D}) hown
     clear hq
     replace hown:=ay hown (Nat.le_refl _)
     have zF:Hid (w1.heap.size<w4.heap.size):=bV.out.lt
     have iy:Hid (w.heap.size<w4.heap.size):=bF.out.lt
     have bH:=hid (bF.out.below hbx)
     have bJ:=hid (bV.out.below hbx)
     have fC:=hid (bel dD.out hbx)
     have Ic:=hid hown
     clear hown
     clear bF bV dD
     clear hbx
     have BX:=zF.out
     have cx:=bJ.out.facts.2.2.2.2.2.2.2.2.1
     have fx:=bJ.out.thaw.2.2.2.2.2.2.2.2.1
     go_upto_region 12 with(fail)
     have hxr:=bH.out.set (k:=w1.heap.size) (i:=8) (.slice Aq (rooted FILE D).length cq) (aX.out)
     have hxu:=bJ.out.path (.slice Aq (rooted FILE D).length cq)
     have hoq:=gU.aN (w':=w5.setCell ⟨w1.heap.size,8,none⟩ (.slice Aq (rooted FILE D).length cq)) (gb:=w1.heap.size) Ic.out (fun k hk=>heap_setCell_other _ _ _ _ hk) (by omega)
     have hb:=fC.out.setCell (p:=⟨w1.heap.size,8,none⟩) (fK.out) (.slice Aq (rooted FILE D).length cq)
     clear bH bJ Ic fC
     clear cx fx
     generalize World.setCell w5 _ _=w6 at hxr hxu hoq hb⊢
     have bT:Hid (UB w6 (w.heap.size) (U0) (.slice none 0 0)):=hxr
     clear hxr
     have bG:Hid (UB w6 (w1.heap.size) (uF) (.slice Aq (rooted FILE D).length cq)):=hxu
     clear hxu
     have uP:=hid hoq
     clear hoq
     have gq:=hid hb
     clear hb
     clear BX
     obtain⟨c0,c1,c2',c3,c4,c5,c6,c7,c8,c9,c10,c11,c12⟩:=bG.out.facts
     go_wp2_with (refine aC bT.out (uF) Aq (rooted FILE D).length cq (.tmp 2) (.tmp 35) rfl rfl rfl rfl ?_)
     try simp only[Exit.inBlock,Exit.then]
     have hpo:∀k,k≠w.heap.size→(World.setRow w6 (w.heap.size) (cells (uF) (.slice Aq (rooted FILE D).length cq))).heap[k]?=w6.heap[k]?:=fun k hk=>setRow_other _ _ _ _ hk
     have ho:=ay (gU.aN uP.out hpo iy.out) (by have h1:=bP.out;have h2:=iy.out;omega:w.heap.size≤_)
     exact bodyPost_ret (w:=World.setRow w6 w.heap.size (cells (uF) (.slice Aq (rooted FILE D).length cq))) (res2 (u:=uF) (p:=.slice Aq (rooted FILE D).length cq) rfl (bT.out.row (uF) _) true _ rfl rfl) rfl (eH (u:={uF with aO:=rooted FILE D}) mX.out (below_setRow gq.out bP.out _) ho)
    ·
     have mX:Hid (O=some {uF with hst:=H,aO:=rooted FILE D}):=by show _=_;rw[Ti.out,if_neg hl]
     have l0:((strOf H).toList==[108,111,99,97,108,104,111,115,116])=false:=by rw[aK,beq_eq_false_iff_ne];exact hl
     have l1:¬(strOf H).toList=[108,111,99,97,108,104,111,115,116]:=by rw[aK];exact hl
     clear hl
     have cx:=bV.out.facts.2.2.2.1
     have fx:=bV.out.thaw.2.2.2.1
     go_upto_region 11 with(fail)
     have hxr:=bF.out.set (k:=w1.heap.size) (i:=3) (.string (strOf H)) (aX.out)
     have hxu:=bV.out.hst H
     have hb:=dD.out.setCell (p:=⟨w1.heap.size,3,none⟩) (fK.out) (.string (strOf H))
     clear bF bV dD
     clear cx fx
     generalize World.setCell w4 _ _=w5 at hxr hxu hb⊢
     have bH:Hid (UB w5 (w.heap.size) (U0) (.slice none 0 0)):=hxr
     clear hxr
     have bJ:Hid (UB w5 (w1.heap.size) ({uF with hst:=H}) (.slice none 0 0)):=hxu
     clear hxu
     have fC:=hid hb
     clear hb
     go_wp2_with fail
     refine(UC.out D _ hDl).mono ?_
     rintro e w6 ⟨q,rfl,hown,hbx⟩
     obtain⟨Aq,cq,rfl,hq⟩:=bW (u:={U0 with aO:=rooted FILE D}) hown
     clear hq
     replace hown:=ay hown (Nat.le_refl _)
     have zF:Hid (w1.heap.size<w5.heap.size):=bJ.out.lt
     have iy:Hid (w.heap.size<w5.heap.size):=bH.out.lt
     have bT:=hid (bH.out.below hbx)
     have bG:=hid (bJ.out.below hbx)
     have gq:=hid (bel fC.out hbx)
     have uP:=hid hown
     clear hown
     clear bH bJ fC
     clear hbx
     have BX:=zF.out
     have cx:=bG.out.facts.2.2.2.2.2.2.2.2.1
     have fx:=bG.out.thaw.2.2.2.2.2.2.2.2.1
     go_upto_region 12 with(fail)
     have hxr:=bT.out.set (k:=w1.heap.size) (i:=8) (.slice Aq (rooted FILE D).length cq) (aX.out)
     have hxu:=bG.out.path (.slice Aq (rooted FILE D).length cq)
     have hoq:=gU.aN (w':=w6.setCell ⟨w1.heap.size,8,none⟩ (.slice Aq (rooted FILE D).length cq)) (gb:=w1.heap.size) uP.out (fun k hk=>heap_setCell_other _ _ _ _ hk) (by omega)
     have hb:=gq.out.setCell (p:=⟨w1.heap.size,8,none⟩) (fK.out) (.slice Aq (rooted FILE D).length cq)
     clear bT bG uP gq
     clear cx fx
     generalize World.setCell w6 _ _=w7 at hxr hxu hoq hb⊢
     have dQ:Hid (UB w7 (w.heap.size) (U0) (.slice none 0 0)):=hxr
     clear hxr
     have dO:Hid (UB w7 (w1.heap.size) ({uF with hst:=H}) (.slice Aq (rooted FILE D).length cq)):=hxu
     clear hxu
     have jD:=hid hoq
     clear hoq
     have iU:=hid hb
     clear hb
     clear BX
     obtain⟨c0,c1,c2',c3,c4,c5,c6,c7,c8,c9,c10,c11,c12⟩:=dO.out.facts
     go_wp2_with (refine aC dQ.out ({uF with hst:=H}) Aq (rooted FILE D).length cq (.tmp 2) (.tmp 35) rfl rfl rfl rfl ?_)
     try simp only[Exit.inBlock,Exit.then]
     have hpo:∀k,k≠w.heap.size→(World.setRow w7 (w.heap.size) (cells ({uF with hst:=H}) (.slice Aq (rooted FILE D).length cq))).heap[k]?=w7.heap[k]?:=fun k hk=>setRow_other _ _ _ _ hk
     have ho:=ay (gU.aN jD.out hpo iy.out) (by have h1:=bP.out;have h2:=iy.out;omega:w.heap.size≤_)
     exact bodyPost_ret (w:=World.setRow w7 w.heap.size (cells ({uF with hst:=H}) (.slice Aq (rooted FILE D).length cq))) (res2 (u:={uF with hst:=H}) (p:=.slice Aq (rooted FILE D).length cq) rfl (dQ.out.row ({uF with hst:=H}) _) true _ rfl rfl) rfl (eH (u:={uF with hst:=H,aO:=rooted FILE D}) mX.out (below_setRow iU.out bP.out _) ho)
end Go.Proofs.YtgamccijegollaaGreatDoor.aj8
