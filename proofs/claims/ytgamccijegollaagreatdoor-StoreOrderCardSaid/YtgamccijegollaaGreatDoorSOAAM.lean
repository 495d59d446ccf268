/- Texts that belong together: acr, vZ, WQ, agU, Hz, J5, acK, oN, atP. -/
import Derived.Test.YtgamccijegollaaGreatDoorSOAAH
import Derived.Test.YtgamccijegollaaGreatDoorSOAAL
import Derived.Lib.TrimUEq
import Derived.Lib.SpaceUEq
import Derived.Lib.TrimAscii
import Derived.Lib.MapU
import Derived.Shelf.GgClosure.StringsTrimFunc
import Derived.Test.YtgamccijegollaaGreatDoorSOAAJ
import Derived.Test.YtgamccijegollaaGreatDoorSOAAG
import Derived.Test.YtgamccijegollaaGreatDoorShelf
import Derived.Test.YtgamccijegollaaGreatDoorShelf2
import Derived.Test.YtgamccijegollaaGreatDoorSOAAF
import Derived.IntWalk
import Derived.Test.YtgamccijegollaaGreatDoorSOAAI
set_option linter.unusedSimpArgs false
set_option linter.unusedVariables false
set_option maxRecDepth 100000
set_option maxHeartbeats 64000000
namespace Go.Proofs.YtgamccijegollaaGreatDoor.acr
open Go.RowKit Base qh BI acU wS
theorem un (x:Int) (h0:0≤x) (h1:x≤255):(u x).toNat=x.toNat:=by have:=jw x h0 h1;omega
theorem aaf (r:Int) (h:Cc r):(r≤127∧Lib.encodeRune r=[u r])∨(128≤r∧∃a b:UInt8,Lib.encodeRune r=[a,b]∧192≤a.toNat∧b.toNat / 64=2)∨
  (128≤r∧∃a b c:UInt8,Lib.encodeRune r=[a,b,c]∧192≤a.toNat∧b.toNat / 64=2∧c.toNat / 64=2)∨(128≤r∧∃a b c d:UInt8,Lib.encodeRune r=[a,b,c,d]∧192≤a.toNat∧b.toNat / 64=2∧c.toNat / 64=2∧d.toNat / 64=2):=by
 obtain⟨h0,h1,h2⟩:=h
 by_cases a:r≤127
 ·exact .inl ⟨a,enc1 r h0 a⟩
 by_cases b:r≤2047
 ·refine .inr (.inl ⟨by omega,_,_,enc2 r (by omega) b,?_,?_⟩)
  ·rw[un _ (by omega) (by omega)];omega
  ·rw[un _ (by omega) (by omega)];omega
 by_cases c:r≤65535
 ·refine .inr (.inr (.inl ⟨by omega,_,_,_,enc3 r (by omega),?_,?_,?_⟩))
  ·rw[un _ (by omega) (by omega)];omega
  ·rw[un _ (by omega) (by omega)];omega
  ·rw[un _ (by omega) (by omega)];omega
 ·refine .inr (.inr (.inr ⟨by omega,_,_,_,_,enc4 r (by omega) h1,?_,?_,?_,?_⟩))
  ·rw[un _ (by omega) (by omega)];omega
  ·rw[un _ (by omega) (by omega)];omega
  ·rw[un _ (by omega) (by omega)];omega
  ·rw[un _ (by omega) (by omega)];omega
theorem Dj (r:Int) (h:Cc r) (t:List UInt8):Lib.decodeN (Lib.encodeRune r++t).length ((Lib.encodeRune r++t).getD 0 0).toNat ((Lib.encodeRune r++t).getD 1 0).toNat ((Lib.encodeRune r++t).getD 2 0).toNat ((Lib.encodeRune r++t).getD 3 0).toNat=(r.toNat,(Lib.encodeRune r).length):=by
 obtain⟨h0,h1,h2⟩:=h
 by_cases a:r≤127
 ·rw[enc1 r h0 a]
  simp only[List.cons_append,List.nil_append,List.getD_cons_zero,un r h0 (by omega),Lib.decodeN]
  rw[if_pos (by omega)]
  rfl
 by_cases b:r≤2047
 ·rw[enc2 r (by omega) b]
  simp only[List.cons_append,List.nil_append,List.getD_cons_zero,List.getD_cons_succ,un (192+r / 64) (by omega) (by omega),un (128+r%64) (by omega) (by omega),Lib.decodeN,List.length_cons,List.length_nil]
  rw[if_neg (by omega),if_pos (by omega),if_pos (by omega)]
  refine Prod.ext ?_ rfl
  simp only
  omega
 by_cases c:r≤65535
 ·rw[enc3 r (by omega)]
  simp only[List.cons_append,List.nil_append,List.getD_cons_zero,List.getD_cons_succ,un (224+r / 4096) (by omega) (by omega),un (128+r / 64%64) (by omega) (by omega),un (128+r%64) (by omega) (by omega),Lib.decodeN,List.length_cons,List.length_nil]
  rw[if_neg (by omega),if_neg (by omega),if_pos (by omega),if_pos (by omega)]
  refine Prod.ext ?_ rfl
  simp only
  omega
 rw[enc4 r (by omega) h1]
 simp only[List.cons_append,List.nil_append,List.getD_cons_zero,List.getD_cons_succ,un (240+r / 262144) (by omega) (by omega),un (128+r / 4096%64) (by omega) (by omega),un (128+r / 64%64) (by omega) (by omega),un (128+r%64) (by omega) (by omega),Lib.decodeN,List.length_cons,List.length_nil]
 rw[if_neg (by omega),if_neg (by omega),if_neg (by omega),if_pos (by omega),if_pos (by omega)]
 refine Prod.ext ?_ rfl
 simp only
 omega
theorem wL (r:Int) (h:Cc r) (t:List UInt8):Lib.decodeL (Lib.encodeRune r++t)=(r.toNat,(Lib.encodeRune r).length):=by rw[Lib.decodeL_N];exact Dj r h t
theorem last4 (t:List UInt8) (c0 c1 c2 c3:UInt8) (h3:128≤c3.toNat) (h2:Lib.runeStartB c2=false) (h1:Lib.runeStartB c1=false) (h0:Lib.runeStartB c0=true) (hd:(Lib.decodeL [c0,c1,c2,c3]).2=4):Lib.decodeLastL (t++[c0,c1,c2,c3])=Lib.decodeL [c0,c1,c2,c3]:=by
 have g1:=Lib.getD_app_end t [c0,c1,c2,c3] 1 (by omega) (by simp)
 have g2:=Lib.getD_app_end t [c0,c1,c2,c3] 2 (by omega) (by simp)
 have g3:=Lib.getD_app_end t [c0,c1,c2,c3] 3 (by omega) (by simp)
 have g4:=Lib.getD_app_end t [c0,c1,c2,c3] 4 (by omega) (by simp)
 have hl:(t++[c0,c1,c2,c3]).length=t.length+4:=by simp
 have hs:Lib.lastStart (t++[c0,c1,c2,c3])=(t++[c0,c1,c2,c3]).length - 4:=by
  unfold Lib.lastStart
  simp only[g2,g3,g4]
  rw[if_neg (by omega)]
  simp only[List.length_cons,List.length_nil,List.getD_cons_succ,List.getD_cons_zero,Nat.reduceAdd,Nat.reduceSub,h2,h1,h0,Bool.false_eq_true,if_false,if_true]
  rw[if_neg (by omega),if_neg (by omega)]
 have hdrop:=Lib.drop_app_end t [c0,c1,c2,c3]
 unfold Lib.decodeLastL
 rw[if_neg (by simp),g1,if_neg (by simp;omega),hs]
 simp only[List.length_cons,List.length_nil]at hdrop
 simp only[hdrop,hd]
 rw[if_pos (by omega)]
theorem RQ {c:UInt8} (h:c.toNat / 64=2):Lib.runeStartB c=false:=by unfold Lib.runeStartB;rw[h];rfl
theorem LM {c:UInt8} (h:192≤c.toNat):Lib.runeStartB c=true:=by
 unfold Lib.runeStartB
 have:=c.toNat_lt
 have h2:c.toNat / 64≠2:=by omega
 simpa using h2
theorem Di (r:Int) (h:Cc r) (t:List UInt8):Lib.decodeLastL (t++Lib.encodeRune r)=(r.toNat,(Lib.encodeRune r).length):=by
 have hd:=wL r h []
 rw[List.append_nil]at hd
 rcases aaf r h with⟨h1,e⟩|⟨_,a,b,e,ha,hb⟩|⟨_,a,b,c,e,ha,hb,hc⟩|⟨_,a,b,c,d,e,ha,hb,hc,hdd⟩
 ·rw[e]at hd⊢
  rw[Lib.decodeLastL_ascii t _ (by rw[un r h.1 (by omega)];have:=h.1;omega),un r h.1 (by omega)]
  rfl
 ·rw[e]at hd⊢
  rw[Lib.last2 t a b (by omega) (LM ha) (by rw[hd];rfl),hd]
 ·rw[e]at hd⊢
  rw[Lib.last3 t a b c (by omega) (RQ hb) (LM ha) (by rw[hd];rfl),hd]
 rw[e]at hd⊢
 rw[last4 t a b c d (by omega) (RQ hc) (RQ hb) (LM ha) (by rw[hd];rfl),hd]
def jG (l:List Int):Prop:=∀r ∈ l,Cc r
theorem iQ (a b:List Int):enc (a++b)=enc a++enc b:=by simp[enc]
theorem oV (r:Int):enc [r]=Lib.encodeRune r:=by simp[enc]
theorem dl (s:ByteArray):s.data.toList.length=s.size:=Array.length_toList
theorem ak5 (a b:List Int) (r:Int) (h:Cc r) (S:ByteArray) (hS:S.data.toList=enc (a++r::b)):Utf8.decode S (enc a).length=(r.toNat,(Lib.encodeRune r).length):=by
 rw[←Lib.decodeL_drop,hS,iQ,List.drop_left,fA]
 exact wL r h _
def bl (r:Int):Bool:=decide (r≤32)
def pn (r:Nat):Bool:=decide (r≤32)
theorem pn_bl (r:Int) (h:0≤r):pn r.toNat=bl r:=by unfold pn bl;congr 1;rw[eq_iff_iff];omega
theorem D8 (r:Int):0<(Lib.encodeRune r).length:=by have:=(Jy r).1;omega
theorem aaD (S:ByteArray):∀(b a:List Int) (f:Nat),S.data.toList=enc (a++b)→jG b→b.length<f→
  Lib.idxFuncFrom pn false S f (enc a).length=if b.all bl=true then -1 else(((enc a).length+(enc (b.takeWhile bl)).length:Nat):Int)
 |[],a,f,hS,_,_=>by
  rw[List.append_nil]at hS
  have hsz:S.size=(enc a).length:=by rw[←dl,hS]
  rw[Lib.idxFuncFrom_end _ _ _ _ _ (by omega)]
  rfl
 | r :: b, a, f, hS, hC, hf => by
  obtain⟨g,rfl⟩:∃g,f=g+1:=⟨f - 1,by simp at hf;omega⟩
  have hr:=hC r (by simp)
  have hd:=ak5 a b r hr S hS
  have hsz:(enc a).length<S.size:=by
   rw[←dl,hS,iQ,List.length_append,fA,List.length_append]
   have:=D8 r
   omega
  rw[Lib.idxFuncFrom,if_pos hsz,hd]
  simp only[pn_bl r hr.1]
  cases hb:bl r with
  |false=>simp[hb,enc]
  |true=>
   rw[if_neg (by simp)]
   have ih:=aaD S b (a++[r]) g (by rw[hS];simp) (fun x hx=>hC x (by simp[hx])) (by simp at hf;omega)
   rw[iQ,oV,List.length_append]at ih
   rw[ih]
   simp only[List.all_cons,hb,Bool.true_and,List.takeWhile_cons,if_true,fA,List.length_append]
   split
   ·rfl
   ·congr 1
    omega
theorem Vu (S:ByteArray) (m:List Int):∀(n:Nat) (l:List Int) (f:Nat),l.length=n→S.data.toList=enc (l++m)→jG l→n<f→
  (l.all bl=true∧Lib.lastIdxFuncFrom pn false S f (enc l).length= -1)∨∃l1 r l2,l=l1++r::l2∧bl r=false∧l2.all bl=true∧Lib.lastIdxFuncFrom pn false S f (enc l).length=((enc l1).length:Int)
 |0,l,f,hl,_,_,_=>by
  obtain rfl:=List.eq_nil_of_length_eq_zero hl
  exact .inl ⟨rfl,Lib.lastIdxFuncFrom_zero _ _ _ _⟩
 |n+1,l,f,hl,hS,hC,hf=>by
  obtain⟨g,rfl⟩:∃g,f=g+1:=⟨f - 1,by omega⟩
  have hne:l≠[]:=by rintro rfl;simp at hl
  obtain⟨k,r,rfl⟩:∃k r,l=k++[r]:=⟨_,_,(List.dropLast_concat_getLast hne).symm⟩
  have hr:=hC r (by simp)
  have htk:S.data.toList.take (enc (k++[r])).length=enc k++Lib.encodeRune r:=by rw[hS,iQ (k++[r]),List.take_left,iQ,oV]
  have hp:0<(enc (k++[r])).length:=by rw[iQ,List.length_append,oV];have:=D8 r;omega
  rw[Lib.lastIdxFuncFrom,if_pos hp,htk,Di r hr]
  simp only[pn_bl r hr.1]
  have hlen:(enc (k++[r])).length - (Lib.encodeRune r).length=(enc k).length:=by rw[iQ,List.length_append,oV];omega
  rw[hlen]
  cases hb:bl r with
  |false=>
   rw[if_pos rfl]
   exact .inr ⟨k,r,[],rfl,hb,rfl,rfl⟩
  |true=>
   rw[if_neg (by simp)]
   simp at hl
   rcases Vu S ([r]++m) n k g hl (by rw[hS];simp) (fun x hx=>hC x (by simp[hx])) (by omega)with⟨h1,h2⟩|⟨l1,q,l2,h1,h2,h3,h4⟩
   ·exact .inl ⟨by simp[h1,hb],h2⟩
   ·exact .inr ⟨l1,q,l2++[r],by rw[h1];simp,h2,by simp[h3,hb],h4⟩
def XM (l:List Int):List Int:=((l.dropWhile bl).reverse.dropWhile bl).reverse
theorem ald {p:Int→Bool} {l:List Int} (h:l.all p=true):l.dropWhile p=[]:=by
 induction l with
 |nil=>rfl
 |cons x l ih=>
  simp only[List.all_cons,Bool.and_eq_true]at h
  rw[List.dropWhile_cons,if_pos h.1]
  exact ih h.2
theorem dw_app {p:Int→Bool} {a:List Int} (b:List Int) (h:a.all p=true):(a++b).dropWhile p=b.dropWhile p:=by
 induction a with
 |nil=>rfl
 |cons x l ih=>
  simp only[List.all_cons,Bool.and_eq_true]at h
  rw[List.cons_append,List.dropWhile_cons,if_pos h.1]
  exact ih h.2
theorem trR (l1 l2:List Int) (r:Int) (h:bl r=false) (h2:l2.all bl=true):((l1++r::l2).reverse.dropWhile bl).reverse=l1++[r]:=by
 rw[List.reverse_append,List.reverse_cons,List.append_assoc,dw_app _ (by simpa using h2),List.singleton_append,List.dropWhile_cons,h]
 simp
theorem agy (l:List Int):l=l.takeWhile bl++l.dropWhile bl:=List.takeWhile_append_dropWhile.symm
theorem amm (l:List Int) (hC:jG l):Lib.trimLeftF pn (strOf (enc l))=strOf (enc (l.dropWhile bl)):=by
 have hf:l.length≤(enc l).length:=(iW l).2
 have hsz:(strOf (enc l)).size=(enc l).length:=o9 _
 unfold Lib.trimLeftF Lib.idxFunc
 by_cases hl:l=[]
 ·subst hl
  rfl
 have hlt:0<l.length:=List.length_pos_iff.2 hl
 have h:=aaD (strOf (enc l)) l [] ((strOf (enc l)).size+1) rfl hC (by omega)
 have hmore:Lib.idxFuncFrom pn false (strOf (enc l)) (strOf (enc l)).size (enc []).length=Lib.idxFuncFrom pn false (strOf (enc l)) ((strOf (enc l)).size+1) (enc []).length:=aaE (strOf (enc l)) l [] _ _ rfl hC (by omega) (by omega)
 rw[show(0:Nat)=(enc []).length from rfl,hmore,h]
 by_cases ha:l.all bl=true
 ·rw[if_pos ha,if_pos rfl,ald ha]
  rfl
 rw[if_neg ha,if_neg (by omega)]
 apply ByteArray.ext
 apply Array.ext'
 show((strOf (enc l)).extract _ _).data.toList=_
 rw[hsz]
 have e:((((enc ([]:List Int)).length+(enc (l.takeWhile bl)).length:Nat):Int)).toNat=(enc (l.takeWhile bl)).length:=by rw[show(enc ([]:List Int)).length=0 from rfl,Nat.zero_add,Int.toNat_natCast]
 rw[e]
 have hx:((strOf (enc l)).extract (enc (l.takeWhile bl)).length (enc l).length).data.toList=(enc l).drop (enc (l.takeWhile bl)).length:=by
  rw[ByteArray.data_extract]
  simp only[strOf,Array.toList_extract,List.extract_eq_take_drop]
  exact List.take_of_length_le (by rw[List.length_drop];exact Nat.le_refl _)
 rw[hx]
 have hs:enc l=enc (l.takeWhile bl)++enc (l.dropWhile bl):=by rw[←iQ,←agy]
 have hs2:=congrArg (List.drop (enc (l.takeWhile bl)).length) hs
 rw[List.drop_left]at hs2
 exact hs2
where
 aaE (S:ByteArray):∀(b a:List Int) (f g:Nat),S.data.toList=enc (a++b)→jG b→b.length≤f→b.length≤g→Lib.idxFuncFrom pn false S f (enc a).length=Lib.idxFuncFrom pn false S g (enc a).length
  |[],a,f,g,hS,_,_,_=>by
   rw[List.append_nil]at hS
   have hsz:S.size=(enc a).length:=by rw[←dl,hS]
   rw[Lib.idxFuncFrom_end _ _ _ _ _ (by omega),Lib.idxFuncFrom_end _ _ _ _ _ (by omega)]
  |r::b,a,f,g,hS,hC,hf,hg=>by
   obtain⟨f',rfl⟩:∃g,f=g+1:=⟨f - 1,by simp at hf;omega⟩
   obtain⟨g',rfl⟩:∃f,g=f+1:=⟨g - 1,by simp at hg;omega⟩
   have hr:=hC r (by simp)
   have hd:=ak5 a b r hr S hS
   have ih:=aaE S b (a++[r]) f' g' (by rw[hS];simp) (fun x hx=>hC x (by simp[hx])) (by simp at hf;omega) (by simp at hg;omega)
   rw[iQ,oV,List.length_append]at ih
   rw[Lib.idxFuncFrom,Lib.idxFuncFrom,hd,ih]
theorem aiA (l:List Int) (hC:jG l):Lib.trimRightF pn (strOf (enc l))=strOf (enc (l.reverse.dropWhile bl).reverse):=by
 have hf:l.length≤(enc l).length:=(iW l).2
 have hsz:(strOf (enc l)).size=(enc l).length:=o9 _
 unfold Lib.trimRightF Lib.rightEndF Lib.lastIdxFunc
 have hx:∀k,((strOf (enc l)).extract 0 k).data.toList=(enc l).take k:=fun k=>by
  rw[ByteArray.data_extract]
  simp[strOf,Array.toList_extract,List.extract_eq_take_drop]
 by_cases hl:l=[]
 ·subst hl
  rfl
 have hfu:=Vw (strOf (enc l)) [] l.length l (strOf (enc l)).size ((strOf (enc l)).size+1) rfl (by rw[List.append_nil];rfl) hC (by omega) (by omega)
 rw[←hsz]at hfu
 rw[hfu]
 rw[hsz]
 rcases Vu (strOf (enc l)) [] l.length l ((enc l).length+1) rfl (by rw[List.append_nil];rfl) hC (by omega)with⟨h1,h2⟩|⟨l1,r,l2,h1,h2,h3,h4⟩
 ·rw[h2,if_neg (by omega)]
  apply ByteArray.ext
  apply Array.ext'
  rw[hx,List.take_zero,ald (by simpa using h1)]
  rfl
 rw[h4,if_pos (by omega)]
 have hr:=hC r (by rw[h1];simp)
 have hdd:Lib.decodeGoB ((strOf (enc l)).extract (enc l1).length (enc l).length)=(r.toNat,(Lib.encodeRune r).length):=by
  have he:((strOf (enc l)).extract (enc l1).length (enc l).length).data.toList=Lib.encodeRune r++enc l2:=by
   rw[ByteArray.data_extract]
   simp only[strOf,Array.toList_extract,List.extract_eq_take_drop]
   rw[h1,iQ,List.drop_left,fA,List.take_of_length_le (by simp)]
  have hs2:((strOf (enc l)).extract (enc l1).length (enc l).length).size≠0:=by
   rw[←dl,he,List.length_append]
   have:=D8 r
   omega
  unfold Lib.decodeGoB
  rw[if_neg hs2,←Lib.decodeL_drop,List.drop_zero,he]
  exact wL r hr _
 have e:(((enc l1).length:Nat):Int).toNat=(enc l1).length:=by simp
 rw[e,hdd]
 apply ByteArray.ext
 apply Array.ext'
 rw[hx]
 have e2:(l.reverse.dropWhile bl).reverse=l1++[r]:=by rw[h1];exact trR l1 l2 r h2 h3
 rw[e2]
 show _=enc (l1++[r])
 conv=>lhs;rw[h1]
 have e3:enc (l1++r::l2)=enc (l1++[r])++enc l2:=by rw[←iQ];simp
 rw[e3]
 have e4:(enc l1).length+(Lib.encodeRune r).length=(enc (l1++[r])).length:=by rw[iQ,oV,List.length_append]
 rw[e4,List.take_left]
where
 Vw (S:ByteArray) (m:List Int):∀(n:Nat) (l:List Int) (f g:Nat),l.length=n→S.data.toList=enc (l++m)→jG l→n≤f→n≤g→Lib.lastIdxFuncFrom pn false S f (enc l).length=Lib.lastIdxFuncFrom pn false S g (enc l).length
  |0,l,f,g,hl,_,_,_,_=>by
   obtain rfl:=List.eq_nil_of_length_eq_zero hl
   rw[show(enc ([]:List Int)).length=0 from rfl,Lib.lastIdxFuncFrom_zero,Lib.lastIdxFuncFrom_zero]
  |n+1,l,f,g,hl,hS,hC,hf,hg=>by
   obtain⟨f',rfl⟩:∃g,f=g+1:=⟨f - 1,by omega⟩
   obtain⟨g',rfl⟩:∃f,g=f+1:=⟨g - 1,by omega⟩
   have hne:l≠[]:=by rintro rfl;simp at hl
   obtain⟨k,r,rfl⟩:∃k r,l=k++[r]:=⟨_,_,(List.dropLast_concat_getLast hne).symm⟩
   have hr:=hC r (by simp)
   simp at hl
   have htk:S.data.toList.take (enc (k++[r])).length=enc k++Lib.encodeRune r:=by rw[hS,iQ (k++[r]),List.take_left,iQ,oV]
   have hlen:(enc (k++[r])).length - (Lib.encodeRune r).length=(enc k).length:=by rw[iQ,List.length_append,oV];omega
   have ih:=Vw S ([r]++m) n k f' g' hl (by rw[hS];simp) (fun x hx=>hC x (by simp[hx])) (by omega) (by omega)
   rw[Lib.lastIdxFuncFrom,Lib.lastIdxFuncFrom,htk,Di r hr]
   simp only[hlen,ih]
theorem Ik {l:List Int} (h:jG l) (p:Int→Bool):jG (l.dropWhile p):=fun r hr=>h r ((List.dropWhile_sublist p).subset hr)
theorem Sr (l:List Int) (hC:jG l):Lib.trimF pn (strOf (enc l))=strOf (enc (XM l)):=by
 unfold Lib.trimF XM
 rw[amm l hC,aiA _ (Ik hC bl)]
def bk (r:Int):Bool:=decide (r=9)||(decide (r=10)||decide (r=13))
def fz (r:Int):Int:=if bk r=true then -1 else r
theorem amu:∀(l:List Int) (n:Nat),jG l→l.length≤n→Lib.mapGoD fz n (enc l)=enc (l.filter fun r=> !bk r)
 |[],0,_,_=>rfl
 |[],n+1,_,_=>rfl
 |_::_,0,_,h=>by simp at h
 |r::l,n+1,hC,hn=>by
  have hr:=hC r (by simp)
  have hne:enc (r::l)≠[]:=by rw[fA];exact adp r _
  have hd:=wL r hr (enc l)
  rw[←fA]at hd
  rw[Lib.mapGoD,if_neg hne,hd]
  have e:((r.toNat:Nat):Int)=r:=by have:=hr.1;omega
  simp only[e]
  rw[fA,List.drop_left,amu l n (fun x hx=>hC x (by simp[hx])) (by simp at hn;omega)]
  cases hb:bk r with
  |true=>
   have:fz r= -1:=by unfold fz;rw[hb];rfl
   rw[this]
   simp[hb]
  |false=>
   have h2:fz r=r:=by unfold fz;rw[hb];rfl
   rw[h2,if_pos hr.1]
   simp[hb,enc]
theorem map_enc (l:List Int) (hC:jG l):Lib.mapD fz (enc l)=enc (l.filter fun r=> !bk r):=amu l _ hC (iW l).2
theorem amr (r:Int) (h:Cc r) (h1:r≤127):fO (u r)=bl r∧brk (u r)=bk r:=by
 have hn:=un r h.1 (by omega)
 constructor
 ·unfold fO bl
  congr 1
  rw[hn,eq_iff_iff]
  have:=h.1
  omega
 have hk:∀k:UInt8,(k.toNat:Int)≤127→(decide (u r=k)=decide (r=(k.toNat:Int))):=fun k hk=>by
  congr 1
  rw[eq_iff_iff]
  constructor
  ·intro e
   have:=congrArg UInt8.toNat e
   rw[hn]at this
   have:=h.1
   omega
  intro e
  apply UInt8.toNat_inj.1
  rw[hn]
  omega
 unfold brk bk
 rw[hk 9 (by decide),hk 10 (by decide),hk 13 (by decide)]
 rfl
theorem IE {c:UInt8} (h:128≤c.toNat):fO c=false∧brk c=false:=by
 constructor
 ·unfold fO
  simp
  omega
 unfold brk
 have hk:∀k:UInt8,k.toNat<128→decide (c=k)=false:=fun k hk=>by
  rw[decide_eq_false_iff_not]
  rintro rfl
  omega
 rw[hk 9 (by decide),hk 10 (by decide),hk 13 (by decide)]
 rfl
theorem IG (r:Int) (h:Cc r) (h1:128≤r):∀c ∈ Lib.encodeRune r,128≤c.toNat:=by
 rcases aaf r h with⟨h2,_⟩|⟨_,a,b,e,ha,hb⟩|⟨_,a,b,c,e,ha,hb,hc⟩|⟨_,a,b,c,d,e,ha,hb,hc,hd⟩
 ·omega
 all_goals
  intro x hx
  rw[e]at hx
  simp only[List.mem_cons,List.not_mem_nil,or_false]at hx
 ·rcases hx with rfl|rfl<;>omega
 ·rcases hx with rfl|rfl|rfl<;>omega
 rcases hx with rfl|rfl|rfl|rfl<;>omega
theorem ac4 (r:Int) (h:128≤r):bl r=false∧bk r=false:=by
 constructor
 ·unfold bl;simp;omega
 unfold bk;simp;omega
theorem ale:∀l:List Int,jG l→(enc l).dropWhile fO=enc (l.dropWhile bl)
 |[],_=>rfl
 | r :: l, hC => by
  have hr:=hC r (by simp)
  have ih:=ale l fun x hx=>hC x (by simp[hx])
  by_cases h1:r≤127
  ·have e:=enc1 r hr.1 h1
   have hb:=(amr r hr h1).1
   rw[fA,e,List.singleton_append,List.dropWhile_cons,List.dropWhile_cons,hb,ih]
   split
   ·rfl
   ·rw[fA,e];rfl
  ·obtain⟨c,t,e⟩:∃c t,Lib.encodeRune r=c::t:=by
    cases e:Lib.encodeRune r with
    |nil=>have:=D8 r;rw[e]at this;simp at this
    |cons c t=>exact⟨c,t,rfl⟩
   have hc:=IG r hr (by omega) c (by rw[e];simp)
   rw[fA,e,List.cons_append,List.dropWhile_cons,(IE hc).1,List.dropWhile_cons,(ac4 r (by omega)).1]
   simp only[Bool.false_eq_true,if_false]
   rw[fA,e]
   rfl
theorem Qe:∀(n:Nat) (l:List Int),l.length=n→jG l→((enc l).reverse.dropWhile fO).reverse=enc (l.reverse.dropWhile bl).reverse
 |0,l,hl,_=>by
  obtain rfl:=List.eq_nil_of_length_eq_zero hl
  rfl
 | n + 1, l, hl, hC => by
  have hne:l≠[]:=by rintro rfl;simp at hl
  obtain⟨k,r,rfl⟩:∃k r,l=k++[r]:=⟨_,_,(List.dropLast_concat_getLast hne).symm⟩
  simp at hl
  have hr:=hC r (by simp)
  have ih:=Qe n k hl fun x hx=>hC x (by simp[hx])
  rw[iQ,oV,List.reverse_append,List.reverse_append]
  by_cases h1:r≤127
  ·have e:=enc1 r hr.1 h1
   have hb:=(amr r hr h1).1
   rw[e]
   simp only[List.reverse_singleton,List.singleton_append,List.dropWhile_cons,hb]
   split
   ·exact ih
   ·simp[iQ,oV,e]
  ·obtain⟨t,c,e⟩:∃t c,Lib.encodeRune r=t++[c]:=by
    have hn:Lib.encodeRune r≠[]:=by intro e;have:=D8 r;rw[e]at this;simp at this
    exact⟨_,_,(List.dropLast_concat_getLast hn).symm⟩
   have hc:=IG r hr (by omega) c (by rw[e];simp)
   rw[e]
   simp only[List.reverse_append,List.reverse_singleton,List.singleton_append,List.cons_append,List.dropWhile_cons,(IE hc).1,(ac4 r (by omega)).1,Bool.false_eq_true,if_false]
   simp[iQ,oV,e]
theorem trm_enc (l:List Int) (hC:jG l):ru (enc l)=enc (XM l):=by
 unfold ru XM
 rw[ale l hC,Qe _ _ rfl (Ik hC bl)]
theorem Qj:∀l:List Int,jG l→(enc l).filter (fun c=> !brk c)=enc (l.filter fun r=> !bk r)
 |[],_=>rfl
 | r :: l, hC => by
  have hr:=hC r (by simp)
  rw[fA,List.filter_append,Qj l fun x hx=>hC x (by simp[hx])]
  by_cases h1:r≤127
  ·have e:=enc1 r hr.1 h1
   have hb:=(amr r hr h1).2
   rw[e,List.filter_cons,hb,List.filter_cons]
   cases bk r<;>simp[enc,e]
  ·have hf:(Lib.encodeRune r).filter (fun c=> !brk c)=Lib.encodeRune r:=by
    refine List.filter_eq_self.2 fun c hc=>?_
    rw[(IE (IG r hr (by omega) c hc)).2]
    rfl
   rw[hf,List.filter_cons,(ac4 r (by omega)).2]
   simp[enc]
theorem afb {l:List Int} (h:jG l):jG l.reverse:=fun r hr=>h r (by simpa using hr)
theorem afc {l:List Int} (h:jG l):jG (XM l):=afb (Ik (afb (Ik h bl)) bl)
theorem adb (L:List UInt8):Lib.mapD fz (Lib.trimF pn (strOf (enc (dec L)))).data.toList=clean L:=by
 have hC:jG (dec L):=zU L
 rw[Sr _ hC]
 show Lib.mapD fz (enc (XM (dec L)))=_
 rw[map_enc _ (afc hC)]
 unfold clean
 rw[trm_enc _ hC,Qj _ (afc hC)]
theorem yF (L:List UInt8):(clean L).length≤3*L.length:=by
 unfold clean
 refine Nat.le_trans (List.length_filter_le _ _) ?_
 have h1:(ru (enc (dec L))).length≤(enc (dec L)).length:=by
  unfold ru
  rw[List.length_reverse]
  refine Nat.le_trans (List.dropWhile_sublist _).length_le ?_
  rw[List.length_reverse]
  exact(List.dropWhile_sublist _).length_le
 exact Nat.le_trans h1 (Dk _ L (Nat.le_refl _))
where
 Dk:∀(n:Nat) (L:List UInt8),L.length≤n→(enc (dec L)).length≤3*L.length
  |_,[],_=>by simp[lT,enc]
  |0,_::_,h=>by simp at h
  | n + 1, x :: t, h => by
   have hs:=nJ x t
   have he:(Lib.encodeRune (rd (x::t)).1).length≤3*(rd (x::t)).2.1.toNat:=by
    cases hw:(rd (x::t)).2.2
    ·rw[(sF x t).2 hw]
     have:(Lib.encodeRune 65533).length=3:=by decide
     omega
    ·rw[((sF x t).1 hw).2,List.length_take]
     omega
   simp only[List.length_cons]at h
   have ih:=Dk n ((x::t).drop (rd (x::t)).2.1.toNat) (by rw[List.length_drop,List.length_cons];omega)
   rw[List.length_drop,List.length_cons]at ih
   rw[iK,fA,List.length_append,List.length_cons]
   omega
end Go.Proofs.YtgamccijegollaaGreatDoor.acr
namespace Go.Proofs.YtgamccijegollaaGreatDoor.vZ
open Go.RowKit Base Dp qh BI acU wS acr
def rD (w:World):Prop:=Lib.Utf8Tabs 0 1 w
theorem rD.below {w w':World} (h:rD w) (hb:Below w.heap.size w w'):rD w':=Utf8Tabs_below h hb
theorem le_any (x:Int) (w:World):Calls Tryz.prog 61 #[.int .i32 x] w fun e w'=>e=.returned (.bool (decide (x≤32)))∧w'=w:=by
 go_enter Tryz.func61,Tryz.ntmps61
 go_wp2
 go_ret
 exact⟨rfl,rfl⟩
theorem alb (x:Int) (w:World):Calls Tryz.prog 63 #[.int .i32 x] w fun e w'=>e=.returned (.int .i32 (fz x))∧w'=w:=by
 obtain⟨y,hy⟩:∃y,y=fz x:=⟨_,rfl⟩
 rw[←hy]
 have HY:=hid hy
 clear hy
 by_cases h9:x=9
 ·subst h9
  go_enter Tryz.func63,Tryz.ntmps63
  go_wp2
  go_ret
  exact⟨by rw[HY.out];rfl,rfl⟩
 by_cases h10:x=10
 ·subst h10
  go_enter Tryz.func63,Tryz.ntmps63
  go_wp2
  go_ret
  exact⟨by rw[HY.out];rfl,rfl⟩
 by_cases h13:x=13
 ·subst h13
  go_enter Tryz.func63,Tryz.ntmps63
  go_wp2
  go_ret
  exact⟨by rw[HY.out];rfl,rfl⟩
 have q1:(x==9)=false:=beq_eq_false_iff_ne.2 h9
 have q2:(x==10)=false:=beq_eq_false_iff_ne.2 h10
 have q3:(x==13)=false:=beq_eq_false_iff_ne.2 h13
 have HE:Hid (y=x):=by show _=_;rw[HY.out];simp[fz,bk,h9,h10,h13]
 go_enter Tryz.func63,Tryz.ntmps63
 go_wp2
 go_ret
 exact⟨by rw[HE.out];rfl,rfl⟩
theorem pred (w:World):PredAt Tryz.prog 61 #[] encR pn w:=fun W x _=>(le_any (x:Int) W).mono fun e w' ⟨h1,h2⟩=>⟨by rw[h1];unfold pn;congr 2;rw[decide_eq_decide];omega,0,h2⟩
theorem maps (w:World):MapGrows Tryz.prog 63 #[] fz w:=fun W x _ _=>(alb (x:Int) W).mono fun e w' ⟨h1,h2⟩=>⟨h1,by rw[h2];exact Below.refl _ _⟩
theorem trI_len (l:List Int):(XM l).length≤l.length:=by
 unfold XM
 rw[List.length_reverse]
 refine Nat.le_trans (List.dropWhile_sublist _).length_le ?_
 rw[List.length_reverse]
 exact(List.dropWhile_sublist _).length_le
theorem clean_any (T:List UInt8) (w:World) (hs:T.length≤1000000) (hU:rD w):Calls Tryz.prog 19 #[.string (strOf T)] w fun e w'=>e=.returned (.string (strOf (clean T)))∧Below w.heap.size w w':=by
 have hlen:(enc (dec T)).length≤3*T.length:=yF.Dk _ T (Nat.le_refl _)
 have hdl:(dec T).length≤3000000:=by have:=(iW (dec T)).2;omega
 have hru:∀r ∈ dec T,agX r:=fun r hr=>by have:=zU T r hr;unfold Cc at this;unfold agX;omega
 have htl:(enc (XM (dec T))).length≤12000000:=by have h1:=(iW (XM (dec T))).1;have h2:=trI_len (dec T);omega
 have hcc:=adb T
 rw[Sr _ (zU T)]at hcc
 have hT:∀w:World,rD w→Calls Tryz.prog 60 #[.string (strOf (enc (dec T))),.func (.func 61) #[] #[]] w fun e w'=>e=.returned (.string (strOf (enc (XM (dec T)))))∧Below w.heap.size w w':=fun w h=>by
  have:=Tryz.strings_TrimFunc 61 #[] (enters_of Tryz.func61 (by kernel_rfl) rfl) pn (strOf (enc (dec T))) w (by rw[o9];omega) h (pred w)
  rw[Sr _ (zU T)]at this
  exact this
 have hM:∀w:World,rD w→Calls Tryz.prog 62 #[.func (.func 63) #[] #[],.string (strOf (enc (XM (dec T))))] w fun e w'=>e=.returned (.string (strOf (clean T)))∧Below w.heap.size w w':=fun w h=>by
  have:=Tryz.strings_Map 63 #[] (enters_of Tryz.func63 (by kernel_rfl) rfl) fz (strOf (enc (XM (dec T)))) w (by rw[o9];omega) (maps w) (fun x hx=>by unfold fz;split<;>omega) h
  rw[hcc]at this
  exact this
 have HT:=hid hT
 have HM:=hid hM
 have HU:=hid hU
 have HRU:=hid hru
 clear hT hM hU hcc hru htl
 have hsz:(strOf T).size≤1000000:=by rw[o9];exact hs
 have hcv:=fun(w:World) s=>run_bytes_of_string (P:=Tryz.prog) w 9 45 5 s Tryz.underlying9 Tryz.underlying45 Tryz.underlying5
 have Gh:Hid ((strOf T).size≤grownCap w (strOf T).size 0 5):=grownCap_ge w (strOf T).size 0 5
 go_enter Tryz.func19,Tryz.ntmps19
 go_wp2_with fail
 clear hcv
 refine(qh.decode_any _ (strOf T).size _ T _ (fV (strOf T) _ w 5) (by omega) Gh.out).mono ?_
 rintro e w2 ⟨v,rfl,hown,hb2⟩
 have HB2:Hid (Below w.heap.size w w2):=bel (((Below.refl w.heap.size w).alloc (Nat.le_refl _) _).drew) hb2
 clear hb2 Gh
 obtain⟨A,c,rfl,hc,hm,hr⟩:=aJ hown
 have HR:=hid hr
 clear hown hr
 go_wp2_with fail
 refine(BI.eF A _ c (dec T) _ HR.out HRU.out (by omega)).mono ?_
 rintro e w3 ⟨v,rfl,hown,hb3⟩
 have HB3:=hid (bel HB2.out hb3)
 clear hb3 HR
 obtain⟨A3,c3,rfl,hc3,hm3,hr3⟩:=aJ hown
 have hst:=aF 45 9 5 Tryz.underlying45 Tryz.underlying5 Tryz.underlying9 _ c3 hr3
 clear hown hr3
 go_wp2_with fail
 clear hst
 refine(HT.out _ (HU.out.below HB3.out)).mono ?_
 rintro e w4 ⟨rfl,hb4⟩
 have HB4:=hid (bel HB3.out hb4)
 clear hb4
 go_wp2_with fail
 refine(HM.out _ (HU.out.below HB4.out)).mono ?_
 rintro e w5 ⟨rfl,hb5⟩
 have iG:=hid (bel HB4.out hb5)
 clear hb5
 go_wp2
 go_ret
 exact⟨rfl,iG.out⟩
end Go.Proofs.YtgamccijegollaaGreatDoor.vZ
namespace Go.Proofs.YtgamccijegollaaGreatDoor.WQ
open Go.RowKit Base L6 Dp dI cO acv ac2 acD aco wS yw tN Fp mW Pbx tK yx jQ sU pO acr vZ TI akb
theorem Kv (C:List UInt8):(wS.apart C).rest.length≤C.length∧(wS.apart C).dY.length≤C.length∧(wS.apart C).fB.length≤C.length:=by
 have h1:=rH 35 C
 have h2:=rH 63 (fG 35 C).1
 have h3:=rH 58 (fG 63 (fG 35 C).1).1
 unfold wS.apart
 simp only
 split
 ·refine⟨?_,?_,?_⟩<;>simp only<;>omega
 refine⟨?_,?_,?_⟩<;>simp only<;>omega
theorem Gy (u:U) (p:Parts):(wS.finish u p).aO=u.aO:=by
 cases h1:p.hq<;>cases h2:p.hf<;>simp[wS.finish,h1,h2]
theorem aiw {fn:Func} {a b:Tmp} {w:World} {g:Nat} {u:U} {p:Value} (h:fn.results=#[.cell a 25,.tmp b]) (hU:UB w g u p) (z:Int) (tmps:Array Value) (h2:tmps.getD a undef=.pointer (some ⟨g,0,none⟩)) (h3:tmps.getD b undef=.int .i64 z):
  (results fn tmps).run Tryz.prog w=.ok (.tuple #[.agg (cells u p),.int .i64 z]) w:=by
 have hp':tmps[a]?.getD undef=.pointer (some ⟨g,0,none⟩):=by simpa using h2
 have hq':tmps[b]?.getD undef=.int .i64 z:=by simpa using h3
 simp[results,h,hp',hq',asAddr,hU.load]
def xC (w:World) (o:Option U) (e:Ending) (w':World):Prop:=Below w.heap.size w w'∧∃A n c,e=.returned (.tuple #[.agg (cells (o.getD U0) (.slice A n c)),.int .i64 (if o.isSome=true then 0 else 2)])∧Own w w' (o.getD U0) A n c
theorem GY (T:List UInt8) (w:World) (hs:T.length≤65536) (hL:oI w) (hT:Tab.Pow w) (hM:Max w) (hU:rD w):Calls Tryz.prog 16 #[.string (strOf T),.pointer none] w (xC w (wS.url T none)):=by
 have hcl:=yF T
 obtain⟨C,hC⟩:∃x,x=clean T:=⟨_,rfl⟩
 rw[←hC]at hcl
 obtain⟨p,hp⟩:∃x,x=wS.apart C:=⟨_,rfl⟩
 have hpl:=Kv C
 rw[←hp]at hpl
 obtain⟨OR,hOR⟩:∃x,x=wS.resolve p none:=⟨_,rfl⟩
 obtain⟨OU,hOU⟩:∃x,x=wS.url T none:=⟨_,rfl⟩
 have HOU:Hid (OU=OR.map fun u=>wS.finish u p):=by show _=_;rw[hOU];unfold wS.url;rw[←hC,←hp,←hOR]
 rw[←hOU]
 have HCL:Hid (∀w:World,rD w→Calls Tryz.prog 19 #[.string (strOf T)] w fun e w'=>e=.returned (.string (strOf C))∧Below w.heap.size w w'):=fun w h=>by rw[hC];exact clean_any T w (by omega) h
 have HAP:Hid (∀w:World,Max w→Calls Tryz.prog 53 #[.string (strOf C)] w fun e w'=>e=.returned (.agg (bQ p))∧Below w.heap.size w w'):=fun w h=>by rw[hp];exact qm C w (by omega) h
 have HRS:Hid (∀w:World,oI w→Tab.Pow w→Max w→Calls Tryz.prog 54 #[.agg (bQ p),.pointer none] w (mO w OR)):=fun w a c d=>by rw[hOR];exact Yq p w (by omega) a c d
 have WC:Hid (∀(u:U) (A:Option Addr) (n c:Nat) (w:World),Calls Tryz.prog 55 #[.agg (cells u (.slice A n c)),.agg (bQ p)] w fun e w'=>e=.returned (.agg (cells (wS.finish u p) (.slice A n c)))∧Below w.heap.size w w'):=fun u A n c w=>Gx u p A n c w (by omega) (by omega)
 have hTI:¬((strOf T).size:Int)>65536:=by rw[o9];omega
 have atU:((strOf T).size:Int)≤65536:=by omega
 have HL:=hid hL
 have HT:=hid hT
 have HM:=hid hM
 have HUT:=hid hU
 clear hOU hOR hp hC hL hT hM hU hpl hcl
 obtain⟨s,rt,q,f,hq,hf⟩:=p
 go_enter Tryz.func16,Tryz.ntmps16
 go_upto_region 1 with(fail)
 generalize hw:World.alloc w _=w1
 have h1:UB w1 (w.heap.size) (U0) (.slice none 0 0)∧Below w.heap.size w w1:=by
  subst hw
  exact laid1 w _ _
 clear hw
 have bP:Hid (w.heap.size≤w.heap.size):=(Below.refl w.heap.size w).size
 have bM:=hid (bel (Below.refl w.heap.size w) h1.2)
 have aW:=hid h1.1
 clear h1
 go_wp2_with fail
 refine(HCL.out _ (HUT.out.below bM.out)).mono ?_
 rintro e w2 ⟨rfl,hbx⟩
 have bK:=hid (aW.out.below hbx)
 have eX:=hid (bel bM.out hbx)
 clear aW bM
 clear hbx
 go_wp2_with fail
 refine(HAP.out _ (HM.out.below eX.out)).mono ?_
 rintro e w3 ⟨rfl,hbx⟩
 have bD:=hid (bK.out.below hbx)
 have cZ:=hid (bel eX.out hbx)
 clear bK eX
 clear hbx
 rw[show Value.agg (bQ ⟨s,rt,q,f,hq,hf⟩)=.agg #[.string (strOf s),.string (strOf rt),.string (strOf q),.string (strOf f),.bool hq,.bool hf]from rfl]
 go_upto_region 4 with(fail)
 generalize hw:World.alloc w3 _=w4
 have h1:PB w4 (w3.heap.size) (⟨s,rt,q,f,hq,hf⟩)∧Below w3.heap.size w3 w4:=by
  subst hw
  exact laid1 w3 _ _
 clear hw
 have hlr:=bD.out.lt
 have J9:Hid (w.heap.size≠w3.heap.size):=by show _≠_;omega
 have J8:Hid (w3.heap.size≠w.heap.size):=by show _≠_;omega
 clear hlr
 have WL:Hid (w.heap.size≤w3.heap.size):=cZ.out.size
 have bF:=hid (bD.out.below h1.2)
 have dD:=hid (bel cZ.out h1.2)
 have kT:=hid h1.1
 clear bD cZ
 clear h1
 obtain⟨p0,p1,p2,p3,p4,p5⟩:=kT.out.facts
 go_wp2_with fail
 clear p0 p1 p2 p3 p4 p5
 refine(HRS.out _ (HL.out.below dD.out) (bY HT.out dD.out) (HM.out.below dD.out)).mono ?_
 rintro e w5 ⟨hbx,u',A',n',c',ok,rfl,hown,yK⟩
 have iy:Hid (w.heap.size<w4.heap.size):=bF.out.lt
 have Ib:Hid (w.heap.size≤w4.heap.size):=dD.out.size
 have bH:=hid (bF.out.below hbx)
 have mF:=hid (kT.out.below hbx)
 have fC:=hid (bel dD.out hbx)
 have F8:=hid yK
 have ajR:=hid (show Own w4 w5 u' A' n' c' from hown)
 clear yK hown
 clear bF kT dD
 clear hbx
 rw[show Value.agg (cells u' (.slice A' n' c'))=.agg #[.string (strOf u'.au),.string (strOf u'.usr),.string (strOf u'.MX),.string (strOf u'.hst),.bool u'.hh,.int .i64 u'.port,.bool u'.opq,.string (strOf u'.txt),.slice A' n' c',.bool u'.hq,.bool u'.hf,.string (strOf u'.dY),.string (strOf u'.fB)]from rfl]
 go_upto_region 5 with(fail)
 generalize hw:World.alloc w5 _=w6
 have h1:UB w6 (w5.heap.size) (u') (.slice A' n' c')∧Below w5.heap.size w5 w6:=by
  subst hw
  exact laid1 w5 _ _
 clear hw
 have hlr:=bH.out.lt
 have aX:Hid (w.heap.size≠w5.heap.size):=by show _≠_;omega
 have nO:Hid (w5.heap.size≠w.heap.size):=by show _≠_;omega
 clear hlr
 have hlp:=mF.out.lt
 have jf:Hid (w3.heap.size≠w5.heap.size):=by show _≠_;omega
 have Ko:Hid (w5.heap.size≠w3.heap.size):=by show _≠_;omega
 clear hlp
 have fK:Hid (w.heap.size≤w5.heap.size):=fC.out.size
 have bT:=hid (bH.out.below h1.2)
 have yg:=hid (mF.out.below h1.2)
 have gq:=hid (bel fC.out h1.2)
 have bG:=hid h1.1
 have HBU:=hid h1.2
 clear bH mF fC
 clear h1
 skip
 cases ok with
 |false=>
  have qc:Hid (OU=none):=by
   show _=_
   rcases F8.out with⟨_,h⟩|⟨h,_⟩
   ·cases h
   rw[HOU.out,h];rfl
  go_wp2_with (refine aC bT.out U0 none 0 0 (.tmp 4) (.tmp 24) rfl rfl rfl rfl ?_)
  try simp only[Exit.inBlock,Exit.then]
  refine bodyPost_ret (w:=World.setRow w6 w.heap.size (cells U0 (.slice none 0 0))) (aiw (u:=U0) (p:=.slice none 0 0) rfl (bT.out.row U0 _) 2 _ rfl rfl) rfl ?_
  rw[qc.out]
  exact⟨below_setRow gq.out bP.out _,none,0,0,rfl,wY _ _ rfl⟩
 |true=>
  have HSO:Hid (OU=some (wS.finish u' ⟨s,rt,q,f,hq,hf⟩)):=by
   show _=_
   rcases F8.out with⟨h,_⟩|⟨_,h,_⟩
   ·rw[HOU.out,h];rfl
   cases h
  have hfp:(wS.finish u' ⟨s,rt,q,f,hq,hf⟩).aO=u'.aO:=Gy _ _
  obtain⟨d0,d1,d2,d3,d4,d5,d6,d7,d8,d9,d10,d11,d12⟩:=bG.out.facts
  obtain⟨p0,p1,p2,p3,p4,p5⟩:=yg.out.facts
  go_wp2_with fail
  clear d0 d1 d2 d3 d4 d5 d6 d7 d8 d9 d10 d11 d12
  clear p0 p1 p2 p3 p4 p5
  skip
  have Tf:Hid (Below w5.heap.size w5 w6):=HBU.out
  refine(WC.out u' A' n' c' _).mono ?_
  rintro e w7 ⟨rfl,hbx⟩
  have dQ:=hid (bT.out.below hbx)
  have HXpw7:=hid (yg.out.below hbx)
  have dO:=hid (bG.out.below hbx)
  have iU:=hid (bel gq.out hbx)
  clear bT yg bG gq
  have ajv:=hid hbx
  clear hbx
  have hwn:=(ajR.out.below Tf.out).below ajv.out
  go_wp2_with (refine aC dQ.out (wS.finish u' ⟨s,rt,q,f,hq,hf⟩) A' n' c' (.tmp 4) (.tmp 27) rfl rfl rfl rfl ?_)
  try simp only[Exit.inBlock,Exit.then]
  have ho:=(hwn.row iy.out (cells (wS.finish u' ⟨s,rt,q,f,hq,hf⟩) (.slice A' n' c'))).base Ib.out
  refine bodyPost_ret (w:=World.setRow w7 w.heap.size (cells (wS.finish u' ⟨s,rt,q,f,hq,hf⟩) (.slice A' n' c'))) (aiw (u:=wS.finish u' ⟨s,rt,q,f,hq,hf⟩) (p:=.slice A' n' c') rfl (dQ.out.row _ _) 0 _ rfl rfl) rfl ?_
  rw[HSO.out]
  exact⟨below_setRow iU.out bP.out _,A',n',c',rfl,by show Own _ _ (wS.finish u' ⟨s,rt,q,f,hq,hf⟩) _ _ _;unfold Own;rw[hfp];exact ho⟩
end Go.Proofs.YtgamccijegollaaGreatDoor.WQ
namespace Go.Proofs.YtgamccijegollaaGreatDoor.agU
open Go.RowKit Base qh BI cO acA acG acv acD aco acJ wS
theorem jY {α:Type} {c:Prop} [Decidable c] {x:Option α} {u:α} (h:(if c then none else x)=some u):¬c∧x=some u:=by
 by_cases hc:c
 ·rw[if_pos hc]at h;cases h
 rw[if_neg hc]at h;exact⟨hc,h⟩
theorem akR {au s:List UInt8} {u:U} (h:authority au s=some u):u.au=au:=by
 unfold authority at h
 obtain⟨_,h⟩:=jY h
 obtain⟨_,h⟩:=jY h
 split at h
 ·cases h;rfl
 cases h
theorem Ul {p:Parts} {base:Option U} (h1:p.au≠FILE) (h2:special p.au=false) (h3:p.au≠[]):wS.resolve p base=wS.plain p:=by
 unfold wS.resolve
 rw[if_neg h1,if_neg (by rw[h2];simp),if_pos h3]
theorem adz (u:U) (p:Parts):(finish u p).au=u.au:=by
 cases h1:p.hq<;>cases h2:p.hf<;>simp[finish,h1,h2]
end Go.Proofs.YtgamccijegollaaGreatDoor.agU
namespace Go.Proofs.YtgamccijegollaaGreatDoor.Hz
open Go.RowKit Base zD FM fU dI
theorem zW (k:Int) (hk:k≠6) (n:Nat) (h:n<16):ji k (FM.jR n).toNat=false:=by
 by_cases ho:k<0∨6<k
 ·exact Oc k _ ho
 have H:∀(a:Fin 6) (b:Fin 16),ji (a.val:Int) ((FM.jR b.val).toNat:Int)=false:=by decide
 have:=H ⟨k.toNat,by omega⟩ ⟨n,h⟩
 simpa[Int.toNat_of_nonneg (show 0≤k by omega)]using this
theorem Oq (k:Int) (hk:k≠6):ji k ((37:UInt8).toNat:Int)=false:=by
 by_cases ho:k<0∨6<k
 ·exact Oc k _ ho
 have H:∀(a:Fin 6),ji (a.val:Int) ((37:UInt8).toNat:Int)=false:=by decide
 have:=H ⟨k.toNat,by omega⟩
 simpa[Int.toNat_of_nonneg (show 0≤k by omega)]using this
theorem fA (k:Int) (c:UInt8) (L:List UInt8):enc k (c::L)=one k c++enc k L:=by simp[enc]
theorem lV (k:Int) (L:List UInt8) (h:∀c ∈ L,ji k c.toNat=false):enc k L=L:=by
 induction L with
 |nil=>rfl
 |cons c L ih=>
  rw[fA,ih (fun d hd=>h d (by simp[hd]))]
  unfold one
  rw[h c (by simp)]
  rfl
theorem Aj (k:Int) (hk:k≠6) (c:UInt8):∀d ∈ one k c,ji k d.toNat=false:=by
 intro d hd
 have hc:=c.toNat_lt
 unfold one at hd
 split at hd
 ·simp only[List.mem_cons,List.not_mem_nil,or_false]at hd
  rcases hd with rfl|rfl|rfl
  ·exact Oq k hk
  ·exact zW k hk _ (by omega)
  exact zW k hk _ (by omega)
 rename_i hn
 simp only[List.mem_cons,List.not_mem_nil,or_false]at hd
 subst hd
 simpa using hn
theorem XD (k:Int) (hk:k≠6) (L:List UInt8):enc k (enc k L)=enc k L:=by
 refine lV k _ fun d hd=>?_
 simp only[enc,List.mem_flatMap]at hd
 obtain⟨c,_,hd⟩:=hd
 exact Aj k hk c d hd
theorem zZ (x:UInt8) (t:List UInt8) (h:x≠37):esc (x::t)=none:=by
 match t with
 |[]=>rfl
 |[_]=>rfl
 |_::_::_=>rw[esc,if_neg (fun e=>h e.1)]
end Go.Proofs.YtgamccijegollaaGreatDoor.Hz
namespace Go.Proofs.YtgamccijegollaaGreatDoor.J5
open Go.RowKit Base dI cO oO wu WU akq acJ WJ
theorem dn {p:UInt8→Prop} [∀c,Decidable (p c)] (h:∀n:Fin 256,p (UInt8.ofNat n.val)) (c:UInt8):p c:=by
 have:=h ⟨c.toNat,c.toNat_lt⟩
 simpa using this
theorem XY (c:UInt8):low (low c)=low c:=dn (p:=fun c=>low (low c)=low c) (by decide+kernel) c
theorem wV (L:List UInt8):lower (lower L)=lower L:=by
 unfold lower
 rw[List.map_map]
 exact List.map_congr_left fun c _=>XY c
theorem ahQ (c:UInt8) (h:lH 16 c=true):33≤c.toNat∧c.toNat≤126:=by
 have:=dn (p:=fun c=>lH 16 c=true→33≤c.toNat∧c.toNat≤126) (by decide+kernel) c
 exact this h
theorem ahO (c:UInt8) (h:lH 10 c=true):okb true c=true∧low c=c∧c≠37:=by
 have:=dn (p:=fun c=>lH 10 c=true→okb true c=true∧low c=c∧c≠37) (by decide+kernel) c
 exact this h
theorem lM (c:UInt8) (h:okb true c=true):33≤c.toNat∧c.toNat≤126∧JU true c=false∧c≠91∧c≠37:=by
 have:=dn (p:=fun c=>okb true c=true→33≤c.toNat∧c.toNat≤126∧JU true c=false∧c≠91∧c≠37) (by decide+kernel) c
 exact this h
theorem KP {x:UInt8}:∀(ws:List (List UInt8)),x ∈ jo ws→x=58∨∃v ∈ ws,x ∈ v
 |[],h=>by simp[jo]at h
 |[v],h=>.inr ⟨v,by simp,h⟩
 | v :: u :: r, h => by
  have h':x ∈ v++58::jo (u::r):=h
  rcases List.mem_append.1 h' with h1|h1
  ·exact .inr ⟨v,by simp,h1⟩
  ·rcases List.mem_cons.1 h1 with h2|h2
   ·exact .inl h2
   ·rcases KP (u::r) h2 with h3|⟨t,ht,hx⟩
    ·exact .inl h3
    ·exact .inr ⟨t,by simp at ht⊢;exact .inr ht,hx⟩
theorem adS {x:UInt8} {L:List Nat} (hL:∀n ∈ L,n<65536) (h:x ∈ jx L):33≤x.toNat∧x.toNat≤126:=by
 unfold jx at h
 rcases KP _ h with rfl|⟨v,hv,hx⟩
 ·decide
 obtain⟨n,hn,rfl⟩:=List.mem_map.1 hv
 exact ahQ x (List.all_eq_true.1 (IZ n n (Nat.le_refl _) (hL n hn)).1 x hx)
theorem prt_mem {x:UInt8} {f:Nat→Nat} (h6:∀i,f i<65536) (h:x ∈ nP.prt f):33≤x.toNat∧x.toNat≤126:=by
 have hV:=nP.W9 h6
 unfold nP.prt at h
 split at h
 ·exact adS hV h
 simp only[List.mem_append,List.mem_cons,List.not_mem_nil,or_false]at h
 rcases h with(h|rfl|rfl)|h
 ·exact adS (fun n hn=>hV n (List.mem_of_mem_take hn)) h
 ·decide
 ·decide
 exact adS (fun n hn=>hV n (List.mem_of_mem_drop hn)) h
theorem U4:∀(L:List UInt8),(∀c ∈ L,c≠37)→fU.dec L=L
 |[],_=>rfl
 |c::L,h=>by
  rw[fU.kJ c L (Hz.zZ c L (h c (by simp))),U4 L fun d hd=>h d (by simp[hd])]
theorem EO {d:Bool} {L:List UInt8} (h:oks d L=true) {c:UInt8} (hc:c ∈ L):okb d c=true:=List.all_eq_true.1 h c hc
theorem amL {d:Bool} {L:List UInt8} (h:∀c ∈ L,okb d c=true):oks d L=true:=List.all_eq_true.2 h
theorem amK {L:List UInt8} (h:oks true L=true):L.head?≠some 91:=by
 intro e
 cases L with
 |nil=>cases e
 |cons c r=>
  simp at e
  exact(lM c (EO h (by simp))).2.2.2.1 e
theorem am6 {c:UInt8} (n:Nat) (h:c ∈ Gl.pr n):okb true c=true∧low c=c∧c≠37:=by
 have hd:∀m:Nat,c ∈ Lib.decDigits m→okb true c=true∧low c=c∧c≠37:=fun m hm=>
  ahO c (List.all_eq_true.1 (agV.N8 (m+1) m (by omega)).2 c hm)
 rw[agV.af9]at h
 simp only[List.mem_append,List.mem_cons]at h
 rcases h with h|rfl|h|rfl|h|rfl|h
 ·exact hd _ h
 ·decide
 ·exact hd _ h
 ·decide
 ·exact hd _ h
 ·decide
 exact hd _ h
theorem pr_ne (n:Nat):Gl.pr n≠[]:=by
 obtain⟨c,r,h,_⟩:=agV.pr_head n
 rw[h]
 simp
theorem al4 {M:List UInt8} (ho:oks true M=true) (hl:lower M=M):hst M true=XB M:=by
 unfold hst
 rw[if_neg (amK ho),if_pos rfl,U4 M fun c hc=>(lM c (EO ho hc)).2.2.2.2]
 unfold SL
 rw[if_pos ho,hl]
def Good (sp:Bool) (R:List UInt8):Prop:=hst R sp=some R∧(∀c ∈ R,33≤c.toNat∧c.toNat≤126)∧(R.head?≠some 91→∀c ∈ R,JU sp c=false)
theorem afv {R:List UInt8} (ho:oks true R=true) (hl:lower R=R) (hd:XB R=some R):Good true R:=
 ⟨by rw[al4 ho hl,hd],fun c hc=>⟨(lM c (EO ho hc)).1,(lM c (EO ho hc)).2.1⟩,fun _ c hc=>(lM c (EO ho hc)).2.2.1⟩
theorem alk {L:List UInt8} (ho:oks false L=true) {c:UInt8} (h:c ∈ FM.enc 0 L):U1 c=false∧33≤c.toNat∧c.toNat≤126:=by
 unfold FM.enc at h
 obtain⟨x,hx,hc⟩:=List.mem_flatMap.1 h
 have hb:=EO ho hx
 have H:=dn (p:=fun x=>okb false x=true→∀c ∈ FM.one 0 x,U1 c=false∧33≤c.toNat∧c.toNat≤126) (by decide+kernel) x
 exact H hb c hc
theorem Qw {s:List UInt8} {sp:Bool} {R:List UInt8} (h:hst s sp=some R):Good sp R:=by
 unfold hst at h
 split at h
 ·unfold hbr at h
  split at h
  ·unfold addr at h
   split at h
   ·cases h
   rename_i V hv
   injection h with h
   obtain⟨f,rfl,h6⟩:=Yw hv
   rw[Ov]at h
   subst h
   refine⟨?_,?_,?_⟩
   ·unfold hst
    rw[if_pos (show(91::(nP.prt f++[93])).head?=some 91 from rfl)]
    show hbr (nP.prt f++[93])=_
    have hs:Lib.hasSuffix (nP.prt f++[93]) [93]=true:=by
     unfold Lib.hasSuffix
     rw[List.isSuffixOf_iff_suffix]
     exact⟨_,rfl⟩
    have ht:Lib.trimSuffix (nP.prt f++[93]) [93]=nP.prt f:=by
     unfold Lib.trimSuffix
     rw[if_pos hs]
     simp
    unfold hbr
    rw[if_pos hs,ht]
    unfold addr
    rw[six_prt f h6]
    show some (91::(am8 (V8 f)++[93]))=_
    rw[Ov]
   ·intro c hc
    simp only[List.mem_cons,List.mem_append,List.not_mem_nil,or_false]at hc
    rcases hc with rfl|hc|rfl
    ·decide
    ·exact prt_mem h6 hc
    decide
   intro hn
   exact absurd rfl hn
  cases h
 split at h
 ·rename_i hsp
  subst hsp
  unfold SL at h
  split at h
  ·rename_i ho
   have ho2:oks true (lower (fU.dec s))=true:=by rw[VF];exact ho
   unfold XB at h
   split at h
   ·cases h
   rename_i hne
   split at h
   ·rename_i he
    cases hp:NR (lower (fU.dec s))with
    |none=>rw[hp]at h;cases h
    |some n=>
     rw[hp]at h
     injection h with h
     subst h
     have hn:=Ri hp
     refine afv (amL fun c hc=>(am6 n hc).1) ?_ ?_
     ·unfold lower
      conv=>rhs;rw[←List.map_id (Gl.pr n)]
      exact List.map_congr_left fun c hc=>(am6 n hc).2.1
     unfold XB
     rw[if_neg (pr_ne n),if_pos (agV.ends_pr n),agV.prs_pr n hn]
     rfl
   rename_i he
   injection h with h
   subst h
   refine afv ho2 (wV _) ?_
   unfold XB
   rw[if_neg hne,if_neg he]
  cases h
 rename_i hsp
 have hsp':sp=false:=by simpa using hsp
 subst hsp'
 unfold zA at h
 split at h
 ·rename_i ho
  injection h with h
  subst h
  have hm:=fun c hc=>alk ho (c:=c) hc
  refine⟨?_,fun c hc=>(hm c hc).2,fun _ c hc=>by rw[Vd];exact(hm c hc).1⟩
  unfold hst
  rw[if_neg,if_neg (by simp)]
  ·unfold zA
   rw[if_pos (amL fun c hc=>by rw[ahY,(hm c hc).1];rfl),Hz.XD 0 (by decide)]
  intro e
  cases hE:FM.enc 0 s with
  |nil=>rw[hE]at e;cases e
  |cons a r=>
   rw[hE]at e
   simp at e
   subst e
   have:=(hm 91 (by rw[hE];simp)).1
   revert this
   decide
 cases h
theorem aaA {s:List UInt8} {sp:Bool} {R:List UInt8} (h:hst s sp=some R):R.length≤3*s.length+200:=by
 unfold hst at h
 split at h
 ·unfold hbr at h
  split at h
  ·unfold addr at h
   split at h
   ·cases h
   injection h with h
   subst h
   simp only[List.length_cons,List.length_append,List.length_nil]
   unfold am8
   rename_i V _
   have:=agb (fun i=>V.getD i 0)
   omega
  cases h
 split at h
 ·unfold SL at h
  split at h
  ·unfold XB at h
   split at h
   ·cases h
   split at h
   ·cases hp:NR (lower (fU.dec s))with
    |none=>rw[hp]at h;cases h
    |some n=>
     rw[hp]at h
     injection h with h
     subst h
     have:=Gl.pr_len n (Ri hp)
     omega
   injection h with h
   subst h
   have:=fU.ku s
   simp[lower]
   omega
  cases h
 unfold zA at h
 split at h
 ·injection h with h
  subst h
  have:=FM.iW 0 s
  omega
 cases h
end Go.Proofs.YtgamccijegollaaGreatDoor.J5
namespace Go.Proofs.YtgamccijegollaaGreatDoor.acK
open Go.RowKit Base zD qh BI acU acr cO acA acG acv acD aco acJ wS agU
theorem abk (x:UInt8) (t:List UInt8) (h:x.toNat≤127):rd (x::t)=((x.toNat:Int),1,true):=by
 simp only[rd]
 rw[if_pos (by omega)]
theorem ahi (x:UInt8) (t:List UInt8) (h:x.toNat≤127):dec (x::t)=(x.toNat:Int)::dec t:=by
 rw[iK,abk x t h]
 rfl
theorem E5 (x:UInt8) (b:List UInt8) (hx:x.toNat≤127):∀(m k:Nat) (l h r:Int) (t:List UInt8),128≤l→tail m k l h r (t++x::b)=tail m k l h r t
 |0,_,_,_,_,_,_=>by simp[tail]
 |m+1,k,l,h,r,[],hl=>by
  simp only[List.nil_append,tail]
  rw[if_pos (by omega)]
 |m+1,k,l,h,r,c::t,hl=>by
  simp only[List.cons_append,tail]
  split
  ·rfl
  ·exact E5 x b hx m (k+1) 128 191 _ t (by omega)
theorem lo_ge (c:Int) (h1:194≤c) (h2:c≤244):128≤lo c:=by unfold lo;(repeat' split)<;>omega
theorem rd_stop (y:UInt8) (t:List UInt8) (x:UInt8) (b:List UInt8) (hx:x.toNat≤127):rd (y::t++x::b)=rd (y::t):=by
 simp only[List.cons_append,rd]
 by_cases h1:(y.toNat:Int)≤127
 ·rw[if_pos h1,if_pos h1]
 rw[if_neg h1,if_neg h1]
 by_cases h2:(y.toNat:Int)≤193∨245≤(y.toNat:Int)
 ·rw[if_pos h2,if_pos h2]
 rw[if_neg h2,if_neg h2]
 have hl:=lo_ge (y.toNat:Int) (by omega) (by omega)
 split
 ·exact E5 x b hx _ _ _ _ _ _ hl
 split
 ·exact E5 x b hx _ _ _ _ _ _ hl
 exact E5 x b hx _ _ _ _ _ _ hl
theorem Qb (x:UInt8) (b:List UInt8) (hx:x.toNat≤127):∀(n:Nat) (a:List UInt8),a.length≤n→dec (a++x::b)=dec a++(x.toNat:Int)::dec b
 |_,[],_=>by rw[List.nil_append,ahi x b hx];rfl
 |0,_::_,h=>by simp at h
 |n+1,y::t,hl=>by
  have hs:=nJ y t
  have hd:(y::t++x::b).drop (rd (y::t)).2.1.toNat=(y::t).drop (rd (y::t)).2.1.toNat++x::b:=by
   rw[List.drop_append_of_le_length]
   simp only[List.length_cons];omega
  have e:dec (y::t++x::b)=(rd (y::t)).1::dec ((y::t).drop (rd (y::t)).2.1.toNat++x::b):=by
   rw[List.cons_append,iK,←List.cons_append,rd_stop y t x b hx,hd]
  rw[e,Qb x b hx n _ (by simp only[List.length_drop,List.length_cons]at hl⊢;omega),iK y t]
  rfl
theorem ahp (x:UInt8) (h:x.toNat≤127):Lib.encodeRune (x.toNat:Int)=[x]:=by
 rw[enc1 _ (by omega) (by omega),u_of]
def ED (L:List UInt8):List UInt8:=enc (dec L)
theorem rG (L:List UInt8):clean L=(ru (ED L)).filter fun c=> !brk c:=rfl
theorem xX (a:List UInt8) (x:UInt8) (b:List UInt8) (hx:x.toNat≤127):ED (a++x::b)=ED a++x::ED b:=by
 unfold ED
 rw[Qb x b hx _ a (Nat.le_refl _),iQ,fA,ahp x hx]
 rfl
theorem ajn:ED []=[]:=rfl
theorem oL:∀L:List UInt8,(∀c ∈ L,c.toNat≤127)→ED L=L
 |[],_=>rfl
 |x::t,h=>by
  have:=xX [] x t (h x (by simp))
  rw[List.nil_append,ajn,List.nil_append]at this
  rw[this,oL t (fun c hc=>h c (by simp[hc]))]
theorem Xp (t:UInt8) (h:brk t=true):fO t=true∧t.toNat≤127:=by
 unfold brk at h
 simp only[Bool.or_eq_true,decide_eq_true_eq]at h
 rcases h with rfl|rfl|rfl<;>decide
theorem afO (c:UInt8) (h:fO c=false):brk c=false:=by
 cases hb:brk c
 ·rfl
 rw[(Xp c hb).1]at h;cases h
theorem iP (b:UInt8):∀L:List UInt8,(∀c ∈ L,c≠b)→fG b L=(L,[],false)
 |[],_=>rfl
 |c::L,h=>by rw[fG,if_neg (h c (by simp)),iP b L (fun d hd=>h d (by simp[hd]))]
theorem kW (b:UInt8):∀(L M:List UInt8),(∀c ∈ L,c≠b)→fG b (L++b::M)=(L,M,true)
 |[],M,_=>by rw[List.nil_append,fG,if_pos rfl]
 |c::L,M,h=>by rw[List.cons_append,fG,if_neg (h c (by simp)),kW b L M (fun d hd=>h d (by simp[hd]))]
end Go.Proofs.YtgamccijegollaaGreatDoor.acK
namespace Go.Proofs.YtgamccijegollaaGreatDoor.oN
open Go.RowKit Base cO acA acG WR acv acD aco acJ wS agU
def pl (l:List ByteArray):Nat:=(aZ.aO l).length
structure Fit (u:U) (N:Nat):Prop where
 all:u.au.length+u.usr.length+u.MX.length+u.hst.length+u.txt.length+u.dY.length+u.fB.length+pl u.aO≤N
 lo: -1≤u.port
 hi:u.port≤65535
theorem Fit.mono {u:U} {N M:Nat} (h:Fit u N) (hm:N≤M):Fit u M:=⟨Nat.le_trans h.all hm,h.lo,h.hi⟩
theorem Q5:pl []=0:=rfl
theorem X9 (l:List ByteArray) (s:ByteArray):pl (l++[s])=pl l+1+s.size:=by
 unfold pl
 rw[aZ.abf,List.length_append,List.length_cons,show s.data.toList.length=s.size from Array.length_toList]
 omega
theorem af6 (l:List ByteArray) (k:Nat):pl (l.take k)≤pl l:=by
 unfold pl
 rw[aZ.fM,aZ.fM,List.length_take]
 have:=aZ.pK l k
 omega
theorem aed (f:Bool) (l:List ByteArray):pl (mM f l)≤pl l:=by
 unfold mM
 split
 ·exact Nat.le_refl _
 exact af6 _ _
theorem wr_len (f:Bool) (L:List UInt8):(wr f L).length≤3*L.length+1:=by
 unfold wr
 split
 ·simp only[List.length_append,List.length_take,List.length_cons,List.length_nil];omega
 have:=FM.iW 4 L;omega
theorem amX (f last:Bool) (l:List ByteArray) (L:List UInt8):pl (Hu f last l L)≤pl l+3*L.length+2:=by
 have h0:(strOf ([]:List UInt8)).size=0:=rfl
 have h1:=aed f l
 unfold Hu
 split
 ·split
  ·rw[X9,h0];omega
  omega
 split
 ·split
  ·rw[X9,h0];omega
  omega
 have:=wr_len (f&&l.isEmpty) L
 rw[X9,o9]
 omega
theorem amY (f sp:Bool):∀(M:List UInt8) (l:List ByteArray) (b:List UInt8),pl (wb f sp l b M)≤pl l+3*(b.length+M.length)+2*(M.length+1)
 |[],l,b=>by
  have:=amX f true l b
  unfold wb
  simp only[List.length_nil]
  omega
 |c::M,l,b=>by
  unfold wb
  split
  ·have h1:=amY f sp M (Hu f false l b) []
   have h2:=amX f false l b
   simp only[List.length_nil,List.length_cons]at h1⊢
   omega
  ·have h1:=amY f sp M l (b++[c])
   simp only[List.length_append,List.length_nil,List.length_cons]at h1⊢
   omega
theorem EP (au:List UInt8) (l:List ByteArray) (s:List UInt8):pl (walk au l s)≤pl l+5*s.length+2:=by
 have:=amY (decide (au=FILE)) (special au) s l []
 unfold walk
 simp only[List.length_nil]at this
 omega
theorem yV (au s:List UInt8):pl (rooted au s)≤5*s.length+2:=by
 unfold rooted
 split
 ·rw[Q5];omega
 have h:=EP au [] (if rU (special au) s 0=true then s.drop 1 else s)
 have h2:(if rU (special au) s 0=true then s.drop 1 else s).length≤s.length:=by
  split
  ·rw[List.length_drop];omega
  exact Nat.le_refl _
 rw[Q5]at h
 omega
theorem zT (b:UInt8):∀L:List UInt8,(fG b L).1.length≤L.length∧(fG b L).2.1.length≤L.length
 |[]=>by simp[fG]
 |c::L=>by
  have h:=zT b L
  unfold fG
  split
  ·simp
  ·simp only[List.length_cons]
   omega
theorem Ip (b:UInt8):∀L:List UInt8,(fG b L).1.length+(fG b L).2.1.length≤L.length
 |[]=>by simp[fG]
 |c::L=>by
  have h:=Ip b L
  unfold fG
  split
  ·simp
  ·simp only[List.length_cons]
   omega
theorem QF:∀(L:List UInt8) (p:List UInt8×List UInt8),nV L=some p→p.1.length+p.2.length+1≤L.length
 |[],p,h=>by cases h
 | c :: L, p, h => by
  unfold nV at h
  split at h
  ·rename_i q hq
   have:=QF L q hq
   cases h
   simp only[List.length_cons]
   omega
  ·split at h
   ·cases h
    simp
   ·cases h
theorem ak1 (s:List UInt8):(jL s).1.length+(jL s).2.1.length+3*(jL s).2.2.1.length≤3*s.length:=by
 unfold jL
 split
 ·simp
 rename_i p hp
 have h1:=QF s p hp
 have h2:=Ip 58 p.1
 have h3:=FM.iW 5 (fG 58 p.1).1
 have h4:=FM.iW 5 (fG 58 p.1).2.1
 simp only
 omega
theorem prt_fit {au d:List UInt8} {z:Int} (h:prt au d=some z): -1≤z∧z≤65535:=by
 unfold prt at h
 split at h
 ·cases h;omega
 split at h
 ·split at h
  ·cases h;omega
  split at h
  ·cases h;omega
  cases h
 cases h
theorem qQ {au s:List UInt8} {u:U} {N:Nat} (h:authority au s=some u) (hN:au.length+5*s.length+300≤N):Fit u N:=by
 unfold authority at h
 obtain⟨_,h⟩:=jY h
 obtain⟨_,h⟩:=jY h
 have hw:(s.take (upto (special au) s)).length+(s.drop (upto (special au) s)).length=s.length:=by rw[List.length_take,List.length_drop];omega
 have hc:=ak1 (s.take (upto (special au) s))
 have hh:=tN.EJ (jL (s.take (upto (special au) s))).2.2.1 false
 have hr:=yV au (s.drop (upto (special au) s))
 split at h
 ·rename_i H p e1 e2
  have h1:=J5.aaA e1
  have h2:=prt_fit e2
  cases h
  refine⟨?_,h2.1,h2.2⟩
  simp only[U0,List.length_nil]
  omega
 cases h
theorem adK {b:U} {N M:Nat} (hb:Fit b M) (l:List ByteArray) (hl:M+pl l≤N):Fit {aH b with aO:=l} N:=by
 have:=hb.all
 refine⟨?_,hb.lo,hb.hi⟩
 simp only[aH,U0,List.length_nil]
 omega
theorem Dv {b:U} {N M:Nat} (hb:Fit b M) (l:List ByteArray) (hl:M+(pl l - pl b.aO)≤N):Fit {aH b with aO:=l} N:=by
 have:=hb.all
 refine⟨?_,hb.lo,hb.hi⟩
 simp only[aH,U0,List.length_nil]
 omega
theorem UK {b:U} {M:Nat} (hb:Fit b M):Fit (along (aH b) b) M:=by
 have:=hb.all
 refine⟨?_,hb.lo,hb.hi⟩
 simp only[along,aH,U0,List.length_nil]
 omega
theorem Ju {r:List UInt8} {b u:U} {N M:Nat} (h:relative r b=some u) (hb:Fit b M) (hN:M+5*r.length+300≤N):Fit u N:=by
 have hd:=List.length_drop (i:=2) (l:=r)
 have hw:=(List.dropWhile_sublist (gB true) (l:=r.drop 2)).length_le
 unfold relative at h
 split at h
 ·refine qQ h ?_
  have:=hb.all
  split<;>omega
 injection h with h
 subst h
 split
 ·have:=yV b.au r
  exact adK hb _ (by omega)
 split
 ·exact(UK hb).mono (by omega)
 have h1:=EP b.au (mM false b.aO) r
 have h2:=aed false b.aO
 exact Dv hb _ (by omega)
theorem SC (l:List ByteArray) {N:Nat} (H:List UInt8) (hl:4+pl l+H.length≤N):Fit {uF with hst:=H,aO:=l} N:=by
 refine⟨?_,?_,?_⟩<;>simp[uF,U0,FILE]
 omega
theorem far_fit {s:List UInt8} {u:U} {N:Nat} (h:far s=some u) (hN:5*s.length+300≤N):Fit u N:=by
 have h1:=yV FILE s
 have h2:=yV FILE (s.drop (upto true s))
 have h3:(s.take (upto true s)).length+(s.drop (upto true s)).length=s.length:=by rw[List.length_take,List.length_drop];omega
 unfold far at h
 split at h
 ·cases h;exact SC _ [] (by simp only[List.length_nil];omega)
 split at h
 ·cases h;exact SC _ [] (by simp only[List.length_nil];omega)
 split at h
 ·cases h
 rename_i H e
 have h5:=J5.aaA e
 cases h
 refine SC _ _ ?_
 split
 ·simp only[List.length_nil];omega
 omega
theorem aak {r:List UInt8} {base:Option U} {u:U} {N M:Nat} (h:file r base=some u) (hb:∀b,base=some b→Fit b M) (hN:M+5*r.length+300≤N):Fit u N:=by
 unfold file at h
 split at h
 ·refine far_fit h ?_
  rw[List.length_drop];omega
 split at h
 ·injection h with h
  subst h
  have h1:∀(q:Prop) [Decidable q] (x:List ByteArray),pl (if q then x.take 1 else[])≤pl x:=by
   intro q _ x
   split
   ·exact af6 _ _
   rw[Q5];omega
  have hd:=List.length_drop (i:=1) (l:=r)
  cases base with
  |none=>
   have h2:=EP FILE (if nrm ((Option.elim none [] U.aO).head?.elim [] fun x=>x.data.toList)=true∧JR (r.drop 1)=false then(Option.elim none [] U.aO).take 1 else[]) (r.drop 1)
   have h3:=h1 (nrm ((Option.elim none [] U.aO).head?.elim [] fun x=>x.data.toList)=true∧JR (r.drop 1)=false) (Option.elim none [] U.aO)
   have h4:pl (Option.elim none [] U.aO)=0:=rfl
   exact SC _ [] (by simp only[List.length_nil];omega)
  |some b=>
   have hb:=hb b rfl
   have h2:=EP FILE (if nrm ((Option.elim (some b) [] U.aO).head?.elim [] fun x=>x.data.toList)=true∧JR (r.drop 1)=false then(Option.elim (some b) [] U.aO).take 1 else[]) (r.drop 1)
   have h3:=h1 (nrm ((Option.elim (some b) [] U.aO).head?.elim [] fun x=>x.data.toList)=true∧JR (r.drop 1)=false) (Option.elim (some b) [] U.aO)
   have h4:pl (Option.elim (some b) [] U.aO)=pl b.aO:=rfl
   exact Dv hb _ (by omega)
 split at h
 ·injection h with h
  subst h
  have h1:pl (if JR r=true then[]else mM true [])=0:=by split<;>rfl
  have h2:=EP FILE (if JR r=true then[]else mM true []) r
  exact SC _ [] (by simp only[List.length_nil];omega)
 rename_i b
 have hb:=hb b rfl
 split at h
 ·injection h with h
  subst h
  exact(UK hb).mono (by omega)
 injection h with h
 subst h
 have h1:pl (if JR r=true then[]else mM true b.aO)≤pl b.aO:=by
  split
  ·rw[Q5];omega
  exact aed _ _
 have h2:=EP FILE (if JR r=true then[]else mM true b.aO) r
 exact Dv hb _ (by omega)
theorem opq_len (m:Bool) (s:List UInt8):(wS.opq m s).length≤3*s.length+3:=by
 have h:=FM.iW 0 s
 unfold wS.opq Lib.trimSuffix
 split
 ·rw[List.length_append]
  split
  ·rw[List.length_take];simp only[List.length_cons,List.length_nil];omega
  simp only[List.length_cons,List.length_nil];omega
 omega
theorem aie {p:Parts} {u:U} {N:Nat} (h:wS.plain p=some u) (hN:p.au.length+5*p.rest.length+300≤N):Fit u N:=by
 have hd:=List.length_drop (i:=2) (l:=p.rest)
 unfold wS.plain at h
 split at h
 ·exact qQ h (by omega)
 split at h
 ·injection h with h
  subst h
  have h1:=yV p.au p.rest
  refine⟨?_,?_,?_⟩<;>simp[U0]
  omega
 injection h with h
 subst h
 have h1:=opq_len (p.hq||p.hf) p.rest
 refine⟨?_,?_,?_⟩<;>simp[U0,Q5]
 omega
theorem abq {p:Parts} {base:Option U} {u:U} {N M:Nat} (h:wS.resolve p base=some u) (hb:∀b,base=some b→Fit b M) (hN:M+p.au.length+5*p.rest.length+300≤N):Fit u N:=by
 have hw:=(List.dropWhile_sublist (gB true) (l:=p.rest)).length_le
 unfold wS.resolve at h
 split at h
 ·refine aak h (fun b e=>hb b ?_) (by omega)
  cases base with
  |none=>cases e
  |some c=>
   simp only[Option.filter]at e
   split at e
   ·exact e
   cases e
 split at h
 ·split at h
  ·split at h
   ·exact Ju h (hb _ rfl) (by omega)
   exact qQ h (by omega)
  exact qQ h (by omega)
 split at h
 ·exact aie h (by omega)
 split at h
 ·cases h
 rename_i b
 have hb1:=hb b rfl
 split at h
 ·unfold rY at h
  obtain⟨_,h⟩:=jY h
  injection h with h
  subst h
  exact hb1.mono (by omega)
 split at h
 ·exact aak h (fun c e=>by injection e with e;subst e;exact hb1) (by omega)
 exact Ju h hb1 (by omega)
theorem ady {u:U} {p:Parts} {N M:Nat} (h:Fit u M) (hN:M+3*p.dY.length+3*p.fB.length≤N):Fit (finish u p) N:=by
 have h1:=FM.iW (if special u.au=true then 3 else 2) p.dY
 have h2:=FM.iW 1 p.fB
 obtain⟨a,b,c⟩:=h
 unfold finish
 cases p.hq<;>cases p.hf<;>refine⟨?_,?_,?_⟩<;>simp only[if_true,if_false,Bool.false_eq_true]<;>first|assumption|omega
theorem ag5 (C:List UInt8):(wS.apart C).au.length+(wS.apart C).rest.length+(wS.apart C).dY.length+(wS.apart C).fB.length≤C.length:=by
 have h1:=Ip 35 C
 have h2:=Ip 63 (fG 35 C).1
 have h3:=Ip 58 (fG 63 (fG 35 C).1).1
 unfold wS.apart
 simp only
 split
 ·simp only[lower,List.length_map];omega
 simp only[List.length_nil];omega
theorem AZ {s:List UInt8} {base:Option U} {u:U} {M:Nat} (h:wS.url s base=some u) (hb:∀b,base=some b→Fit b M):Fit u (M+15*s.length+300):=by
 have h1:=acr.yF s
 have h2:=ag5 (clean s)
 unfold wS.url at h
 obtain⟨v,hv,rfl⟩:=Option.map_eq_some_iff.1 h
 exact ady (abq (N:=M+(wS.apart (clean s)).au.length+5*(wS.apart (clean s)).rest.length+300) hv hb (Nat.le_refl _)) (by omega)
end Go.Proofs.YtgamccijegollaaGreatDoor.oN
namespace Go.Proofs.YtgamccijegollaaGreatDoor.atP
open Go.RowKit Base qh BI cO acA acG acv acD aco acJ wS agU acK
theorem Io (b:UInt8):∀L:List UInt8,(∀c ∈ (fG b L).1,c ∈ L)∧∀c ∈ (fG b L).2.1,c ∈ L
 |[]=>by simp[fG]
 | x :: L => by
  have ih:=Io b L
  unfold fG
  split
  ·exact⟨fun c hc=>by simp at hc,fun c hc=>by simp only at hc;simp[hc]⟩
  ·refine⟨fun c hc=>?_,fun c hc=>?_⟩
   ·simp only[List.mem_cons]at hc⊢
    rcases hc with h|h
    ·exact .inl h
    ·exact .inr (ih.1 c h)
   ·simp only at hc
    simp[ih.2 c hc]
theorem RX {L:List UInt8} {c:UInt8} (h:Lib.hasSuffix L [c]=true):c ∈ L:=by
 unfold Lib.hasSuffix at h
 have:=List.isSuffixOf_iff_suffix.1 h
 exact this.subset (by simp)
end Go.Proofs.YtgamccijegollaaGreatDoor.atP
