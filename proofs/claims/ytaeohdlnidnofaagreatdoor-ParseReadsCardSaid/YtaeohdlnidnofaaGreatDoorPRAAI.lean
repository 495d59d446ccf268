/- Lemmas. -/
import Derived.Test.YtaeohdlnidnofaaGreatDoorPRAAH
import Derived.Lib.SliceRun
import Derived.Lib.IndexAny
import Derived.Lib.ItoaNum
set_option linter.unusedSimpArgs false
set_option linter.unusedVariables false
set_option maxRecDepth 100000
set_option maxHeartbeats 64000000
namespace Go.Proofs.YtaeohdlnidnofaaGreatDoor
open Tryz
namespace iK
open Go.RowKit gJ dJ
def rF (L:List UInt8):Bool:=decide (L=[46])||decide (lower L=[37,50,101])
def qw (L:List UInt8):Bool:=decide (lower L=[46,46])||decide (lower L=[46,37,50,101])||decide (lower L=[37,50,101,46])||decide (lower L=[37,50,101,37,50,101])
def lu (L:List UInt8):Bool:=match L with
 |[a,b]=>letter (a.toNat:Int)&&(decide (b=58)||decide (b=124))
 |_=>false
def wO (L:List UInt8):Bool:=match L with
 |[a,b]=>letter (a.toNat:Int)&&decide (b=58)
 |_=>false
def pK (L:List UInt8):Bool:=match L with
 |[a,b]=>lu [a,b]
 |a::b::c::_=>lu [a,b]&&(decide (c=47)||decide (c=92)||decide (c=63)||decide (c=35))
 |_=>false
theorem ZR (c:UInt8):low c=46↔c=46:=by
 have H:∀n:Fin 256,low (UInt8.ofNat n.val)=46↔UInt8.ofNat n.val=46:=by decide+kernel
 have:=H ⟨c.toNat,c.toNat_lt⟩;simpa using this
theorem iO (c:UInt8) (L:List UInt8):lower (c::L)=low c::lower L:=rfl
theorem pY (L:List UInt8):lower L=[46]↔L=[46]:=by
 constructor
 ·intro h
  match L,h with
  |[c],h=>rw[iO]at h;injection h with h _;rw[(ZR c).1 h]
  |_::_::_,h=>simp[lower]at h
  |[],h=>simp[lower]at h
 rintro rfl;rfl
theorem XM (L:List UInt8):qw (46::L)=rF L:=by
 have e:low 46=46:=rfl;unfold qw rF;rw[iO,e,Bool.eq_iff_iff];simp[←pY L]
theorem He (c:UInt8) (L:List UInt8) (l:c≠46):qw (c::L)=(decide (3<(c::L).length)&&(rF ((c::L).take 3)&&rF ((c::L).drop 3))):=by
 have j:low c≠46:=fun h=>l ((ZR c).1 h)
 match L with
 |[]=>simp[qw,lower,j]
 |[_]=>simp[qw,lower,j]
 |[_,_]=>simp[qw,lower,j]
 |a::b::d::L=>
  unfold qw rF;simp only[List.take_succ_cons,List.take_zero,List.drop_succ_cons,List.drop_zero,iO,List.length_cons];rw[Bool.eq_iff_iff];simp[j,←pY (d::L),iO,show lower ([]:List UInt8)=[]from rfl];constructor
  ·rintro(⟨i,g,f,e,k⟩|⟨i,g,f,e⟩)
   ·exact⟨⟨i,g,f⟩,.inl ⟨e,k⟩⟩
   exact⟨⟨i,g,f⟩,.inr e⟩
  rintro⟨⟨i,g,f⟩,⟨e,k⟩|e⟩
  ·exact .inl ⟨i,g,f,e,k⟩
  exact .inr ⟨i,g,f,e⟩
end iK
namespace mF
open Go.RowKit Base gJ iK
theorem tl (s:ByteArray):s.toList=s.data.toList:=by
 obtain⟨d⟩:=s;rw[ByteArray.toList_mk]
theorem Ep (s:ByteArray) (L:List UInt8):(s.toList==L)=decide (s.data.toList=L):=by
 rw[tl,Bool.eq_iff_iff];simp
theorem eF (M L:List UInt8):((ah M).toList==L)=decide (M=L):=Ep (ah M) L
theorem jH (s:ByteArray) (w:World) (h:s.size≤maxLen):Calls prog 236 #[.string s] w fun e w'=>e=.returned (.bool (rF s.data.toList))∧Below w.heap.size w w':=by
 obtain⟨o,a⟩:∃o,o=rF s.data.toList:=⟨_,rfl⟩;rw[←a];by_cases h1:s.data.toList=[46]
 ·have g:(s.toList==[46])=true:=by rw[Ep];exact decide_eq_true h1
  have j:Hid (o=true):=by show _=_;rw[a];unfold rF;rw[decide_eq_true h1];rfl
  clear h1 a;go_enter func236,ntmps236;go_wp2;go_ret;exact⟨aC j.symm,Below.refl _ _⟩
 have g:(s.toList==[46])=false:=by rw[Ep];exact decide_eq_false h1
 obtain⟨V,d⟩:∃V,V=ah (lower s.data.toList):=⟨_,rfl⟩;have f:(V.toList==[37,50,101])=o:=by rw[d,eF,a];unfold rF;rw[decide_eq_false h1,Bool.false_or]
 have HV:=hid d;have i:=hid f;clear h1 a d f;go_enter func236,ntmps236;go_wp2_with fail
 refine(gJ.jP s _ h).mono ?_;rintro e k ⟨rfl,c⟩;rw[←HV.out];go_wp2;go_ret;exact⟨aC i,c⟩
theorem yH (s:ByteArray) (w:World) (g:s.size≤1073741824):Calls prog 166 #[.string s] w fun e w'=>e=.returned (.bool (rF s.data.toList))∧Below w.heap.size w w':=by
 obtain⟨o,d⟩:∃o,o=rF s.data.toList:=⟨_,rfl⟩;rw[←d];obtain⟨V,c⟩:∃V,V=ah (lower s.data.toList):=⟨_,rfl⟩;by_cases h1:s.data.toList=[46]
 ·have j:(V.toList==[46])=true:=by rw[c,eF];exact decide_eq_true ((pY _).2 h1)
  have l:Hid (o=true):=by show _=_;rw[d];unfold rF;rw[decide_eq_true h1];rfl
  have HV:=hid c;clear h1 d c;go_enter func166,ntmps166;go_wp2_with fail
  refine(iD.jP s _ g).mono ?_;rintro e i ⟨rfl,a⟩;rw[←HV.out];go_wp2;go_ret;exact⟨aC l.symm,a⟩
 have j:(V.toList==[46])=false:=by rw[c,eF];exact decide_eq_false (fun h=>h1 ((pY _).1 h))
 have f:(V.toList==[37,50,101])=o:=by rw[c,eF,d];unfold rF;rw[decide_eq_false h1,Bool.false_or]
 have HV:=hid c;have k:=hid f;clear h1 d c f;go_enter func166,ntmps166;go_wp2_with fail
 refine(iD.jP s _ g).mono ?_;rintro e i ⟨rfl,a⟩;rw[←HV.out];go_wp2;go_ret;exact⟨aC k,a⟩
end mF
namespace oW
open Go.RowKit Base dJ iK
theorem aae (c:UInt8) (n:Nat) (a:n<256):decide (c=UInt8.ofNat n)=decide (c.toNat=n):=by
 refine decide_eq_decide.2 ⟨?_,?_⟩
 ·rintro rfl;simp;omega
 intro h;rw[←h];simp
theorem XZ (c:UInt8):decide (c=58)=decide (c.toNat=58):=aae c 58 (by omega)
theorem ZN (c:UInt8):decide (c=124)=decide (c.toNat=124):=aae c 124 (by omega)
theorem JO (s:ByteArray) (h:s.size=2):s.data.toList=[s[0]'(by omega),s[1]'(by omega)]:=by
 refine List.ext_getElem ((show s.data.toList.length=s.size from Array.length_toList).trans h) fun i h1 h2=>?_;have:i=0∨i=1:=by simp at h2;omega
 rcases this with rfl|rfl<;>rfl
theorem zN (L:List UInt8) (h:lu L=true):L.length=2:=by
 match L,h with
 |[_,_],_=>rfl
theorem PX (L:List UInt8) (h:L.length≠2):lu L=false:=by
 cases e:lu L with
 |false=>rfl
 |true=>exact absurd (zN L e) h
theorem Qu (L:List UInt8) (h:lu L=false):wO L=false:=by
 match L,h with
 |[],_=>rfl
 |[_],_=>rfl
 |[a,b],h=>
  simp only[lu,wO]at h⊢;cases hl:letter (a.toNat:Int)with
  |false=>rfl
  |true=>
   rw[hl]at h;simp at h;simp[h.1]
 |_::_::_::_,_=>rfl
theorem Qv (a b:UInt8) (h:lu [a,b]=true):wO [a,b]=decide (b=58):=by
 simp only[lu,wO,Bool.and_eq_true]at h⊢;rw[h.1,Bool.true_and]
theorem jM (s:ByteArray) (w:World):Calls prog 193 #[.string s] w fun e w'=>e=.returned (.bool (lu s.data.toList))∧w=w':=by
 obtain⟨o,d⟩:∃o,o=lu s.data.toList:=⟨_,rfl⟩;rw[←d];by_cases h2:s.size=2
 ·have q:0<s.size:=by omega
  have n:1<s.size:=by omega
  obtain⟨a,m⟩:∃a,s[0]=a:=⟨_,rfl⟩;obtain⟨b,l⟩:∃b,s[1]=b:=⟨_,rfl⟩;have k:((s.size:Int)==2)=true:=by simp;omega
  obtain⟨p,f⟩:∃p,p=letter (a.toNat:Int):=⟨_,rfl⟩;have h:Hid (o=(p&&(decide (b.toNat=58)||decide (b.toNat=124)))):=by
   show _=_;rw[d,JO s h2,lu,m,l,f,XZ,ZN]
  have g:=hid f;clear d f h2;by_cases e1:b.toNat=58
  ·have j:((b.toNat:Int)==58)=true:=by simp;omega
   have c:Hid (o=p):=by show _=_;rw[h.out,decide_eq_true e1];simp
   clear e1;cases p;all_goals
    go_enter func193,ntmps193;go_wp2_with fail
    refine(dJ.dO _ _).mono ?_;rintro e i ⟨rfl,rfl⟩;rw[←g.out];go_wp2;go_ret;exact⟨aC c.symm,rfl⟩
  have j:((b.toNat:Int)==58)=false:=by simp;omega
  by_cases e2:b.toNat=124
  ·have q3:((b.toNat:Int)==124)=true:=by simp;omega
   have c:Hid (o=p):=by show _=_;rw[h.out,decide_eq_true e2];simp
   clear e1 e2;cases p;all_goals
    go_enter func193,ntmps193;go_wp2_with fail
    refine(dJ.dO _ _).mono ?_;rintro e i ⟨rfl,rfl⟩;rw[←g.out];go_wp2;go_ret;exact⟨aC c.symm,rfl⟩
  have q3:((b.toNat:Int)==124)=false:=by simp;omega
  have c:Hid (o=false):=by show _=_;rw[h.out,decide_eq_false e1,decide_eq_false e2];simp
  clear e1 e2;cases p;all_goals
   go_enter func193,ntmps193;go_wp2_with fail
   refine(dJ.dO _ _).mono ?_;rintro e i ⟨rfl,rfl⟩;rw[←g.out];go_wp2;go_ret;exact⟨aC c.symm,rfl⟩
 have k:((s.size:Int)==2)=false:=by simp;omega
 have c:Hid (o=false):=by show _=_;rw[d];exact PX _ (by rw[show s.data.toList.length=s.size from Array.length_toList];exact h2)
 clear h2 d;go_enter func193,ntmps193;go_wp2;go_ret;exact⟨aC c.symm,rfl⟩
theorem bT (s:ByteArray) (w:World):Calls prog 164 #[.string s] w fun e w'=>e=.returned (.bool (lu s.data.toList))∧w=w':=by
 obtain⟨o,d⟩:∃o,o=lu s.data.toList:=⟨_,rfl⟩;rw[←d];by_cases h2:s.size=2
 ·have q:0<s.size:=by omega
  have n:1<s.size:=by omega
  obtain⟨a,m⟩:∃a,s[0]=a:=⟨_,rfl⟩;obtain⟨b,l⟩:∃b,s[1]=b:=⟨_,rfl⟩;have k:((s.size:Int)==2)=true:=by simp;omega
  obtain⟨p,f⟩:∃p,p=letter (a.toNat:Int):=⟨_,rfl⟩;have h:Hid (o=(p&&(decide (b.toNat=58)||decide (b.toNat=124)))):=by
   show _=_;rw[d,JO s h2,lu,m,l,f,XZ,ZN]
  have g:=hid f;clear d f h2;by_cases e1:b.toNat=58
  ·have j:((b.toNat:Int)==58)=true:=by simp;omega
   have c:Hid (o=p):=by show _=_;rw[h.out,decide_eq_true e1];simp
   clear e1;cases p;all_goals
    go_enter func164,ntmps164;go_wp2_with fail
    refine(iD.dO _ _).mono ?_;rintro e i ⟨rfl,rfl⟩;rw[←g.out];go_wp2;go_ret;exact⟨aC c.symm,rfl⟩
  have j:((b.toNat:Int)==58)=false:=by simp;omega
  by_cases e2:b.toNat=124
  ·have q3:((b.toNat:Int)==124)=true:=by simp;omega
   have c:Hid (o=p):=by show _=_;rw[h.out,decide_eq_true e2];simp
   clear e1 e2;cases p;all_goals
    go_enter func164,ntmps164;go_wp2_with fail
    refine(iD.dO _ _).mono ?_;rintro e i ⟨rfl,rfl⟩;rw[←g.out];go_wp2;go_ret;exact⟨aC c.symm,rfl⟩
  have q3:((b.toNat:Int)==124)=false:=by simp;omega
  have c:Hid (o=false):=by show _=_;rw[h.out,decide_eq_false e1,decide_eq_false e2];simp
  clear e1 e2;cases p;all_goals
   go_enter func164,ntmps164;go_wp2_with fail
   refine(iD.dO _ _).mono ?_;rintro e i ⟨rfl,rfl⟩;rw[←g.out];go_wp2;go_ret;exact⟨aC c.symm,rfl⟩
 have k:((s.size:Int)==2)=false:=by simp;omega
 have c:Hid (o=false):=by show _=_;rw[d];exact PX _ (by rw[show s.data.toList.length=s.size from Array.length_toList];exact h2)
 clear h2 d;go_enter func164,ntmps164;go_wp2;go_ret;exact⟨aC c.symm,rfl⟩
theorem yV (s:ByteArray) (w:World):Calls prog 141 #[.string s] w fun e w'=>e=.returned (.bool (wO s.data.toList))∧w=w':=by
 obtain⟨o,c⟩:∃o,o=wO s.data.toList:=⟨_,rfl⟩;rw[←c];obtain⟨d,a⟩:∃d,d=lu s.data.toList:=⟨_,rfl⟩;have h:=hid a;cases d with
 |false=>
  have f:Hid (o=false):=by show _=_;rw[c];exact Qu _ a.symm
  clear a c;go_enter func141,ntmps141;go_wp2_with fail
  refine(jM _ _).mono ?_;rintro e i ⟨rfl,rfl⟩;rw[←h.out];go_wp2;go_ret;exact⟨aC f.symm,rfl⟩
 |true=>
  have j:s.size=2:=by
   have:=zN _ a.symm;rw[show s.data.toList.length=s.size from Array.length_toList]at this;exact this
  have m:1<s.size:=by omega
  obtain⟨b,l⟩:∃b,s[1]=b:=⟨_,rfl⟩;have f:Hid (o=decide (b.toNat=58)):=by
   show _=_;rw[c,←XZ];rw[JO s j]at a⊢;rw[l]at a⊢;exact Qv _ _ a.symm
  clear a c j;by_cases e1:b.toNat=58
  ·have k:((b.toNat:Int)==58)=true:=by simp;omega
   have g:Hid (o=true):=f.trans (decide_eq_true e1);clear e1;go_enter func141,ntmps141;go_wp2_with fail
   refine(jM _ _).mono ?_;rintro e i ⟨rfl,rfl⟩;rw[←h.out];go_wp2;go_ret;exact⟨aC g.symm,rfl⟩
  have k:((b.toNat:Int)==58)=false:=by simp;omega
  have g:Hid (o=false):=f.trans (decide_eq_false e1);clear e1;go_enter func141,ntmps141;go_wp2_with fail
  refine(jM _ _).mono ?_;rintro e i ⟨rfl,rfl⟩;rw[←h.out];go_wp2;go_ret;exact⟨aC g.symm,rfl⟩
theorem jS (s:ByteArray) (w:World):Calls prog 163 #[.string s] w fun e w'=>e=.returned (.bool (wO s.data.toList))∧w=w':=by
 obtain⟨o,c⟩:∃o,o=wO s.data.toList:=⟨_,rfl⟩;rw[←c];obtain⟨d,a⟩:∃d,d=lu s.data.toList:=⟨_,rfl⟩;have h:=hid a;cases d with
 |false=>
  have f:Hid (o=false):=by show _=_;rw[c];exact Qu _ a.symm
  clear a c;go_enter func163,ntmps163;go_wp2_with fail
  refine(bT _ _).mono ?_;rintro e i ⟨rfl,rfl⟩;rw[←h.out];go_wp2;go_ret;exact⟨aC f.symm,rfl⟩
 |true=>
  have j:s.size=2:=by
   have:=zN _ a.symm;rw[show s.data.toList.length=s.size from Array.length_toList]at this;exact this
  have m:1<s.size:=by omega
  obtain⟨b,l⟩:∃b,s[1]=b:=⟨_,rfl⟩;have f:Hid (o=decide (b.toNat=58)):=by
   show _=_;rw[c,←XZ];rw[JO s j]at a⊢;rw[l]at a⊢;exact Qv _ _ a.symm
  clear a c j;by_cases e1:b.toNat=58
  ·have k:((b.toNat:Int)==58)=true:=by simp;omega
   have g:Hid (o=true):=f.trans (decide_eq_true e1);clear e1;go_enter func163,ntmps163;go_wp2_with fail
   refine(bT _ _).mono ?_;rintro e i ⟨rfl,rfl⟩;rw[←h.out];go_wp2;go_ret;exact⟨aC g.symm,rfl⟩
  have k:((b.toNat:Int)==58)=false:=by simp;omega
  have g:Hid (o=false):=f.trans (decide_eq_false e1);clear e1;go_enter func163,ntmps163;go_wp2_with fail
  refine(bT _ _).mono ?_;rintro e i ⟨rfl,rfl⟩;rw[←h.out];go_wp2;go_ret;exact⟨aC g.symm,rfl⟩
end oW
namespace J8
open Go.RowKit Base bC gJ iK mF
theorem jR (s:ByteArray) (w:World) (m:s.size≤1073741824):Calls prog 165 #[.string s] w fun e w'=>e=.returned (.bool (qw s.data.toList))∧Below w.heap.size w w':=by
 obtain⟨o,g⟩:∃o,o=qw s.data.toList:=⟨_,rfl⟩;rw[←g];obtain⟨V,a⟩:∃V,V=ah (lower s.data.toList):=⟨_,rfl⟩;obtain⟨f,l⟩:∃o,o=decide (lower s.data.toList=[46,46]):=⟨_,rfl⟩;obtain⟨d,k⟩:∃o,o=decide (lower s.data.toList=[46,37,50,101]):=⟨_,rfl⟩;obtain⟨o3,j⟩:∃o,o=decide (lower s.data.toList=[37,50,101,46]):=⟨_,rfl⟩;obtain⟨c,i⟩:∃o,o=decide (lower s.data.toList=[37,50,101,37,50,101]):=⟨_,rfl⟩;have x:(V.toList==[46,46])=f:=by rw[a,eF,l]
 have v:(V.toList==[46,37,50,101])=d:=by rw[a,eF,k]
 have q3:(V.toList==[37,50,101,46])=o3:=by rw[a,eF,j]
 have t:(V.toList==[37,50,101,37,50,101])=c:=by rw[a,eF,i]
 have n:Hid (o=(f||d||o3||c)):=by show _=_;rw[g,l,k,j,i];rfl
 have HV:=hid a;clear g a l k j i;cases f<;>cases d<;>cases o3<;>cases c;all_goals
  have q:=hid (show o=_ from n);go_enter func165,ntmps165;go_wp2_with fail
  refine(iD.jP s _ m).mono ?_;rintro e r ⟨rfl,h⟩;rw[←HV.out];go_wp2;go_ret;exact⟨aC q.symm,h⟩
theorem ext_size (s:ByteArray) (a b:Nat):(s.extract a b).size≤s.size:=by
 rw[ByteArray.size_extract];omega
theorem lV (s:ByteArray) (w:World) (J:s.size≤1073741824):Calls prog 235 #[.string s] w fun e w'=>e=.returned (.bool (qw s.data.toList))∧Below w.heap.size w w':=by
 have i:s.data.toList.length=s.size:=Array.length_toList;obtain⟨o,j⟩:∃o,o=qw s.data.toList:=⟨_,rfl⟩;rw[←j];obtain⟨P,a⟩:∃P,P=Lib.hasPrefix s.data.toList [46]:=⟨_,rfl⟩;have x:=hid a;cases P with
 | true=>
  obtain⟨t,r⟩:∃t,s.data.toList=46::t:=by
   unfold Lib.hasPrefix at a
   match h:s.data.toList,a with
   |c::t,a=>
    simp at a;exact⟨t,by rw[a]⟩
  have L:1≤s.size:=by rw[←i,r];simp
  obtain⟨X,f⟩:∃X,X=s.extract 1 s.size:=⟨_,rfl⟩;have hx:s.extract 1 s.size=X:=f.symm;have l:X.data.toList=t:=by rw[f,eU.ext_drop s 1 s.size rfl,r];rfl
  have k:X.size≤maxLen:=by rw[f];have:=ext_size s 1 s.size;unfold maxLen;omega
  have y:Hid (o=rF X.data.toList):=by show _=_;rw[j,r,XM,l]
  have g:=hid k;clear a r f l j i k;go_enter func235,ntmps235;go_wp2_with fail
  refine(strings_HasPrefix s ⟨#[46]⟩ _).mono ?_;rintro e z ⟨rfl,rfl⟩;rw[←x.out];go_wp2_with fail
  refine(jH X _ g).mono ?_;rintro e G ⟨rfl,d⟩;rw[←y.out];go_wp2;go_ret;exact⟨rfl,d⟩
 | false=>
  by_cases h4:3<s.size
  ·obtain ⟨X,f⟩:∃X,X=s.extract 0 3:=⟨_,rfl⟩;obtain⟨Y,v⟩:∃Y,Y=s.extract 3 s.size:=⟨_,rfl⟩;have hx:s.extract 0 3=X:=f.symm;have I:s.extract 3 s.size=Y:=v.symm;have g:Hid (X.size≤maxLen):=by show _≤_;rw[f];have:=ext_size s 0 3;unfold maxLen;omega
   have E:Hid (Y.size≤maxLen):=by show _≤_;rw[v];have:=ext_size s 3 s.size;unfold maxLen;omega
   obtain⟨p,A⟩:∃p,p=rF X.data.toList:=⟨_,rfl⟩;obtain⟨q,hq⟩:∃q,q=rF Y.data.toList:=⟨_,rfl⟩;have y:Hid (o=(p&&q)):=by
    show _=_;rw[j,A,hq,f,v,eU.ext_take,eU.ext_drop s 3 s.size rfl];show qw s.data.toList=(rF (s.data.toList.take 3)&&rF (s.data.toList.drop 3))
    match h:s.data.toList,a with
    |[],_=>rw[h]at i;simp at i;omega
    |c::t,a=>
     have B:c≠46:=by
      rintro rfl;simp[Lib.hasPrefix]at a
     rw[He c t B,decide_eq_true (by rw[←h,i];exact h4),Bool.true_and]
   have m:=hid A;have F:=hid hq;have D:(3:Int)<(s.size:Int):=by omega
   clear a f v j i A hq;cases p with
   |true=>
    go_enter func235,ntmps235;go_wp2_with fail
    refine(strings_HasPrefix s ⟨#[46]⟩ _).mono ?_;rintro e z ⟨rfl,rfl⟩;rw[←x.out];go_wp2_with fail
    refine(jH X _ g).mono ?_;rintro e G ⟨rfl,d⟩;rw[←m.out];go_wp2_with fail
    refine(jH Y _ E).mono ?_;rintro e H ⟨rfl,C⟩;rw[←F.out];have n:Hid (o=q):=by show _=_;rw[y.out,Bool.true_and]
    go_wp2;go_ret;exact⟨aC n.symm,bF d C⟩
   |false=>
    have n:Hid (o=false):=by show _=_;rw[y.out,Bool.false_and]
    go_enter func235,ntmps235;go_wp2_with fail
    refine(strings_HasPrefix s ⟨#[46]⟩ _).mono ?_;rintro e z ⟨rfl,rfl⟩;rw[←x.out];go_wp2_with fail
    refine(jH X _ g).mono ?_;rintro e G ⟨rfl,d⟩;rw[←m.out];go_wp2;go_ret;exact⟨aC n.symm,d⟩
  have n:Hid (o=false):=by
   show _=_;rw[j]
   match h:s.data.toList,a with
   |[],_=>rfl
   |c::t,a=>
    have B:c≠46:=by
     rintro rfl;simp[Lib.hasPrefix]at a
    rw[He c t B,decide_eq_false (by rw[←h,i];exact h4),Bool.false_and]
  have D:¬(3:Int)<(s.size:Int):=by omega
  clear a j i;go_enter func235,ntmps235;go_wp2_with fail
  refine(strings_HasPrefix s ⟨#[46]⟩ _).mono ?_;rintro e z ⟨rfl,rfl⟩;rw[←x.out];go_wp2;go_ret;exact⟨aC n.symm,Below.refl _ _⟩
end J8
namespace J9
open Go.RowKit Base iK oW
def ZO (c:UInt8):Bool:=decide (c=47)||decide (c=92)||decide (c=63)||decide (c=35)
theorem Yd (c:UInt8):ZO c=decide (c.toNat=47∨c.toNat=92∨c.toNat=63∨c.toNat=35):=by
 have H:∀n:Fin 256,ZO (UInt8.ofNat n.val)=decide ((UInt8.ofNat n.val).toNat=47∨(UInt8.ofNat n.val).toNat=92∨(UInt8.ofNat n.val).toNat=63∨(UInt8.ofNat n.val).toNat=35):=by decide+kernel
 have:=H ⟨c.toNat,c.toNat_lt⟩;simpa using this
theorem RP (c:UInt8):0≤Lib.indexByte [47,92,63,35] (c.toNat:Int).toNat.toUInt8↔ZO c=true:=by
 have H:∀n:Fin 256,0≤Lib.indexByte [47,92,63,35] ((n.val:Nat):Int).toNat.toUInt8↔ZO (UInt8.ofNat n.val)=true:=by decide+kernel
 have:=H ⟨c.toNat,c.toNat_lt⟩;simpa using this
theorem G5 (L:List UInt8) (h:L.length<2):pK L=false:=by
 match L,h with
 |[],_=>rfl
 |[_],_=>rfl
theorem Pz (L:List UInt8) (h:L.length=2):pK L=lu (L.take 2):=by
 match L,h with
 |[_,_],_=>rfl
theorem KF (s:ByteArray) (h:2<s.size):pK s.data.toList=(lu (s.data.toList.take 2)&&ZO (s[2])):=by
 have d:s.data.toList.length=s.size:=Array.length_toList;have e:s.data.toList[2]'(by rw[d];exact h)=s[2]:=rfl;rw[←e];generalize s.data.toList=L at d
 match L,d with
 |[],d=>simp at d;omega
 |[_],d=>simp at d;omega
 |[_,_],d=>simp at d;omega
 |a::b::c::t,_=>rfl
theorem En (s:ByteArray) (w:World) (F:s.size≤1073741824):Calls prog 142 #[.string s] w fun e w'=>e=.returned (.bool (pK s.data.toList))∧w=w':=by
 have k:s.data.toList.length=s.size:=Array.length_toList;obtain⟨o,g⟩:∃o,o=pK s.data.toList:=⟨_,rfl⟩;rw[←g];by_cases h2:s.size<2
 ·have j:Hid (o=false):=by show _=_;rw[g];exact G5 _ (by rw[k];exact h2)
  have A:(s.size:Int)<2:=by omega
  clear g k h2;go_enter func142,ntmps142;go_wp2;go_ret;exact⟨aC j.symm,rfl⟩
 have A:¬(s.size:Int)<2:=by omega
 have E:2≤s.size:=by omega
 obtain⟨X,m⟩:∃X,X=s.extract 0 2:=⟨_,rfl⟩;have hx:s.extract 0 2=X:=m.symm;have f:X.data.toList=s.data.toList.take 2:=by rw[m,eU.ext_take];rfl
 obtain⟨d,l⟩:∃d,d=lu X.data.toList:=⟨_,rfl⟩;have q:=hid l;by_cases h22:s.size=2
 ·have j:Hid (o=d):=by show _=_;rw[g,l,f];exact Pz _ (by rw[k];exact h22)
  have q3:((s.size:Int)==2)=true:=by simp;omega
  clear g k h2 m f l h22;cases d;all_goals
   go_enter func142,ntmps142;go_wp2_with fail
   refine(jM _ _).mono ?_;rintro e r ⟨rfl,rfl⟩;rw[←q.out];go_wp2;go_ret;exact⟨aC j.symm,rfl⟩
 have q3:((s.size:Int)==2)=false:=by simp;omega
 have C:2<s.size:=by omega
 obtain⟨c,B⟩:∃c,s[2]=c:=⟨_,rfl⟩;obtain⟨i,hi⟩:∃i,i=ZO c:=⟨_,rfl⟩;have j:Hid (o=(d&&i)):=by show _=_;rw[g,l,f,hi,←B];exact KF s C
 clear g k h2 m f l h22;cases d with
 |false=>
  have n:Hid (o=false):=by show _=_;rw[j.out,Bool.false_and]
  clear hi;go_enter func142,ntmps142;go_wp2_with fail
  refine(jM _ _).mono ?_;rintro e r ⟨rfl,rfl⟩;rw[←q.out];go_wp2;go_ret;exact⟨aC n.symm,rfl⟩
 | true=>
  have n:Hid (o=i):=by show _=_;rw[j.out,Bool.true_and]
  obtain⟨z,t⟩:∃z,z=Lib.indexByte [47,92,63,35] (c.toNat:Int).toNat.toUInt8:=⟨_,rfl⟩;have a:(0≤z)↔i=true:=by rw[t,hi];exact RP c
  have v:=hid t;clear hi t;cases i with
  |true=>
   have y:=a.2 rfl;clear a;go_enter func142,ntmps142;go_wp2_with fail
   refine(jM _ _).mono ?_;rintro e r ⟨rfl,rfl⟩;rw[←q.out];go_wp2_with fail
   refine(strings_IndexByte ⟨#[47,92,63,35]⟩ _ _).mono ?_;rintro e x ⟨rfl,rfl⟩;rw[show(⟨#[47,92,63,35]⟩:ByteArray).data.toList=[47,92,63,35]from rfl,←v.out];go_wp2;go_ret;exact⟨aC n.symm,rfl⟩
  |false=>
   have y:z<0:=by
    rcases Int.lt_or_le z 0 with h|h
    ·exact h
    exact absurd (a.1 h) (by decide)
   have D:¬0≤z:=by omega
   clear a;go_enter func142,ntmps142;go_wp2_with fail
   refine(jM _ _).mono ?_;rintro e r ⟨rfl,rfl⟩;rw[←q.out];go_wp2_with fail
   refine(strings_IndexByte ⟨#[47,92,63,35]⟩ _ _).mono ?_;rintro e x ⟨rfl,rfl⟩;rw[show(⟨#[47,92,63,35]⟩:ByteArray).data.toList=[47,92,63,35]from rfl,←v.out];go_wp2;go_ret;exact⟨aC ((decide_eq_false (by omega)).trans n.symm),rfl⟩
theorem lI (s:ByteArray) (w:World) (F:s.size≤1073741824):Calls prog 162 #[.string s] w fun e w'=>e=.returned (.bool (pK s.data.toList))∧w=w':=by
 have r:s.data.toList.length=s.size:=Array.length_toList;obtain⟨o,j⟩:∃o,o=pK s.data.toList:=⟨_,rfl⟩;rw[←j];by_cases h2:s.size<2
 ·have q:Hid (o=false):=by show _=_;rw[j];exact G5 _ (by rw[r];exact h2)
  have A:(s.size:Int)<2:=by omega
  clear j r h2;go_enter func162,ntmps162;go_wp2;go_ret;exact⟨aC q.symm,rfl⟩
 have A:¬(s.size:Int)<2:=by omega
 have E:2≤s.size:=by omega
 obtain⟨X,x⟩:∃X,X=s.extract 0 2:=⟨_,rfl⟩;have hx:s.extract 0 2=X:=x.symm;have f:X.data.toList=s.data.toList.take 2:=by rw[x,eU.ext_take];rfl
 obtain⟨d,t⟩:∃d,d=lu X.data.toList:=⟨_,rfl⟩;have m:=hid t;by_cases h22:s.size=2
 ·have q:Hid (o=d):=by show _=_;rw[j,t,f];exact Pz _ (by rw[r];exact h22)
  have q3:((s.size:Int)==2)=true:=by simp;omega
  clear j r h2 x f t h22;cases d;all_goals
   go_enter func162,ntmps162;go_wp2_with fail
   refine(bT _ _).mono ?_;rintro e n ⟨rfl,rfl⟩;rw[←m.out];go_wp2;go_ret;exact⟨aC q.symm,rfl⟩
 have q3:((s.size:Int)==2)=false:=by simp;omega
 have D:2<s.size:=by omega
 obtain⟨c,C⟩:∃c,s[2]=c:=⟨_,rfl⟩;obtain⟨i,hi⟩:∃i,i=ZO c:=⟨_,rfl⟩;have q:Hid (o=(d&&i)):=by show _=_;rw[j,t,f,hi,←C];exact KF s D
 clear j r h2 x f t h22;cases d with
 |false=>
  have l:Hid (o=false):=by show _=_;rw[q.out,Bool.false_and]
  clear hi;go_enter func162,ntmps162;go_wp2_with fail
  refine(bT _ _).mono ?_;rintro e n ⟨rfl,rfl⟩;rw[←m.out];go_wp2;go_ret;exact⟨aC l.symm,rfl⟩
 |true=>
  have l:Hid (o=i):=by show _=_;rw[q.out,Bool.true_and]
  have k:c.toNat=47∨c.toNat=92∨c.toNat=63∨c.toNat=35∨(c.toNat≠47∧c.toNat≠92∧c.toNat≠63∧c.toNat≠35):=by omega
  have a:=Yd c;rw[←hi]at a;clear hi;rcases k with h|h|h|h|⟨n1,n2,n3,n4⟩
  ·have v:((c.toNat:Int)==47)=true:=by simp;omega
   have g:Hid (o=true):=by show _=_;rw[l.out,a];simp;omega
   clear a h;go_enter func162,ntmps162;go_wp2_with fail
   refine(bT _ _).mono ?_;rintro e n ⟨rfl,rfl⟩;rw[←m.out];go_wp2;go_ret;exact⟨aC g.symm,rfl⟩
  ·have v:((c.toNat:Int)==47)=false:=by simp;omega
   have y:((c.toNat:Int)==92)=true:=by simp;omega
   have g:Hid (o=true):=by show _=_;rw[l.out,a];simp;omega
   clear a h;go_enter func162,ntmps162;go_wp2_with fail
   refine(bT _ _).mono ?_;rintro e n ⟨rfl,rfl⟩;rw[←m.out];go_wp2;go_ret;exact⟨aC g.symm,rfl⟩
  ·have v:((c.toNat:Int)==47)=false:=by simp;omega
   have y:((c.toNat:Int)==92)=false:=by simp;omega
   have z:((c.toNat:Int)==63)=true:=by simp;omega
   have g:Hid (o=true):=by show _=_;rw[l.out,a];simp;omega
   clear a h;go_enter func162,ntmps162;go_wp2_with fail
   refine(bT _ _).mono ?_;rintro e n ⟨rfl,rfl⟩;rw[←m.out];go_wp2;go_ret;exact⟨aC g.symm,rfl⟩
  ·have v:((c.toNat:Int)==47)=false:=by simp;omega
   have y:((c.toNat:Int)==92)=false:=by simp;omega
   have z:((c.toNat:Int)==63)=false:=by simp;omega
   have B:((c.toNat:Int)==35)=true:=by simp;omega
   have g:Hid (o=true):=by show _=_;rw[l.out,a];simp;omega
   clear a h;go_enter func162,ntmps162;go_wp2_with fail
   refine(bT _ _).mono ?_;rintro e n ⟨rfl,rfl⟩;rw[←m.out];go_wp2;go_ret;exact⟨aC g.symm,rfl⟩
  have v:((c.toNat:Int)==47)=false:=by simp;omega
  have y:((c.toNat:Int)==92)=false:=by simp;omega
  have z:((c.toNat:Int)==63)=false:=by simp;omega
  have B:((c.toNat:Int)==35)=false:=by simp;omega
  have g:Hid (o=false):=by show _=_;rw[l.out,a];simp;omega
  clear a n1 n2 n3 n4;go_enter func162,ntmps162;go_wp2_with fail
  refine(bT _ _).mono ?_;rintro e n ⟨rfl,rfl⟩;rw[←m.out];go_wp2;go_ret;exact⟨aC g.symm,rfl⟩
end J9
namespace mG
open Go.RowKit Base iK oW
def keep (file:Bool):List ByteArray→Bool
 |[]=>true
 |[x]=>file&&wO x.data.toList
 |_=>false
def jc (file:Bool) (l:List ByteArray):List ByteArray:=if keep file l then l else l.take (l.length - 1)
theorem nN (file:Bool) (l:List ByteArray):(jc file l).length=if keep file l then l.length else l.length - 1:=by
 unfold jc;split
 ·rfl
 rw[List.length_take];omega
theorem rV (file:Bool) (A:Option Addr) (n f:Nat) (l:List ByteArray) (w:World) (h:dP w A n (l.map Value.string)) (z:n≤f) (k:f≤maxLen):
  Calls prog 194 #[.bool file,.slice A n f] w fun e w'=>e=.returned (.slice A (if keep file l then n else n - 1) f)∧w=w':=by
 unfold maxLen at k;have c:l.length=n:=by rw[←h.1,List.length_map]
 obtain⟨m,d⟩:∃m,m=if keep file l then n else n - 1:=⟨_,rfl⟩
 rw[←d]
 match l,c with
 |[],c=>
  obtain rfl:n=0:=by simpa using c.symm
  obtain rfl:m=0:=by rw[d];rfl
  clear d c h;go_enter func194,ntmps194;go_wp2;go_ret;exact⟨rfl,rfl⟩
 | [x],c=>
  obtain rfl:n=1:=by simpa using c.symm
  obtain⟨g,i,rfl,B,a⟩:=h.spot (by omega);have q:=a 0 (by simp);rw[Nat.add_zero]at q;replace q:w.cell? ⟨g,i,none⟩=some (.string x):=q;cases file with
  |false=>
   obtain rfl:m=0:=by rw[d];rfl
   clear d c h a;go_enter func194,ntmps194;go_wp2;go_ret;exact⟨rfl,rfl⟩
  |true=>
   obtain⟨b,s⟩:∃b,b=wO x.data.toList:=⟨_,rfl⟩;have j:Hid (m=if b then 1 else 0):=by
    show _=_;rw[d,s];simp[keep]
   have t:=hid s;clear d c h a s;cases b with
   |true=>
    obtain rfl:m=1:=j.out;go_enter func194,ntmps194;go_wp2_with fail
    refine(yV x _).mono ?_;rintro e v ⟨rfl,rfl⟩;rw[←t.out];go_wp2;go_ret;exact⟨rfl,rfl⟩
   |false=>
    obtain rfl:m=0:=j.out;go_enter func194,ntmps194;go_wp2_with fail
    refine(yV x _).mono ?_;rintro e v ⟨rfl,rfl⟩;rw[←t.out];go_wp2;go_ret;exact⟨rfl,rfl⟩
 |x::y::r,c=>
  have E:2≤n:=by rw[←c];simp
  have j:Hid (m=n - 1):=by show _=_;rw[d];rfl
  have D:((n:Int)==0)=false:=by simp;omega
  have C:((n:Int)==1)=false:=by simp;omega
  obtain⟨g,i,rfl,B,a⟩:=h.spot (by omega);have q3:((n:Int) - 1).toNat=m:=by have:=j.out;omega
  clear d c h a;cases file;all_goals
   go_enter func194,ntmps194;go_wp2;go_ret;exact⟨by first|rfl|simp[q3],rfl⟩
end mG
namespace Ko
open Go.RowKit Base bC iK oW
def wr (first:Bool) (L:List UInt8):List UInt8:=if first&&lu L then L.take 1++[58]else aG.enc 4 L
theorem xH (first:Bool) (s:ByteArray) (w:World) (l:s.size≤1073741824):
  Calls prog 237 #[.bool first,.string s] w fun e w'=>e=.returned (.string (ah (wr first s.data.toList)))∧Below w.heap.size w w':=by
 obtain⟨d,a⟩:∃d,d=lu s.data.toList:=⟨_,rfl⟩;obtain⟨R,g⟩:∃R,R=wr first s.data.toList:=⟨_,rfl⟩;rw[←g];have m:=hid a;cases first with
 | true=>
  cases d with
  |true=>
   have r:s.size=2:=by
    have:=zN _ a.symm;rw[show s.data.toList.length=s.size from Array.length_toList]at this;exact this
   obtain⟨X,k⟩:∃X,X=s.extract 0 1:=⟨_,rfl⟩;have hx:s.extract 0 1=X:=k.symm;have i:X=ah (s.data.toList.take 1):=by rw[k,eU.ext_take]
   have j:R=s.data.toList.take 1++[58]:=by rw[g];unfold wr;rw[←a];rfl
   have x:∀w:World,(Op.stringOp .add X ⟨#[58]⟩).run prog w=.ok (.string (ah R)) w:=fun w=>by
    rw[i,j];exact ig _ ⟨#[58]⟩ w (by rw[ak,List.length_take];show _+1≤_;omega)
   have v:(1:Int)≤(s.size:Int):=by omega
   have t:1≤s.size:=by omega
   clear a g k i j r;go_enter func237,ntmps237;go_wp2_with fail
   refine(jM s _).mono ?_;rintro e q ⟨rfl,rfl⟩;rw[←m.out];go_wp2;go_ret;exact⟨rfl,Below.refl _ _⟩
  |false=>
   have h:Hid (R=aG.enc 4 s.data.toList):=by show _=_;rw[g];unfold wr;rw[←a];rfl
   have c:=fun(w:World) s=>run_bytes_of_string (P:=prog) w 9 45 5 s underlying9 underlying45 underlying5;clear a g;go_enter func237,ntmps237;go_wp2_with fail
   refine(jM s _).mono ?_;rintro e q ⟨rfl,rfl⟩;rw[←m.out];go_wp2_with fail
   clear c;refine(aG.gB 4 _ _ _ s.data.toList _ (jr s _ w _) l).mono ?_;rintro e n ⟨rfl,f⟩;rw[←h.out];go_wp2;go_ret;exact⟨rfl,bF (((Below.refl w.heap.size w).alloc (Nat.le_refl _) _).drew) f⟩
 |false=>
  have h:Hid (R=aG.enc 4 s.data.toList):=by show _=_;rw[g];rfl
  have c:=fun(w:World) s=>run_bytes_of_string (P:=prog) w 9 45 5 s underlying9 underlying45 underlying5;clear a g;go_enter func237,ntmps237;go_wp2_with fail
  clear c;refine(aG.gB 4 _ _ _ s.data.toList _ (jr s _ w _) l).mono ?_;rintro e n ⟨rfl,f⟩;rw[←h.out];go_wp2;go_ret;exact⟨rfl,bF (((Below.refl w.heap.size w).alloc (Nat.le_refl _) _).drew) f⟩
end Ko
namespace jT
open Go.RowKit Base bC iK mF J8 mG Ko
theorem iW:(prog.info? 9).map (fun i=>(i.zero,i.size,i.bytes))=some (some (.string ByteArray.empty),1,16):=by kernel_rfl
theorem Sz {w:World} {B:Nat} {e:TypeId} {A:Option Addr} {n a:Nat} {i:List Value} (h:w.ownsRow B e 1 (.slice A n a) n i) (m:Nat) (q:m≤n):w.ownsRow B e 1 (.slice A m a) m (i.take m):=by
 obtain⟨r,h⟩:=h;rw[Nat.mul_one]at r;refine⟨by rw[List.length_take];omega,?_⟩;rcases h with⟨c,v⟩|⟨g,k,f,c,s,hh,t,d,l,j⟩
 ·injection c with h1 h2 h3
  obtain rfl:m=0:=by omega
  exact .inl ⟨by rw[h1,h3],rfl⟩
 injection c with h1 h2 h3
 subst h3;refine .inr ⟨g,a,f,by rw[h1],s,hh,by omega,d,l,?_⟩;rw[Nat.mul_one]at j⊢;rw[←j,List.take_take,Nat.min_eq_left q]
def rY (file last:Bool) (l:List ByteArray) (L:List UInt8):List ByteArray:=
 if qw L then(if last then jc file l++[ah []]else jc file l)else if rF L then(if last then l++[ah []]else l)else l++[ah (wr (file&&l.isEmpty) L)]
def jZ (B:Nat) (w:World) (l:List ByteArray) (e:Ending) (w':World):Prop:=∃v,e=.returned v∧w'.ownsRow B 9 1 v l.length (l.map Value.string)∧Below B w w'
theorem MW (file z:Bool) (B:Nat) (v:Value) (l:List ByteArray) (s:ByteArray) (w:World) (q:w.ownsRow B 9 1 v l.length (l.map Value.string)) (H:B≤w.heap.size) (hl:l.length≤1000000) (T:s.size≤1073741824):
  Calls prog 214 #[.bool file,.bool z,v,.string s] w (jZ B w (rY file z l s.data.toList)):=by
 obtain⟨i0,hi,L,J,I⟩:=info_parts iW;obtain⟨A,a0,rfl,a1,a6,hR⟩:=aS q;obtain⟨n,F⟩:∃n,n=l.length:=⟨_,rfl⟩;rw[←F]at q hl a1 hR⊢;obtain⟨S,O⟩:∃S,S=rY file z l s.data.toList:=⟨_,rfl⟩;rw[←O];have HN:=hid F;obtain⟨d,N⟩:∃d,d=qw s.data.toList:=⟨_,rfl⟩;have HD:=hid N;cases d with
 |true=>
  obtain⟨m,hm⟩:∃m,m=if keep file l then n else n - 1:=⟨_,rfl⟩
  have a8:m≤n:=by rw[hm];split<;>omega
  have E:jc file l=l.take m:=by
   unfold jc;rw[hm];split
   ·rw[List.take_of_length_le (by omega)]
   ·rw[F]
  have a2:(l.take m).length=m:=by rw[List.length_take];omega
  have x:=Sz q m a8;rw[←List.map_take]at x;have Q:=hid x;have HR:=hid hR;have HM:=hid hm;have a7:=hid a2;cases z with
  |false=>
   have t:Hid (S=l.take m):=by show _=_;rw[O];unfold rY;rw[←N,if_pos rfl,if_neg (by decide),E]
   clear q x hR hm E O N F a2;go_enter func214,ntmps214;go_wp2_with fail
   refine(lV s _ T).mono ?_;rintro e X ⟨rfl,h⟩;rw[←HD.out];go_wp2_with fail
   refine(rV file A n a0 l _ (HR.below h) a1 a6).mono ?_;rintro e W ⟨rfl,rfl⟩;rw[←HM.out];have G:Hid (jZ B w S (.returned (.slice A m a0)) X):=⟨_,rfl,by rw[t.out,a7.out];exact bf Q h,h.mono H⟩;go_wp2;go_ret;exact G
  |true=>
   have t:Hid (S=l.take m++[ah []]):=by show _=_;rw[O];unfold rY;rw[←N,if_pos rfl,if_pos rfl,E]
   clear q x hR hm E O N F a2;go_enter func214,ntmps214;go_wp2_with fail
   refine(lV s _ T).mono ?_;rintro e X ⟨rfl,h⟩;rw[←HD.out];go_wp2_with fail
   refine(rV file A n a0 l _ (HR.below h) a1 a6).mono ?_;rintro e W ⟨rfl,rfl⟩;rw[←HM.out];have c:=bf Q h;have i:Below B w X:=h.mono H;have y:B≤X.heap.size:=Nat.le_trans H h.size;go_wp2_with (at_builtin;refine bI rfl _ _ 23 rfl B 9 i0 (.string ByteArray.empty) 16 underlying23 hi L J I rfl _ m _ rfl c i y [.string (ah [])] 1 rfl rfl (by intro u D;simp at D;subst D;rfl) (by unfold maxLen;omega) (by omega) ?_)
   intro Y V a j;have G:Hid (jZ B w S (.returned Y) V):=⟨_,rfl,by rw[t.out,List.length_append,List.map_append,a7.out,List.map_take];exact a,j⟩;clear c a i;go_wp2;go_ret;exact G
 | false=>
  obtain⟨g,hg⟩:∃g,g=rF s.data.toList:=⟨_,rfl⟩;have HG:=hid hg;have Z:s.size≤maxLen:=by unfold maxLen;omega
  have P:=hid Z;have C:=hid q;cases g with
  |true=>
   cases z with
   |false=>
    have t:Hid (S=l):=by show _=_;rw[O];unfold rY;rw[←N,if_neg (by decide),←hg,if_pos rfl,if_neg (by decide)]
    clear q hR O N hg F Z;go_enter func214,ntmps214;go_wp2_with fail
    refine(lV s _ T).mono ?_;rintro e X ⟨rfl,h⟩;rw[←HD.out];go_wp2_with fail
    refine(jH s _ P).mono ?_;rintro e W ⟨rfl,k⟩;rw[←HG.out];have G:Hid (jZ B w S (.returned (.slice A n a0)) W):=⟨_,rfl,by rw[t.out,←HN.out];exact bf (bf C h) k,(bF h k).mono H⟩;go_wp2;go_ret;exact G
   |true=>
    have t:Hid (S=l++[ah []]):=by show _=_;rw[O];unfold rY;rw[←N,if_neg (by decide),←hg,if_pos rfl,if_pos rfl]
    clear q hR O N hg F Z;go_enter func214,ntmps214;go_wp2_with fail
    refine(lV s _ T).mono ?_;rintro e X ⟨rfl,h⟩;rw[←HD.out];go_wp2_with fail
    refine(jH s _ P).mono ?_;rintro e W ⟨rfl,k⟩;rw[←HG.out];have c:=bf (bf C h) k;have i:Below B w W:=(bF h k).mono H;have y:B≤W.heap.size:=Nat.le_trans H (Nat.le_trans h.size k.size);go_wp2_with (at_builtin;refine bI rfl _ _ 23 rfl B 9 i0 (.string ByteArray.empty) 16 underlying23 hi L J I rfl _ n _ rfl c i y [.string (ah [])] 1 rfl rfl (by intro u D;simp at D;subst D;rfl) (by unfold maxLen;omega) (by omega) ?_)
    intro Y V a j;have G:Hid (jZ B w S (.returned Y) V):=⟨_,rfl,by rw[t.out,List.length_append,List.map_append,←HN.out];exact a,j⟩;clear c a i;go_wp2;go_ret;exact G
  | false=>
   obtain⟨f,hf⟩:∃f,f=(file&&l.isEmpty):=⟨_,rfl⟩;obtain⟨R,a4⟩:∃R,R=ah (wr f s.data.toList):=⟨_,rfl⟩;have t:Hid (S=l++[R]):=by show _=_;rw[O];unfold rY;rw[←N,if_neg (by decide),←hg,if_neg (by decide),←hf,a4]
   have a5:=hid a4;have a3:(file=false∧f=false)∨(file=true∧n=0∧f=true)∨(file=true∧n≠0∧f=false):=by
    cases file with
    |false=>exact .inl ⟨rfl,by rw[hf];rfl⟩
    |true=>
     match l,F with
     |[],F=>exact .inr (.inl ⟨rfl,by simpa using F,by rw[hf];rfl⟩)
     |_::_,F=>exact .inr (.inr ⟨rfl,by simp at F;omega,by rw[hf];rfl⟩)
   clear q hR O N hg F Z hf a4;rcases a3 with⟨rfl,rfl⟩|⟨rfl,h0,rfl⟩|⟨rfl,h0,rfl⟩
   ·go_enter func214,ntmps214;go_wp2_with fail
    refine(lV s _ T).mono ?_;rintro e X ⟨rfl,h⟩;rw[←HD.out];go_wp2_with fail
    refine(jH s _ P).mono ?_;rintro e W ⟨rfl,k⟩;rw[←HG.out];go_wp2_with fail
    refine(xH _ s _ T).mono ?_;rintro e w5 ⟨rfl,r⟩;rw[←a5.out];have c:=bf (bf (bf C h) k) r;have i:Below B w w5:=(bF (bF h k) r).mono H;have y:B≤w5.heap.size:=Nat.le_trans H (Nat.le_trans h.size (Nat.le_trans k.size r.size));go_wp2_with (at_builtin;refine bI rfl _ _ 23 rfl B 9 i0 (.string ByteArray.empty) 16 underlying23 hi L J I rfl _ n _ rfl c i y [.string R] 1 rfl rfl (by intro u D;simp at D;subst D;rfl) (by unfold maxLen;omega) (by omega) ?_)
    intro Y V a j;have G:Hid (jZ B w S (.returned Y) V):=⟨_,rfl,by rw[t.out,List.length_append,List.map_append,←HN.out];exact a,j⟩;clear c a i;go_wp2;go_ret;exact G
   ·have q0:((n:Int)==0)=true:=by simp;omega
    clear h0;go_enter func214,ntmps214;go_wp2_with fail
    refine(lV s _ T).mono ?_;rintro e X ⟨rfl,h⟩;rw[←HD.out];go_wp2_with fail
    refine(jH s _ P).mono ?_;rintro e W ⟨rfl,k⟩;rw[←HG.out];go_wp2_with fail
    refine(xH _ s _ T).mono ?_;rintro e w5 ⟨rfl,r⟩;rw[←a5.out];have c:=bf (bf (bf C h) k) r;have i:Below B w w5:=(bF (bF h k) r).mono H;have y:B≤w5.heap.size:=Nat.le_trans H (Nat.le_trans h.size (Nat.le_trans k.size r.size));go_wp2_with (at_builtin;refine bI rfl _ _ 23 rfl B 9 i0 (.string ByteArray.empty) 16 underlying23 hi L J I rfl _ n _ rfl c i y [.string R] 1 rfl rfl (by intro u D;simp at D;subst D;rfl) (by unfold maxLen;omega) (by omega) ?_)
    intro Y V a j;have G:Hid (jZ B w S (.returned Y) V):=⟨_,rfl,by rw[t.out,List.length_append,List.map_append,←HN.out];exact a,j⟩;clear c a i;go_wp2;go_ret;exact G
   ·have q0:((n:Int)==0)=false:=by simp;omega
    clear h0;go_enter func214,ntmps214;go_wp2_with fail
    refine(lV s _ T).mono ?_;rintro e X ⟨rfl,h⟩;rw[←HD.out];go_wp2_with fail
    refine(jH s _ P).mono ?_;rintro e W ⟨rfl,k⟩;rw[←HG.out];go_wp2_with fail
    refine(xH _ s _ T).mono ?_;rintro e w5 ⟨rfl,r⟩;rw[←a5.out];have c:=bf (bf (bf C h) k) r;have i:Below B w w5:=(bF (bF h k) r).mono H;have y:B≤w5.heap.size:=Nat.le_trans H (Nat.le_trans h.size (Nat.le_trans k.size r.size));go_wp2_with (at_builtin;refine bI rfl _ _ 23 rfl B 9 i0 (.string ByteArray.empty) 16 underlying23 hi L J I rfl _ n _ rfl c i y [.string R] 1 rfl rfl (by intro u D;simp at D;subst D;rfl) (by unfold maxLen;omega) (by omega) ?_)
    intro Y V a j;have G:Hid (jZ B w S (.returned Y) V):=⟨_,rfl,by rw[t.out,List.length_append,List.map_append,←HN.out];exact a,j⟩;clear c a i;go_wp2;go_ret;exact G
end jT
namespace uo
open Go.RowKit Base iC mG jT
theorem kL (l:List ByteArray):∀u ∈ l.map Value.string,u.oneCell'=true:=by
 intro u a;simp only[List.mem_map]at a;obtain⟨s,_,rfl⟩:=a;rfl
theorem uy (A:Option Addr) (n g:Nat) (l:List ByteArray) (w:World) (h:dP w A n (l.map Value.string)) (C:n≤1000000):
  Calls prog 154 #[.slice A n g] w (jZ w.heap.size w l):=by
 have j:l.length=n:=by rw[←h.1,List.length_map]
 have v:=hid h;clear h;obtain⟨z,hi,q,m,k⟩:=info_parts iW;have t:=fun(W:World)=>Lib.run_eql_slice_nil (P:=prog) W 23 9 A n g 0 0 underlying23;cases A with
 | none=>
  have i:n=0:=by
   rcases Nat.eq_zero_or_pos n with i|i
   ·exact i
   ·obtain⟨_,_,e,_⟩:=v.spot i;cases e
  subst i;obtain rfl:l=[]:=List.eq_nil_of_length_eq_zero j;have r:Hid (jZ w.heap.size w [] (.returned (.slice none 0 0)) w):=⟨_,rfl,World.ownsRow_nil _ _ _ _,Below.refl _ _⟩;clear j;go_enter func154,ntmps154;go_wp2;go_ret;exact r
 |some ad=>
  have c:(w.alloc (.cells #[] 9)).ownsRow w.heap.size 9 1 (.slice (some ⟨w.heap.size,0,none⟩) 0 0) 0 []:=World.ownsRow_made w #[] 0 (Nat.le_refl _) (by decide) rfl;have a:Below w.heap.size w (w.alloc (.cells #[] 9)):=(Below.refl _ _).alloc (Nat.le_refl _) _;have s:Hid (dP (w.alloc (.cells #[] 9)) (some ad) n (l.map Value.string)):=v.below a;have B:=hid j;clear j;go_enter func154,ntmps154;go_wp2_with (at_builtin;refine iq rfl _ _ 23 rfl w.heap.size 9 z (.string ByteArray.empty) 16 underlying23 hi q m k rfl _ 0 [] rfl c a a.size (some ad) n g (l.map Value.string) rfl s (kL _) (by unfold maxLen;omega) (by omega) ?_)
  intro y x d f;have r:Hid (jZ w.heap.size w l (.returned y) x):=⟨_,rfl,by rw[B.out];simpa using d,f⟩;clear c a d;go_wp2;go_ret;exact r
theorem Jv {w:World} {A:Option Addr} {n:Nat} {l:List ByteArray} (file:Bool) (a:dP w A n (l.map Value.string)):dP w A (if keep file l then n else n - 1) ((jc file l).map Value.string):=by
 have d:l.length=n:=by rw[←a.1,List.length_map]
 unfold jc;cases e:keep file l with
 |true=>simpa using a
 |false=>
  rcases Nat.eq_zero_or_pos n with h0|h0
  ·obtain rfl:l=[]:=List.eq_nil_of_length_eq_zero (by omega);cases e
  obtain⟨g,c,rfl,_⟩:=a.spot h0;have:=a.upto (n - 1) (by omega);rw[if_neg (by decide),if_neg (by decide),List.map_take,d];exact this
theorem xw (file:Bool) (A:Option Addr) (n a:Nat) (l:List ByteArray) (w:World) (j:dP w A n (l.map Value.string)) (f:n≤a) (h:a≤maxLen) (y:n≤1000000):
  Calls prog 144 #[.bool file,.slice A n a] w (jZ w.heap.size w (jc file l)):=by
 have s:=hid (Jv file j);have t:=hid j;obtain⟨m,d⟩:∃m,m=if keep file l then n else n - 1:=⟨_,rfl⟩
 have g:m≤1000000:=by rw[d];split<;>omega
 have k:=hid d;clear j d;go_enter func144,ntmps144;go_wp2_with fail
 refine(rV file A n a l _ t f h).mono ?_;rintro e x ⟨rfl,rfl⟩;rw[←k.out];go_wp2_with fail
 refine(uy A m a (jc file l) _ (by rw[k.out];exact s) g).mono ?_;rintro e q ⟨v,rfl,c,i⟩;have r:Hid (jZ w.heap.size w (jc file l) (.returned v) q):=⟨v,rfl,c,i⟩;clear c;go_wp2;go_ret;exact r
end uo
namespace aau
open Go.RowKit Base iC iK oW mG jT uo
def Read (w:World) (l:List ByteArray) (e:Ending) (w':World):Prop:=∃A n c,e=.returned (.slice A n c)∧n=l.length∧n≤c∧c≤maxLen∧dP w' A n (l.map Value.string)∧Below w.heap.size w w'
theorem Jw {w w':World} {l:List ByteArray} {v:Value} {n:Nat} (h:w'.ownsRow w.heap.size 9 1 v n (l.map Value.string)) (d:Below w.heap.size w w'):Read w l (.returned v) w':=by
 obtain⟨A,c,rfl,f,e,a⟩:=aS h;exact⟨A,n,c,rfl,by rw[←a.1,List.length_map],f,e,a,d⟩
theorem FD (file:Bool) (A:Option Addr) (n j:Nat) (l:List ByteArray) (w:World) (z:dP w A n (l.map Value.string)) (Q:n≤j) (N:j≤maxLen) (X:n≤1000000):
  Calls prog 160 #[.bool file,.slice A n j] w (Read w (jc file l)):=by
 obtain⟨P,hi,F,E,D⟩:=info_parts iW;have L:=N;unfold maxLen at N;have s:l.length=n:=by rw[←z.1,List.length_map]
 have q:=Jv file z;obtain⟨m,t⟩:∃m,m=if keep file l then n else n - 1:=⟨_,rfl⟩
 rw[←t]at q;have C:=hid q;have G:m=(jc file l).length:=by rw[←q.1,List.length_map]
 have Y:m≤j:=by rw[t];split<;>omega
 have H:Hid (keep file l=true→Read w (jc file l) (.returned (.slice A n j)) w):=by
  intro h;have e:m=n:=by rw[t,if_pos h]
  rw[e]at q G;exact⟨A,n,j,rfl,G,Q,L,q,Below.refl _ _⟩
 have Z:m≤1000000:=by rw[t];split<;>omega
 generalize hS:jc file l=S at C H⊢;clear G hS
 match l,s with
 |[],s=>
  obtain rfl:n=0:=by simpa using s.symm
  have B:=hid (H.out rfl);clear t s z;go_enter func160,ntmps160;go_wp2;go_ret;exact B
 | [x],s=>
  obtain rfl:n=1:=by simpa using s.symm
  obtain⟨g,k,rfl,hg,f⟩:=z.spot (by omega);have T:=f 0 (by simp);rw[Nat.add_zero]at T;replace T:w.cell? ⟨g,k,none⟩=some (.string x):=T;cases file with
  |false=>
   obtain rfl:m=0:=by rw[t];rfl
   clear t s z f;have c:(w.alloc (.cells #[] 9)).ownsRow w.heap.size 9 1 (.slice (some ⟨w.heap.size,0,none⟩) 0 0) 0 []:=World.ownsRow_made w #[] 0 (Nat.le_refl _) (by decide) rfl;have a:Below w.heap.size w (w.alloc (.cells #[] 9)):=(Below.refl _ _).alloc (Nat.le_refl _) _;have v:Hid (dP (w.alloc (.cells #[] 9)) (some ⟨g,k,none⟩) 0 (S.map Value.string)):=C.below a;go_enter func160,ntmps160;go_wp2_with (at_builtin;refine iq rfl _ _ 23 rfl w.heap.size 9 P (.string ByteArray.empty) 16 underlying23 hi F E D rfl _ 0 [] rfl c a a.size (some ⟨g,k,none⟩) 0 j (S.map Value.string) rfl v (kL _) (by unfold maxLen;omega) (by omega) ?_)
   intro J I d i;have B:Hid (Read w S (.returned J) I):=Jw (by simpa using d) i;clear c a d;go_wp2;go_ret;exact B
  |true=>
   obtain⟨b,O⟩:∃b,b=wO x.data.toList:=⟨_,rfl⟩;have V:=hid O;cases b with
   |true=>
    have B:=hid (H.out (by show(true&&wO x.data.toList)=true;rw[←O];rfl));clear t s z f O;go_enter func160,ntmps160;go_wp2_with fail
    refine(jS x _).mono ?_;rintro e W ⟨rfl,rfl⟩;rw[←V.out];go_wp2;go_ret;exact B
   |false=>
    obtain rfl:m=0:=by rw[t];show(if (true&&wO x.data.toList)=true then 1 else 1 - 1)=0;rw[←O];rfl
    clear t s z f O;have c:(w.alloc (.cells #[] 9)).ownsRow w.heap.size 9 1 (.slice (some ⟨w.heap.size,0,none⟩) 0 0) 0 []:=World.ownsRow_made w #[] 0 (Nat.le_refl _) (by decide) rfl;have a:Below w.heap.size w (w.alloc (.cells #[] 9)):=(Below.refl _ _).alloc (Nat.le_refl _) _;have v:Hid (dP (w.alloc (.cells #[] 9)) (some ⟨g,k,none⟩) 0 (S.map Value.string)):=C.below a;go_enter func160,ntmps160;go_wp2_with fail
    refine(jS x _).mono ?_;rintro e W ⟨rfl,rfl⟩;rw[←V.out];go_wp2_with (at_builtin;refine iq rfl _ _ 23 rfl w.heap.size 9 P (.string ByteArray.empty) 16 underlying23 hi F E D rfl _ 0 [] rfl c a a.size (some ⟨g,k,none⟩) 0 j (S.map Value.string) rfl v (kL _) (by unfold maxLen;omega) (by omega) ?_)
    intro J I d i;have B:Hid (Read w S (.returned J) I):=Jw (by simpa using d) i;clear c a d;go_wp2;go_ret;exact B
 |x::y::r,s=>
  have h2:2≤n:=by rw[←s];simp
  have HM:Hid (m=n - 1):=by show _=_;rw[t];rfl
  have q1:((n:Int)==0)=false:=by simp;omega
  have q2:((n:Int)==1)=false:=by simp;omega
  obtain⟨g,k,rfl,hg,f⟩:=z.spot (by omega);have q3:((n:Int) - 1).toNat=m:=by have:=HM.out;omega
  clear t s z f;have c:(w.alloc (.cells #[] 9)).ownsRow w.heap.size 9 1 (.slice (some ⟨w.heap.size,0,none⟩) 0 0) 0 []:=World.ownsRow_made w #[] 0 (Nat.le_refl _) (by decide) rfl;have a:Below w.heap.size w (w.alloc (.cells #[] 9)):=(Below.refl _ _).alloc (Nat.le_refl _) _;have v:Hid (dP (w.alloc (.cells #[] 9)) (some ⟨g,k,none⟩) m (S.map Value.string)):=C.below a;cases file;all_goals
   go_enter func160,ntmps160;go_wp2_with (at_builtin;refine iq rfl _ _ 23 rfl w.heap.size 9 P (.string ByteArray.empty) 16 underlying23 hi F E D rfl _ 0 [] rfl c a a.size (some ⟨g,k,none⟩) m j (S.map Value.string) rfl v (kL _) (by unfold maxLen;omega) (by omega) ?_)
   intro J I d i;have B:Hid (Read w S (.returned J) I):=Jw (by simpa using d) i;clear c a d;go_wp2;go_ret;exact B
end aau
namespace iJ
open Go.RowKit mG jT
def bZ (sp:Bool) (c:UInt8):Bool:=decide (c=47)||(sp&&decide (c=92))
def upto (sp:Bool):List UInt8→Nat
 |[]=>0
 |c::L=>if bZ sp c=true then 0 else upto sp L+1
theorem JV (sp:Bool):∀L:List UInt8,upto sp L≤L.length
 |[]=>Nat.le_refl _
 |c::L=>by
  have:=JV sp L
  unfold upto
  split
  ·omega
  ·simp;omega
def Uw (sp:Bool):List UInt8:=if sp then[47,92]else[47]
theorem PK (sp:Bool) (c:UInt8):(Uw sp).contains c=bZ sp c:=by
 rw[Bool.eq_iff_iff];cases sp<;>simp[Uw,bZ]
theorem H9 (sp:Bool):∀L:List UInt8,Lib.indexAny L (Uw sp)=if upto sp L<L.length then(upto sp L:Int)else -1
 |[]=>by simp[Lib.indexAny]
 | c :: L => by
  have d:=H9 sp L
  rw[Lib.indexAny,PK,d,upto]
  cases h:bZ sp c with
  |true=>simp
  |false=>
   simp only[Bool.false_eq_true,if_false]
   by_cases h2:upto sp L<L.length
   ·have e:((upto sp L:Int)== -1)=false:=by rw[beq_eq_false_iff_ne];omega
    have a:upto sp L+1<(c::L).length:=by simp;omega
    simp only[if_pos h2,e,a,Bool.false_eq_true,if_false,if_true]
    omega
   ·have a:¬upto sp L+1<(c::L).length:=by simp;omega
    simp only[if_neg h2,if_neg a]
    rfl
def wb (file sp:Bool):List ByteArray→List UInt8→List UInt8→List ByteArray
 |l,b,[]=>rY file true l b
 |l,b,c::M=>if bZ sp c=true then wb file sp (rY file false l b) [] M else wb file sp l (b++[c]) M
theorem QU (file sp:Bool):∀(M:List UInt8) (l:List ByteArray) (b:List UInt8),¬upto sp M<M.length→wb file sp l b M=rY file true l (b++M)
 |[],l,b,_=>by rw[List.append_nil];rfl
 |c::M,l,b,h=>by
  unfold upto at h
  cases hs:bZ sp c with
  |true=>rw[hs]at h;simp at h
  |false=>
   rw[hs,if_neg (by decide)]at h
   rw[wb,hs,if_neg (by decide),QU file sp M l (b++[c]) (by simp at h;omega),List.append_assoc]
   rfl
theorem QW (file sp:Bool):∀(M:List UInt8) (l:List ByteArray) (b:List UInt8),upto sp M<M.length→wb file sp l b M=wb file sp (rY file false l (b++M.take (upto sp M))) [] (M.drop (upto sp M+1))
 |[],l,b,h=>by simp[upto]at h
 |c::M,l,b,h=>by
  unfold upto at h
  cases hs:bZ sp c with
  |true=>
   rw[wb,hs,if_pos rfl,upto,hs,if_pos rfl]
   simp
  |false=>
   rw[hs,if_neg (by decide)]at h
   rw[wb,hs,if_neg (by decide),QW file sp M l (b++[c]) (by simp at h;omega),List.append_assoc,upto,hs,if_neg (by decide)]
   rfl
theorem nO (file a:Bool) (l:List ByteArray) (L:List UInt8):(rY file a l L).length≤l.length+1:=by
 have h:(jc file l).length≤l.length:=by rw[nN];split<;>omega
 unfold rY
 repeat' split
 all_goals simp
 all_goals omega
end iJ
namespace dL
open Go.RowKit Base
def aF (l:List ByteArray):List UInt8:=l.flatMap fun s=>47::s.data.toList
def pF (b6:Bool) (s7:ByteArray) (l:List ByteArray):List UInt8:=if b6 then s7.data.toList else aF l
def kZ (s1 s2:ByteArray):List UInt8:=if s2.data.toList=[]then(if s1.data.toList=[]then[]else s1.data.toList++[64])else s1.data.toList++[58]++s2.data.toList++[64]
def jW (z5:Int):List UInt8:=if z5= -1 then[]else 58::Lib.itoa z5
def rP (b6:Bool) (l:List ByteArray):Bool:= !b6&&match l with
 |a::_::_=>decide (a.data.toList=[])
 |_=>false
def qE (s1 s2 s3:ByteArray) (b4:Bool) (z5:Int) (b6:Bool) (l:List ByteArray):List UInt8:=
 if b4 then[47,47]++kZ s1 s2++s3.data.toList++jW z5 else if rP b6 l then[47,46]else[]
def vI (s0 s1 s2 s3:ByteArray) (b4:Bool) (z5:Int) (b6:Bool) (s7:ByteArray) (l:List ByteArray) (b9:Bool) (s11:ByteArray):List UInt8:=
 s0.data.toList++[58]++qE s1 s2 s3 b4 z5 b6 l++pF b6 s7 l++(if b9 then 63::s11.data.toList else[])
def BX (s0 s1 s2 s3:ByteArray) (b4:Bool) (z5:Int) (b6:Bool) (s7:ByteArray) (l:List ByteArray) (b9 b10:Bool) (s11 s12:ByteArray):List UInt8:=
 vI s0 s1 s2 s3 b4 z5 b6 s7 l b9 s11++(if b10 then 35::s12.data.toList else[])
def txt (h:Bool) (s:ByteArray):Option (List UInt8):=if h then some s.data.toList else none
def tN (s0 s1 s2 s3:ByteArray) (b4:Bool) (z5:Int) (b6:Bool) (s7:ByteArray) (l:List ByteArray) (b9 b10:Bool) (s11 s12:ByteArray):List (Option (List UInt8))×Int×Bool×List ByteArray:=
 ([some s0.data.toList,some s1.data.toList,some s2.data.toList,txt b4 s3,txt b6 s7,txt b9 s11,txt b10 s12],z5,b6,if b6 then[]else l)
def fewN (s0 s1 s2 s3 s7 s11 s12:ByteArray) (l:List ByteArray):Nat:=s0.size+s1.size+s2.size+s3.size+s7.size+s11.size+s12.size+(l.map (·.size)).sum
theorem FB (l:List ByteArray) (s:ByteArray):aF (l++[s])=aF l++(47::s.data.toList):=by simp[aF]
theorem kD (l:List ByteArray):(aF l).length=l.length+(l.map (·.size)).sum:=by
 induction l with
 |nil=>rfl
 |cons a l ih=>
  have e:aF (a::l)=(47::a.data.toList)++aF l:=rfl;rw[e,List.length_append,ih];simp only[List.length_cons,List.map_cons,List.sum_cons];rw[show a.data.toList.length=a.size from Array.length_toList];omega
theorem dG (l:List ByteArray) (k:Nat) (h:k<l.length):l.take (k+1)=l.take k++[l[k]]:=by
 rw[List.take_succ_eq_append_getElem h]
theorem FY (l:List ByteArray) (k:Nat):((l.take k).map (·.size)).sum≤(l.map (·.size)).sum:=by
 have h:l.map (·.size)=(l.take k).map (·.size)++(l.drop k).map (·.size):=by rw[←List.map_append,List.take_append_drop]
 rw[h,List.sum_append];omega
theorem WS (l:List ByteArray) (k:Nat) (h:k<l.length):((l.take (k+1)).map (·.size)).sum=((l.take k).map (·.size)).sum+l[k].size:=by
 rw[dG l k h,List.map_append,List.sum_append];simp
theorem jV (L:List UInt8):(ah L).data.toList=L:=rfl
theorem ext_str {a b:ByteArray} (h:a.data.toList=b.data.toList):a=b:=by
 cases a;cases b;simp at h;subst h;rfl
theorem tl (s:ByteArray):s.toList=s.data.toList:=by
 obtain⟨d⟩:=s;rw[ByteArray.toList_mk]
theorem qR (a b:ByteArray):(a.toList==b.toList)=decide (a.data.toList=b.data.toList):=by
 rw[tl,tl,Bool.eq_iff_iff];simp
end dL
namespace gV
open Go.RowKit Base dL
def jo (L:List UInt8):Int:=if L=[102,116,112]then 21 else if L=[104,116,116,112]∨L=[119,115]then 80 else if L=[104,116,116,112,115]∨L=[119,115,115]then 443 else -1
def aj (L:List UInt8):Bool:=decide (L=[102,105,108,101])||decide (jo L≠-1)
theorem sorts (L:List UInt8):L=[102,116,112]∨L=[104,116,116,112]∨L=[119,115]∨L=[104,116,116,112,115]∨L=[119,115,115]∨L=[102,105,108,101]∨(L≠[102,116,112]∧L≠[104,116,116,112]∧L≠[119,115]∧L≠[104,116,116,112,115]∧L≠[119,115,115]∧L≠[102,105,108,101]):=by
 by_cases h1:L=[102,116,112]
 ·exact .inl h1
 by_cases h2:L=[104,116,116,112]
 ·exact .inr (.inl h2)
 by_cases h3:L=[119,115]
 ·exact .inr (.inr (.inl h3))
 by_cases h4:L=[104,116,116,112,115]
 ·exact .inr (.inr (.inr (.inl h4)))
 by_cases h5:L=[119,115,115]
 ·exact .inr (.inr (.inr (.inr (.inl h5))))
 by_cases h6:L=[102,105,108,101]
 ·exact .inr (.inr (.inr (.inr (.inr (.inl h6)))))
 exact .inr (.inr (.inr (.inr (.inr (.inr ⟨h1,h2,h3,h4,h5,h6⟩)))))
theorem gG {s:ByteArray} {L:List UInt8} (h:s.data.toList=L):s=⟨L.toArray⟩:=by
 obtain⟨d⟩:=s;subst h;rfl
theorem iI {s:ByteArray} {L:List UInt8} (h:s.data.toList≠L):(s.toList==L)=false:=by
 rw[tl];simpa using h
theorem CS (s:ByteArray) (w:World):Calls prog 146 #[.string s] w fun e w'=>e=.returned (.int .i64 (jo s.data.toList))∧w'=w:=by
 rcases sorts s.data.toList with h|h|h|h|h|h|⟨h1,h2,h3,h4,h5,h6⟩
 ·obtain rfl:=gG h;clear h;go_enter func146,ntmps146;go_wp2;go_ret;exact⟨rfl,rfl⟩
 ·obtain rfl:=gG h;clear h;go_enter func146,ntmps146;go_wp2;go_ret;exact⟨rfl,rfl⟩
 ·obtain rfl:=gG h;clear h;go_enter func146,ntmps146;go_wp2;go_ret;exact⟨rfl,rfl⟩
 ·obtain rfl:=gG h;clear h;go_enter func146,ntmps146;go_wp2;go_ret;exact⟨rfl,rfl⟩
 ·obtain rfl:=gG h;clear h;go_enter func146,ntmps146;go_wp2;go_ret;exact⟨rfl,rfl⟩
 ·obtain rfl:=gG h;clear h;go_enter func146,ntmps146;go_wp2;go_ret;exact⟨rfl,rfl⟩
 have a:Hid (jo s.data.toList= -1):=by
  unfold jo;show _=_;rw[if_neg h1,if_neg (by rintro(h|h);exact h2 h;exact h3 h),if_neg (by rintro(h|h);exact h4 h;exact h5 h)]
 have c:Hid (aj s.data.toList=false):=by
  unfold aj;show _=_;rw[a.out];simpa using h6
 replace h1:=iI h1;replace h2:=iI h2;replace h3:=iI h3;replace h4:=iI h4;replace h5:=iI h5;replace h6:=iI h6;go_enter func146,ntmps146;go_wp2;go_ret;exact⟨QG a.symm,rfl⟩
theorem Df (s:ByteArray) (w:World):Calls prog 42 #[.string s] w fun e w'=>e=.returned (.tuple #[.int .i64 (jo s.data.toList),.bool (aj s.data.toList)])∧w'=w:=by
 rcases sorts s.data.toList with h|h|h|h|h|h|⟨h1,h2,h3,h4,h5,h6⟩
 ·obtain rfl:=gG h;clear h;go_enter func42,ntmps42;go_wp2;go_ret2;exact⟨rfl,rfl⟩
 ·obtain rfl:=gG h;clear h;go_enter func42,ntmps42;go_wp2;go_ret2;exact⟨rfl,rfl⟩
 ·obtain rfl:=gG h;clear h;go_enter func42,ntmps42;go_wp2;go_ret2;exact⟨rfl,rfl⟩
 ·obtain rfl:=gG h;clear h;go_enter func42,ntmps42;go_wp2;go_ret2;exact⟨rfl,rfl⟩
 ·obtain rfl:=gG h;clear h;go_enter func42,ntmps42;go_wp2;go_ret2;exact⟨rfl,rfl⟩
 ·obtain rfl:=gG h;clear h;go_enter func42,ntmps42;go_wp2;go_ret2;exact⟨rfl,rfl⟩
 have a:Hid (jo s.data.toList= -1):=by
  unfold jo;show _=_;rw[if_neg h1,if_neg (by rintro(h|h);exact h2 h;exact h3 h),if_neg (by rintro(h|h);exact h4 h;exact h5 h)]
 have c:Hid (aj s.data.toList=false):=by
  unfold aj;show _=_;rw[a.out];simpa using h6
 replace h1:=iI h1;replace h2:=iI h2;replace h3:=iI h3;replace h4:=iI h4;replace h5:=iI h5;replace h6:=iI h6;go_enter func42,ntmps42;go_wp2;go_ret2;exact⟨AQ (int_eq a.symm) (kN c.symm),rfl⟩
theorem jD (s:ByteArray) (w:World):Calls prog 63 #[.string s] w fun e w'=>e=.returned (.bool (aj s.data.toList))∧w'=w:=by
 by_cases h:s.data.toList=[102,105,108,101]
 ·obtain rfl:=gG h;clear h;go_enter func63,ntmps63;go_wp2;go_ret;exact⟨rfl,rfl⟩
 obtain⟨p,a⟩:∃p,p=jo s.data.toList:=⟨_,rfl⟩;have c:Hid (aj s.data.toList=decide (p≠-1)):=by
  unfold aj;show _=_;rw[←a,decide_eq_false h];rfl
 have d:=hid a;replace h:=iI h;clear a;go_enter func63,ntmps63;go_wp2_with fail
 refine(CS _ _).mono ?_;rintro e g ⟨rfl,rfl⟩;rw[←d.out];by_cases e1:p= -1
 ·subst e1;go_wp2;go_ret;exact⟨aC c.symm,rfl⟩
 have j:(p== -1)=false:=by simpa using e1
 have i:(p != -1)=true:=by simpa using e1
 have f:Hid (decide (p≠-1)=true):=decide_eq_true e1;clear e1;go_wp2;go_ret;exact⟨aC (by rw[c.out,f.out]),rfl⟩
end gV
