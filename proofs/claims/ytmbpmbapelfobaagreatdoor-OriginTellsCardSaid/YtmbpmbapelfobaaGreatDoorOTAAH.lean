/- Lemmas. -/
import Derived.Test.YtmbpmbapelfobaaGreatDoorOTAAG
import Derived.Deep.QuietTactic
import Derived.Lib.SliceRun
import Derived.Lib.IndexAny
import Derived.Lib.ItoaNum
set_option linter.unusedSimpArgs false
set_option linter.unusedVariables false
set_option maxRecDepth 100000
set_option maxHeartbeats 64000000
namespace Go.Proofs.YtmbpmbapelfobaaGreatDoor
open Tryz
namespace nN
open Go.RowKit Base dw
def esc:List UInt8→Option UInt8
 |a::b::c::_=>if a=37∧0≤hex b.toNat∧0≤hex c.toNat then some (UInt8.ofNat (16*hex b.toNat+hex c.toNat).toNat)else none
 |_=>none
def rX:Nat→List UInt8→List UInt8
 |0,_=>[]
 |_+1,[]=>[]
 |n+1,x::t=>match esc (x::t)with
  |some c=>c::rX n (t.drop 2)
  |none=>x::rX n t
def dec (L:List UInt8):List UInt8:=rX L.length L
theorem qj:∀(n m:Nat) (L:List UInt8),L.length≤n→L.length≤m→rX n L=rX m L
 |0,0,_,_,_=>rfl
 |0,m+1,[],_,_=>rfl
 |0,_+1,_::_,h,_=>by simp at h
 |n+1,0,[],_,_=>rfl
 |_+1,0,_::_,_,h=>by simp at h
 |_+1,_+1,[],_,_=>rfl
 |n+1,m+1,x::t,h1,h2=>by
  simp only[List.length_cons]at h1 h2
  rw[rX,rX,qj n m _ (by simp;omega) (by simp;omega),qj n m _ (by omega) (by omega)]
theorem mZ:dec []=[]:=rfl
theorem sQ (x:UInt8) (t:List UInt8) (c:UInt8) (h:esc (x::t)=some c):dec (x::t)=c::dec (t.drop 2):=by
 unfold dec;rw[List.length_cons,rX,h];rw[qj t.length (t.drop 2).length _ (by simp) (Nat.le_refl _)]
theorem lC (x:UInt8) (t:List UInt8) (h:esc (x::t)=none):dec (x::t)=x::dec t:=by
 unfold dec;rw[List.length_cons,rX,h]
theorem pU (L:List UInt8):(dec L).length≤L.length:=by
 have H : ∀ (n : Nat) (L : List UInt8), (rX n L).length ≤ L.length := by
  intro n;induction n with
  |zero=>intro L;simp[rX]
  | succ n ih=>
   intro L;cases L with
   |nil=>simp[rX]
   |cons x t=>
    rw[rX];split
    ·have:=ih (t.drop 2);simp at this⊢;omega
    have:=ih t;simp at this⊢;omega
 exact H _ _
theorem wo (c:UInt8): -1≤hex c.toNat∧hex c.toNat≤15:=by
 unfold hex
 (repeat' split)<;>omega
attribute [local go_sem ↓] Go.wp_at_zero Go.wp_at_succ
def xX (L:List UInt8):Value×Bool:=match esc L with
 |some c=>(.int .u8 (c.toNat:Int),true)
 |none=>(.int .u8 0,false)
theorem Ic (s:ByteArray) (h:s.size<3):esc s.data.toList=none:=by
 have a:s.data.toList.length<3:=by rw[Array.length_toList];exact h
 match e:s.data.toList,a with
 |[],_=>rfl
 |[_],_=>rfl
 |[_,_],_=>rfl
theorem VJ (s:ByteArray) (h:3≤s.size):∃t,s.data.toList=s[0]::s[1]::s[2]::t:=by
 have d:3≤s.data.toList.length:=by rw[Array.length_toList];exact h
 match e:s.data.toList,d with
 |a::b::c::t,_=>
  have i:s[0]=a:=by
   have:s.data.toList[0]'(by omega)=a:=by simp[e]
   exact this
  have g:s[1]=b:=by
   have:s.data.toList[1]'(by omega)=b:=by simp[e]
   exact this
  have f:s[2]=c:=by
   have:s.data.toList[2]'(by omega)=c:=by simp[e]
   exact this
  exact⟨t,by rw[i,g,f]⟩
theorem abE (z:Int) (c:0≤z) (a:z≤255):((UInt8.ofNat z.toNat).toNat:Int)=z:=by simp;omega
theorem ahh (h l:Int) (d:0≤h) (f:h≤15) (c:0≤l) (e:l≤15):bits .or .i64 (h*16) l=16*h+l:=by
 have H:∀a b:Fin 16,bits .or .i64 ((a.val:Int)*16) (b.val:Int)=16*(a.val:Int)+(b.val:Int):=by decide+kernel
 have:=H ⟨h.toNat,by omega⟩ ⟨l.toNat,by omega⟩;simp only[Int.toNat_of_nonneg d,Int.toNat_of_nonneg c]at this;exact this
theorem acv (c:Int) (w:World) (d:0≤c) (a:c≤255):Calls prog 194 #[.int .u8 c] w fun e w'=>e=.returned (.int .i64 (hex c))∧w'=w:=
 (jm c w d a).mono fun _ _ ⟨he,hw⟩=>⟨he,hw.symm⟩
theorem CX (s:ByteArray) (w:World) (v:s.size≤maxLen):Calls prog 166 #[.string s] w fun e w'=>e=.returned (.tuple #[(xX s.data.toList).1,.bool (xX s.data.toList).2])∧Below w.heap.size w w':=by
 unfold maxLen at v;by_cases h3:s.size<3
 ·have d:Hid (xX s.data.toList=(.int .u8 0,false)):=by unfold xX;rw[Ic s h3];exact rfl
  have m:(s.size:Int)<3:=by omega
  go_enter func166,ntmps166;go_wp2;go_ret2;rw[d.out];exact⟨rfl,Below.refl _ _⟩
 have m:(3:Int)≤(s.size:Int):=by omega
 obtain⟨t,n⟩:=VJ s (by omega);obtain⟨a,C⟩:∃a,s[0]=a:=⟨_,rfl⟩;obtain⟨b,B⟩:∃b,s[1]=b:=⟨_,rfl⟩;obtain⟨c,z⟩:∃c,s[2]=c:=⟨_,rfl⟩;rw[C,B,z]at n;have j:=hid n;have A:0≤(b.toNat:Int)∧(b.toNat:Int)≤255:=by have:=b.toNat_lt;omega
 have y:0≤(c.toNat:Int)∧(c.toNat:Int)≤255:=by have:=c.toNat_lt;omega
 by_cases h37:a=37
 ·subst h37;have i:(((37:UInt8).toNat:Int) !=37)=false:=by decide
  obtain⟨r,l⟩:=wo b;obtain⟨q,k⟩:=wo c;by_cases hx:hex b.toNat<0
  ·have d:Hid (xX s.data.toList=(.int .u8 0,false)):=by
    unfold xX;rw[j.out,esc,if_neg (by intro h;omega)];exact rfl
   go_enter func166,ntmps166;go_wp2
   go_quiet ((go_at_call 194;exact Calls.quiet_of_same (acv _ _ (by omega) (by omega))))
   go_wp2;go_ret2;rw[d.out];exact⟨rfl,Base.below_drewN (Below.refl _ _) _⟩
  have g:0≤hex b.toNat:=by omega
  by_cases hy:hex c.toNat<0
  ·have d:Hid (xX s.data.toList=(.int .u8 0,false)):=by
    unfold xX;rw[j.out,esc,if_neg (by intro h;omega)];exact rfl
   go_enter func166,ntmps166;go_wp2
   go_quiet ((go_at_call 194;exact Calls.quiet_of_same (acv _ _ (by omega) (by omega))))
   go_wp2;go_ret2;rw[d.out];exact⟨rfl,Base.below_drewN (Below.refl _ _) _⟩
  have f:0≤hex c.toNat:=by omega
  have d:Hid (xX s.data.toList=(.int .u8 (16*hex b.toNat+hex c.toNat),true)):=by
   unfold xX;rw[j.out,esc,if_pos ⟨rfl,g,f⟩];show(Value.int .u8 ((UInt8.ofNat (16*hex b.toNat+hex c.toNat).toNat).toNat:Int),true)=_;rw[abE _ (by omega) (by omega)]
  have x:=ahh _ _ g l f k;go_enter func166,ntmps166;go_wp2
  go_quiet ((go_at_call 194;exact Calls.quiet_of_same (acv _ _ (by omega) (by omega))))
  go_wp2;go_ret2;rw[d.out];exact⟨Aj rfl rfl,Base.below_drewN (Below.refl _ _) _⟩
 have d:Hid (xX s.data.toList=(.int .u8 0,false)):=by
  unfold xX;rw[j.out,esc,if_neg (by intro h;exact h37 h.1)];exact rfl
 have i:((a.toNat:Int) !=37)=true:=by
  simp;intro h;exact h37 (UInt8.toNat_inj.1 (by simp;omega))
 go_enter func166,ntmps166;go_wp2;go_ret2;rw[d.out];exact⟨rfl,Below.refl _ _⟩
theorem extract_drop (s:ByteArray) (k:Nat) (_h:k≤s.size):(s.extract k s.size).data.toList=s.data.toList.drop k:=by
 rw[ByteArray.data_extract];simp[Array.toList_extract,List.extract_eq_take_drop];rw[List.take_of_length_le (by rw[List.length_drop,Array.length_toList];exact Nat.le_refl _)]
theorem qE (s:ByteArray) (w:World) (W:s.size≤1073741824):Calls prog 139 #[.string s] w fun e w'=>∃v,e=.returned v∧w'.ownsRow w.heap.size 5 1 v (dec s.data.toList).length (aU (dec s.data.toList))∧Below w.heap.size w w':=by
 obtain⟨C,hi,r,q,n⟩:=info_parts rD;have P:s.data.toList.length=s.size:=Array.length_toList;have H:=hid P;go_enter func139,ntmps139;go_wp2_with (at_make;refine wpList_make_own _ rfl _ _ 55 rfl w.heap.size 5 C (.int .u8 0) 1 underlying55 hi r q .i64 .i64 _ s.size rfl rfl rfl (by rw[n];omega) (by unfold maxLen;omega) (Nat.le_refl _) ?_)
 intro N t E;have y:Below w.heap.size w N:=(Below.refl _ _).grown E (Nat.le_refl _) (by intro k h;cases h);go_wp2;go_loopw [3,4] (fun v vk wr=>∃(j:Nat) (X:List UInt8),j≤s.size∧X.length≤j∧vk=.int .i64 j∧wr.ownsRow w.heap.size 5 1 v X.length (aU X)∧Below w.heap.size w wr∧Hid (X++dec (s.data.toList.drop j)=dec s.data.toList)) (fun _ vk _=>s.size - (intOf vk).toNat)
 case atStart=>exact⟨0,[],Nat.zero_le _,Nat.le_refl _,rfl,t,y,rfl⟩
 case round=>
  obtain⟨j,X,Q,Y,rfl,l,d,F⟩:=hrel;by_cases hlt:j<s.size
  ·obtain ⟨x,hx⟩:∃x,s[j]=x:=⟨_,rfl⟩;have T:s.data.toList.drop j=x::s.data.toList.drop (j+1):=by
    rw[←hx];exact List.drop_eq_getElem_cons (by rw[H.out];exact hlt)
   have I:=hid T;have A:Hid ((s.extract j s.size).data.toList=s.data.toList.drop j):=extract_drop s j Q;have D:(s.extract j s.size).size=s.size - j:=by simp
   have z:=hid D;cases hesc:esc (s.data.toList.drop j)with
   | none=>
    have HV:Hid (xX (s.extract j s.size).data.toList=(.int .u8 0,false)):=by
     unfold xX;rw[A.out,hesc];exact rfl
    have G:Hid (dec (s.data.toList.drop j)=x::dec (s.data.toList.drop (j+1))):=by
     rw[I.out]at hesc⊢;exact lC _ _ hesc
    go_wp2_with fail
    refine(CX _ _ (by rw[z.out];unfold maxLen;omega)).mono ?_;rintro e L ⟨rfl,m⟩;rw[HV.out];have g:=aY l m;have a:=d.trans (m.mono d.size);go_wp2_with (at_builtin;refine bJ rfl _ _ 55 rfl w.heap.size 5 C (.int .u8 0) 1 underlying55 hi r q n rfl _ X.length _ rfl g a a.size [.int .u8 (x.toNat:Int)] 1 rfl rfl (by intro u B;simp at B;subst B;rfl) (by unfold maxLen;omega) (by omega) ?_)
    intro O J f i;go_wp2;go_roundw
    case rel=>exact⟨j+1,X++[x],by omega,by simp;omega,by go_num,by rw[eG,List.length_append];exact f,i,by
      rw[List.append_assoc];have:=F.out;rw[G.out]at this;exact this⟩
    case measure=>simp[intOf];omega
   | some c=>
    have Z:j+3≤s.size:=by
     rcases Nat.lt_or_ge (s.size - j) 3 with h|h
     ·have:=Ic (s.extract j s.size) (by rw[z.out];exact h);rw[A.out,hesc]at this;cases this
     omega
    have HV:Hid (xX (s.extract j s.size).data.toList=(.int .u8 (c.toNat:Int),true)):=by
     unfold xX;rw[A.out,hesc];exact rfl
    have G:Hid (dec (s.data.toList.drop j)=c::dec (s.data.toList.drop (j+3))):=by
     rw[I.out]at hesc⊢;rw[sQ _ _ _ hesc,List.drop_drop];exact rfl
    go_wp2_with fail
    refine(CX _ _ (by rw[z.out];unfold maxLen;omega)).mono ?_;rintro e L ⟨rfl,m⟩;rw[HV.out];have g:=aY l m;have a:=d.trans (m.mono d.size);go_wp2_with (at_builtin;refine bJ rfl _ _ 55 rfl w.heap.size 5 C (.int .u8 0) 1 underlying55 hi r q n rfl _ X.length _ rfl g a a.size [.int .u8 (c.toNat:Int)] 1 rfl rfl (by intro u B;simp at B;subst B;rfl) (by unfold maxLen;omega) (by omega) ?_)
    intro O J f i;go_wp2;go_roundw
    case rel=>exact⟨j+3,X++[c],by omega,by simp;omega,by rw[show((j+3:Nat):Int)=(j:Int)+2+1 by omega],by rw[eG,List.length_append];exact f,i,by
      rw[List.append_assoc];have:=F.out;rw[G.out]at this;exact this⟩
    case measure=>simp[intOf];omega
  obtain rfl:j=s.size:=by omega
  have V:Hid (X=dec s.data.toList):=by
   have e:=F.out;rw[←H.out,List.drop_length,mZ,List.append_nil]at e;exact e
  go_wp2;go_ret;exact⟨_,rfl,by rw[←V.out];exact l,d⟩
end nN
namespace jq
open Go.RowKit Base fA lX qy
def FRB:List UInt8:=[0,9,10,13,32,35,47,58,60,62,63,64,91,92,93,94,124]
def S9 (c:UInt8):Bool:=FRB.contains c
def yS (d:Bool) (c:UInt8):Bool:=S9 c||(d&&(decide (c.toNat<32)||(c==127||c==37)))
theorem Ie (c:UInt8):yS false c=S9 c:=by simp[yS]
def okb (d:Bool) (c:UInt8):Bool:= !(yS d c)&&(!d||decide (c.toNat≤126))
def oks (d:Bool) (L:List UInt8):Bool:=L.all (okb d)
def Xl (V:List Nat):List UInt8:=jF.prt fun i=>V.getD i 0
def addr (M:List UInt8):Option (List UInt8):=match six M with
 |none=>none
 |some V=>some (91::(Xl V++[93]))
def hbr (M:List UInt8):Option (List UInt8):=if Lib.hasSuffix M [93]=true then addr (Lib.trimSuffix M [93])else none
def Jo (M:List UInt8):Option (List UInt8):=if M=[]then none else if ends M=true then(Dx M).map yx.pr else some M
def Oq (L:List UInt8):Option (List UInt8):=if oks true L=true then Jo (lower L)else none
def Rf (s:List UInt8):Option (List UInt8):=if oks false s=true then some (aP.enc 0 s)else none
def aS (s:List UInt8) (sp:Bool):Option (List UInt8):=if s.head?=some 91 then hbr s.tail else if sp=true then Oq (nN.dec s)else Rf s
def HV (o:Option (List UInt8)):Value:=match o with
 |none=>.tuple #[.string (ah []),.bool false]
 |some L=>.tuple #[.string (ah L),.bool true]
theorem Ih (c:UInt8):decide (0≤Lib.indexByte FRB c)=S9 c:=by
 have H:∀n:Fin 256,decide (0≤Lib.indexByte FRB (UInt8.ofNat n.val))=S9 (UInt8.ofNat n.val):=by decide+kernel
 have:=H ⟨c.toNat,c.toNat_lt⟩;simpa using this
theorem qI (c:UInt8):okb true c=(!(yS true c)&&decide (c.toNat≤126)):=by simp[okb]
theorem Tc (c:UInt8) (h:S9 c=true):c=0∨c=9∨c=10∨c=13∨c=32∨c=35∨c=47∨c=58∨c=60∨c=62∨c=63∨c=64∨c=91∨c=92∨c=93∨c=94∨c=124:=by
 unfold S9 FRB at h;simpa using h
theorem gV (c:UInt8) (h:S9 c=false) (k:UInt8) (a:S9 k=true):((c.toNat:Int)==(k.toNat:Int))=false:=by
 rw[beq_eq_false_iff_ne];intro e;have:c=k:=UInt8.toNat_inj.1 (by omega);rw[this,a]at h;cases h
theorem ZM (c:UInt8):okb true (low c)=okb true c:=by
 have H:∀n:Fin 256,okb true (low (UInt8.ofNat n.val))=okb true (UInt8.ofNat n.val):=by decide+kernel
 have:=H ⟨c.toNat,c.toNat_lt⟩;simpa using this
theorem II (L:List UInt8):oks true (lower L)=oks true L:=by
 unfold oks lower;rw[List.all_map];congr 1
 funext c
 exact ZM c
theorem jR (d:Bool) (L:List UInt8) (k:Nat) (h:k<L.length):oks d (L.take (k+1))=(oks d (L.take k)&&okb d L[k]):=by
 unfold oks;rw[List.take_succ_eq_append_getElem h,List.all_append];simp
theorem uM (d:Bool) (L:List UInt8) (k:Nat) (h:k<L.length) (a:okb d L[k]=false):oks d L=false:=by
 unfold oks;rw[List.all_eq_false];exact⟨L[k],List.getElem_mem h,by rw[a];exact Bool.false_ne_true⟩
end jq
namespace iy
open Go.RowKit fA dw
def qW (L:List UInt8):Bool:=decide (L=[46])||decide (lower L=[37,50,101])
def qh (L:List UInt8):Bool:=decide (lower L=[46,46])||decide (lower L=[46,37,50,101])||decide (lower L=[37,50,101,46])||decide (lower L=[37,50,101,37,50,101])
def mO (L:List UInt8):Bool:=match L with
 |[a,b]=>letter (a.toNat:Int)&&(decide (b=58)||decide (b=124))
 |_=>false
def wG (L:List UInt8):Bool:=match L with
 |[a,b]=>letter (a.toNat:Int)&&decide (b=58)
 |_=>false
def pR (L:List UInt8):Bool:=match L with
 |[a,b]=>mO [a,b]
 |a::b::c::_=>mO [a,b]&&(decide (c=47)||decide (c=92)||decide (c=63)||decide (c=35))
 |_=>false
theorem abj (c:UInt8):low c=46↔c=46:=by
 have H:∀n:Fin 256,low (UInt8.ofNat n.val)=46↔UInt8.ofNat n.val=46:=by decide+kernel
 have:=H ⟨c.toNat,c.toNat_lt⟩;simpa using this
theorem iM (c:UInt8) (L:List UInt8):lower (c::L)=low c::lower L:=rfl
theorem ql (L:List UInt8):lower L=[46]↔L=[46]:=by
 constructor
 ·intro h
  match L,h with
  |[c],h=>rw[iM]at h;injection h with h _;rw[(abj c).1 h]
  |_::_::_,h=>simp[lower]at h
  |[],h=>simp[lower]at h
 rintro rfl;rfl
theorem Y4 (L:List UInt8):qh (46::L)=qW L:=by
 have e:low 46=46:=rfl;unfold qh qW;rw[iM,e,Bool.eq_iff_iff];simp[←ql L]
theorem Hy (c:UInt8) (L:List UInt8) (l:c≠46):qh (c::L)=(decide (3<(c::L).length)&&(qW ((c::L).take 3)&&qW ((c::L).drop 3))):=by
 have j:low c≠46:=fun h=>l ((abj c).1 h)
 match L with
 |[]=>simp[qh,lower,j]
 |[_]=>simp[qh,lower,j]
 |[_,_]=>simp[qh,lower,j]
 |a::b::d::L=>
  unfold qh qW;simp only[List.take_succ_cons,List.take_zero,List.drop_succ_cons,List.drop_zero,iM,List.length_cons];rw[Bool.eq_iff_iff];simp[j,←ql (d::L),iM,show lower ([]:List UInt8)=[]from rfl];constructor
  ·rintro(⟨i,g,f,e,k⟩|⟨i,g,f,e⟩)
   ·exact⟨⟨i,g,f⟩,.inl ⟨e,k⟩⟩
   exact⟨⟨i,g,f⟩,.inr e⟩
  rintro⟨⟨i,g,f⟩,⟨e,k⟩|e⟩
  ·exact .inl ⟨i,g,f,e,k⟩
  exact .inr ⟨i,g,f,e⟩
end iy
namespace mW
open Go.RowKit Base fA iy
theorem tl (s:ByteArray):s.toList=s.data.toList:=by
 obtain⟨d⟩:=s;rw[ByteArray.toList_mk]
theorem Eu (s:ByteArray) (L:List UInt8):(s.toList==L)=decide (s.data.toList=L):=by
 rw[tl,Bool.eq_iff_iff];simp
theorem dU (M L:List UInt8):((ah M).toList==L)=decide (M=L):=Eu (ah M) L
theorem jI (s:ByteArray) (w:World) (h:s.size≤maxLen):Calls prog 183 #[.string s] w fun e w'=>e=.returned (.bool (qW s.data.toList))∧Below w.heap.size w w':=by
 obtain⟨o,a⟩:∃o,o=qW s.data.toList:=⟨_,rfl⟩;rw[←a];by_cases h1:s.data.toList=[46]
 ·have g:(s.toList==[46])=true:=by rw[Eu];exact decide_eq_true h1
  have j:Hid (o=true):=by show _=_;rw[a];unfold qW;rw[decide_eq_true h1];rfl
  clear h1 a;go_enter func183,ntmps183;go_wp2;go_ret;exact⟨aH j.symm,Below.refl _ _⟩
 have g:(s.toList==[46])=false:=by rw[Eu];exact decide_eq_false h1
 obtain⟨V,d⟩:∃V,V=ah (lower s.data.toList):=⟨_,rfl⟩;have f:(V.toList==[37,50,101])=o:=by rw[d,dU,a];unfold qW;rw[decide_eq_false h1,Bool.false_or]
 have HV:=hid d;have i:=hid f;clear h1 a d f;go_enter func183,ntmps183;go_wp2_with fail
 refine(fA.jQ s _ h).mono ?_;rintro e k ⟨rfl,c⟩;rw[←HV.out];go_wp2;go_ret;exact⟨aH i,c⟩
theorem yt (s:ByteArray) (w:World) (g:s.size≤1073741824):Calls prog 119 #[.string s] w fun e w'=>e=.returned (.bool (qW s.data.toList))∧Below w.heap.size w w':=by
 obtain⟨o,d⟩:∃o,o=qW s.data.toList:=⟨_,rfl⟩;rw[←d];obtain⟨V,c⟩:∃V,V=ah (lower s.data.toList):=⟨_,rfl⟩;by_cases h1:s.data.toList=[46]
 ·have j:(V.toList==[46])=true:=by rw[c,dU];exact decide_eq_true ((ql _).2 h1)
  have l:Hid (o=true):=by show _=_;rw[d];unfold qW;rw[decide_eq_true h1];rfl
  have HV:=hid c;clear h1 d c;go_enter func119,ntmps119;go_wp2_with fail
  refine(nK.jQ s _ g).mono ?_;rintro e i ⟨rfl,a⟩;rw[←HV.out];go_wp2;go_ret;exact⟨aH l.symm,a⟩
 have j:(V.toList==[46])=false:=by rw[c,dU];exact decide_eq_false (fun h=>h1 ((ql _).1 h))
 have f:(V.toList==[37,50,101])=o:=by rw[c,dU,d];unfold qW;rw[decide_eq_false h1,Bool.false_or]
 have HV:=hid c;have k:=hid f;clear h1 d c f;go_enter func119,ntmps119;go_wp2_with fail
 refine(nK.jQ s _ g).mono ?_;rintro e i ⟨rfl,a⟩;rw[←HV.out];go_wp2;go_ret;exact⟨aH k,a⟩
end mW
namespace sK
open Go.RowKit Base dw iy
theorem abD (c:UInt8) (n:Nat) (a:n<256):decide (c=UInt8.ofNat n)=decide (c.toNat=n):=by
 refine decide_eq_decide.2 ⟨?_,?_⟩
 ·rintro rfl;simp;omega
 intro h;rw[←h];simp
theorem Zf (c:UInt8):decide (c=58)=decide (c.toNat=58):=abD c 58 (by omega)
theorem abe (c:UInt8):decide (c=124)=decide (c.toNat=124):=abD c 124 (by omega)
theorem Kq (s:ByteArray) (h:s.size=2):s.data.toList=[s[0]'(by omega),s[1]'(by omega)]:=by
 refine List.ext_getElem ((show s.data.toList.length=s.size from Array.length_toList).trans h) fun i h1 h2=>?_;have:i=0∨i=1:=by simp at h2;omega
 rcases this with rfl|rfl<;>rfl
theorem zy (L:List UInt8) (h:mO L=true):L.length=2:=by
 match L,h with
 |[_,_],_=>rfl
theorem Qu (L:List UInt8) (h:L.length≠2):mO L=false:=by
 cases e:mO L with
 |false=>rfl
 |true=>exact absurd (zy L e) h
theorem QX (L:List UInt8) (h:mO L=false):wG L=false:=by
 match L,h with
 |[],_=>rfl
 |[_],_=>rfl
 |[a,b],h=>
  simp only[mO,wG]at h⊢;cases hl:letter (a.toNat:Int)with
  |false=>rfl
  |true=>
   rw[hl]at h;simp at h;simp[h.1]
 |_::_::_::_,_=>rfl
theorem QY (a b:UInt8) (h:mO [a,b]=true):wG [a,b]=decide (b=58):=by
 simp only[mO,wG,Bool.and_eq_true]at h⊢;rw[h.1,Bool.true_and]
theorem jM (s:ByteArray) (w:World):Calls prog 132 #[.string s] w fun e w'=>e=.returned (.bool (mO s.data.toList))∧w=w':=by
 obtain⟨o,d⟩:∃o,o=mO s.data.toList:=⟨_,rfl⟩;rw[←d];by_cases h2:s.size=2
 ·have q:0<s.size:=by omega
  have n:1<s.size:=by omega
  obtain⟨a,m⟩:∃a,s[0]=a:=⟨_,rfl⟩;obtain⟨b,l⟩:∃b,s[1]=b:=⟨_,rfl⟩;have k:((s.size:Int)==2)=true:=by simp;omega
  obtain⟨p,f⟩:∃p,p=letter (a.toNat:Int):=⟨_,rfl⟩;have h:Hid (o=(p&&(decide (b.toNat=58)||decide (b.toNat=124)))):=by
   show _=_;rw[d,Kq s h2,mO,m,l,f,Zf,abe]
  have g:=hid f;clear d f h2;by_cases e1:b.toNat=58
  ·have j:((b.toNat:Int)==58)=true:=by simp;omega
   have c:Hid (o=p):=by show _=_;rw[h.out,decide_eq_true e1];simp
   clear e1;cases p;all_goals
    go_enter func132,ntmps132;go_wp2_with fail
    refine(dw.iq _ _).mono ?_;rintro e i ⟨rfl,rfl⟩;rw[←g.out];go_wp2;go_ret;exact⟨aH c.symm,rfl⟩
  have j:((b.toNat:Int)==58)=false:=by simp;omega
  by_cases e2:b.toNat=124
  ·have q3:((b.toNat:Int)==124)=true:=by simp;omega
   have c:Hid (o=p):=by show _=_;rw[h.out,decide_eq_true e2];simp
   clear e1 e2;cases p;all_goals
    go_enter func132,ntmps132;go_wp2_with fail
    refine(dw.iq _ _).mono ?_;rintro e i ⟨rfl,rfl⟩;rw[←g.out];go_wp2;go_ret;exact⟨aH c.symm,rfl⟩
  have q3:((b.toNat:Int)==124)=false:=by simp;omega
  have c:Hid (o=false):=by show _=_;rw[h.out,decide_eq_false e1,decide_eq_false e2];simp
  clear e1 e2;cases p;all_goals
   go_enter func132,ntmps132;go_wp2_with fail
   refine(dw.iq _ _).mono ?_;rintro e i ⟨rfl,rfl⟩;rw[←g.out];go_wp2;go_ret;exact⟨aH c.symm,rfl⟩
 have k:((s.size:Int)==2)=false:=by simp;omega
 have c:Hid (o=false):=by show _=_;rw[d];exact Qu _ (by rw[show s.data.toList.length=s.size from Array.length_toList];exact h2)
 clear h2 d;go_enter func132,ntmps132;go_wp2;go_ret;exact⟨aH c.symm,rfl⟩
theorem dK (s:ByteArray) (w:World):Calls prog 117 #[.string s] w fun e w'=>e=.returned (.bool (mO s.data.toList))∧w=w':=by
 obtain⟨o,d⟩:∃o,o=mO s.data.toList:=⟨_,rfl⟩;rw[←d];by_cases h2:s.size=2
 ·have q:0<s.size:=by omega
  have n:1<s.size:=by omega
  obtain⟨a,m⟩:∃a,s[0]=a:=⟨_,rfl⟩;obtain⟨b,l⟩:∃b,s[1]=b:=⟨_,rfl⟩;have k:((s.size:Int)==2)=true:=by simp;omega
  obtain⟨p,f⟩:∃p,p=letter (a.toNat:Int):=⟨_,rfl⟩;have h:Hid (o=(p&&(decide (b.toNat=58)||decide (b.toNat=124)))):=by
   show _=_;rw[d,Kq s h2,mO,m,l,f,Zf,abe]
  have g:=hid f;clear d f h2;by_cases e1:b.toNat=58
  ·have j:((b.toNat:Int)==58)=true:=by simp;omega
   have c:Hid (o=p):=by show _=_;rw[h.out,decide_eq_true e1];simp
   clear e1;cases p;all_goals
    go_enter func117,ntmps117;go_wp2_with fail
    refine(nK.iq _ _).mono ?_;rintro e i ⟨rfl,rfl⟩;rw[←g.out];go_wp2;go_ret;exact⟨aH c.symm,rfl⟩
  have j:((b.toNat:Int)==58)=false:=by simp;omega
  by_cases e2:b.toNat=124
  ·have q3:((b.toNat:Int)==124)=true:=by simp;omega
   have c:Hid (o=p):=by show _=_;rw[h.out,decide_eq_true e2];simp
   clear e1 e2;cases p;all_goals
    go_enter func117,ntmps117;go_wp2_with fail
    refine(nK.iq _ _).mono ?_;rintro e i ⟨rfl,rfl⟩;rw[←g.out];go_wp2;go_ret;exact⟨aH c.symm,rfl⟩
  have q3:((b.toNat:Int)==124)=false:=by simp;omega
  have c:Hid (o=false):=by show _=_;rw[h.out,decide_eq_false e1,decide_eq_false e2];simp
  clear e1 e2;cases p;all_goals
   go_enter func117,ntmps117;go_wp2_with fail
   refine(nK.iq _ _).mono ?_;rintro e i ⟨rfl,rfl⟩;rw[←g.out];go_wp2;go_ret;exact⟨aH c.symm,rfl⟩
 have k:((s.size:Int)==2)=false:=by simp;omega
 have c:Hid (o=false):=by show _=_;rw[d];exact Qu _ (by rw[show s.data.toList.length=s.size from Array.length_toList];exact h2)
 clear h2 d;go_enter func117,ntmps117;go_wp2;go_ret;exact⟨aH c.symm,rfl⟩
theorem yJ (s:ByteArray) (w:World):Calls prog 86 #[.string s] w fun e w'=>e=.returned (.bool (wG s.data.toList))∧w=w':=by
 obtain⟨o,c⟩:∃o,o=wG s.data.toList:=⟨_,rfl⟩;rw[←c];obtain⟨d,a⟩:∃d,d=mO s.data.toList:=⟨_,rfl⟩;have h:=hid a;cases d with
 |false=>
  have f:Hid (o=false):=by show _=_;rw[c];exact QX _ a.symm
  clear a c;go_enter func86,ntmps86;go_wp2_with fail
  refine(jM _ _).mono ?_;rintro e i ⟨rfl,rfl⟩;rw[←h.out];go_wp2;go_ret;exact⟨aH f.symm,rfl⟩
 |true=>
  have j:s.size=2:=by
   have:=zy _ a.symm;rw[show s.data.toList.length=s.size from Array.length_toList]at this;exact this
  have m:1<s.size:=by omega
  obtain⟨b,l⟩:∃b,s[1]=b:=⟨_,rfl⟩;have f:Hid (o=decide (b.toNat=58)):=by
   show _=_;rw[c,←Zf];rw[Kq s j]at a⊢;rw[l]at a⊢;exact QY _ _ a.symm
  clear a c j;by_cases e1:b.toNat=58
  ·have k:((b.toNat:Int)==58)=true:=by simp;omega
   have g:Hid (o=true):=f.trans (decide_eq_true e1);clear e1;go_enter func86,ntmps86;go_wp2_with fail
   refine(jM _ _).mono ?_;rintro e i ⟨rfl,rfl⟩;rw[←h.out];go_wp2;go_ret;exact⟨aH g.symm,rfl⟩
  have k:((b.toNat:Int)==58)=false:=by simp;omega
  have g:Hid (o=false):=f.trans (decide_eq_false e1);clear e1;go_enter func86,ntmps86;go_wp2_with fail
  refine(jM _ _).mono ?_;rintro e i ⟨rfl,rfl⟩;rw[←h.out];go_wp2;go_ret;exact⟨aH g.symm,rfl⟩
theorem jU (s:ByteArray) (w:World):Calls prog 116 #[.string s] w fun e w'=>e=.returned (.bool (wG s.data.toList))∧w=w':=by
 obtain⟨o,c⟩:∃o,o=wG s.data.toList:=⟨_,rfl⟩;rw[←c];obtain⟨d,a⟩:∃d,d=mO s.data.toList:=⟨_,rfl⟩;have h:=hid a;cases d with
 |false=>
  have f:Hid (o=false):=by show _=_;rw[c];exact QX _ a.symm
  clear a c;go_enter func116,ntmps116;go_wp2_with fail
  refine(dK _ _).mono ?_;rintro e i ⟨rfl,rfl⟩;rw[←h.out];go_wp2;go_ret;exact⟨aH f.symm,rfl⟩
 |true=>
  have j:s.size=2:=by
   have:=zy _ a.symm;rw[show s.data.toList.length=s.size from Array.length_toList]at this;exact this
  have m:1<s.size:=by omega
  obtain⟨b,l⟩:∃b,s[1]=b:=⟨_,rfl⟩;have f:Hid (o=decide (b.toNat=58)):=by
   show _=_;rw[c,←Zf];rw[Kq s j]at a⊢;rw[l]at a⊢;exact QY _ _ a.symm
  clear a c j;by_cases e1:b.toNat=58
  ·have k:((b.toNat:Int)==58)=true:=by simp;omega
   have g:Hid (o=true):=f.trans (decide_eq_true e1);clear e1;go_enter func116,ntmps116;go_wp2_with fail
   refine(dK _ _).mono ?_;rintro e i ⟨rfl,rfl⟩;rw[←h.out];go_wp2;go_ret;exact⟨aH g.symm,rfl⟩
  have k:((b.toNat:Int)==58)=false:=by simp;omega
  have g:Hid (o=false):=f.trans (decide_eq_false e1);clear e1;go_enter func116,ntmps116;go_wp2_with fail
  refine(dK _ _).mono ?_;rintro e i ⟨rfl,rfl⟩;rw[←h.out];go_wp2;go_ret;exact⟨aH g.symm,rfl⟩
end sK
namespace KJ
open Go.RowKit Base aV fA iy mW
theorem jT (s:ByteArray) (w:World) (m:s.size≤1073741824):Calls prog 118 #[.string s] w fun e w'=>e=.returned (.bool (qh s.data.toList))∧Below w.heap.size w w':=by
 obtain⟨o,g⟩:∃o,o=qh s.data.toList:=⟨_,rfl⟩;rw[←g];obtain⟨V,a⟩:∃V,V=ah (lower s.data.toList):=⟨_,rfl⟩;obtain⟨f,l⟩:∃o,o=decide (lower s.data.toList=[46,46]):=⟨_,rfl⟩;obtain⟨d,k⟩:∃o,o=decide (lower s.data.toList=[46,37,50,101]):=⟨_,rfl⟩;obtain⟨o3,j⟩:∃o,o=decide (lower s.data.toList=[37,50,101,46]):=⟨_,rfl⟩;obtain⟨c,i⟩:∃o,o=decide (lower s.data.toList=[37,50,101,37,50,101]):=⟨_,rfl⟩;have x:(V.toList==[46,46])=f:=by rw[a,dU,l]
 have v:(V.toList==[46,37,50,101])=d:=by rw[a,dU,k]
 have q3:(V.toList==[37,50,101,46])=o3:=by rw[a,dU,j]
 have t:(V.toList==[37,50,101,37,50,101])=c:=by rw[a,dU,i]
 have n:Hid (o=(f||d||o3||c)):=by show _=_;rw[g,l,k,j,i];rfl
 have HV:=hid a;clear g a l k j i;cases f<;>cases d<;>cases o3<;>cases c;all_goals
  have q:=hid (show o=_ from n);go_enter func118,ntmps118;go_wp2_with fail
  refine(nK.jQ s _ m).mono ?_;rintro e r ⟨rfl,h⟩;rw[←HV.out];go_wp2;go_ret;exact⟨aH q.symm,h⟩
theorem ext_size (s:ByteArray) (a b:Nat):(s.extract a b).size≤s.size:=by
 rw[ByteArray.size_extract];omega
theorem l7 (s:ByteArray) (w:World) (J:s.size≤1073741824):Calls prog 182 #[.string s] w fun e w'=>e=.returned (.bool (qh s.data.toList))∧Below w.heap.size w w':=by
 have i:s.data.toList.length=s.size:=Array.length_toList;obtain⟨o,j⟩:∃o,o=qh s.data.toList:=⟨_,rfl⟩;rw[←j];obtain⟨P,a⟩:∃P,P=Lib.hasPrefix s.data.toList [46]:=⟨_,rfl⟩;have x:=hid a;cases P with
 | true=>
  obtain⟨t,r⟩:∃t,s.data.toList=46::t:=by
   unfold Lib.hasPrefix at a
   match h:s.data.toList,a with
   |c::t,a=>
    simp at a;exact⟨t,by rw[a]⟩
  have L:1≤s.size:=by rw[←i,r];simp
  obtain⟨X,f⟩:∃X,X=s.extract 1 s.size:=⟨_,rfl⟩;have hx:s.extract 1 s.size=X:=f.symm;have l:X.data.toList=t:=by rw[f,dJ.ext_drop s 1 s.size rfl,r];rfl
  have k:X.size≤maxLen:=by rw[f];have:=ext_size s 1 s.size;unfold maxLen;omega
  have y:Hid (o=qW X.data.toList):=by show _=_;rw[j,r,Y4,l]
  have g:=hid k;clear a r f l j i k;go_enter func182,ntmps182;go_wp2_with fail
  refine(strings_HasPrefix s ⟨#[46]⟩ _).mono ?_;rintro e z ⟨rfl,rfl⟩;rw[←x.out];go_wp2_with fail
  refine(jI X _ g).mono ?_;rintro e G ⟨rfl,d⟩;rw[←y.out];go_wp2;go_ret;exact⟨rfl,d⟩
 | false=>
  by_cases h4:3<s.size
  ·obtain ⟨X,f⟩:∃X,X=s.extract 0 3:=⟨_,rfl⟩;obtain⟨Y,v⟩:∃Y,Y=s.extract 3 s.size:=⟨_,rfl⟩;have hx:s.extract 0 3=X:=f.symm;have I:s.extract 3 s.size=Y:=v.symm;have g:Hid (X.size≤maxLen):=by show _≤_;rw[f];have:=ext_size s 0 3;unfold maxLen;omega
   have E:Hid (Y.size≤maxLen):=by show _≤_;rw[v];have:=ext_size s 3 s.size;unfold maxLen;omega
   obtain⟨p,A⟩:∃p,p=qW X.data.toList:=⟨_,rfl⟩;obtain⟨q,hq⟩:∃q,q=qW Y.data.toList:=⟨_,rfl⟩;have y:Hid (o=(p&&q)):=by
    show _=_;rw[j,A,hq,f,v,dJ.ext_take,dJ.ext_drop s 3 s.size rfl];show qh s.data.toList=(qW (s.data.toList.take 3)&&qW (s.data.toList.drop 3))
    match h:s.data.toList,a with
    |[],_=>rw[h]at i;simp at i;omega
    |c::t,a=>
     have B:c≠46:=by
      rintro rfl;simp[Lib.hasPrefix]at a
     rw[Hy c t B,decide_eq_true (by rw[←h,i];exact h4),Bool.true_and]
   have m:=hid A;have F:=hid hq;have D:(3:Int)<(s.size:Int):=by omega
   clear a f v j i A hq;cases p with
   |true=>
    go_enter func182,ntmps182;go_wp2_with fail
    refine(strings_HasPrefix s ⟨#[46]⟩ _).mono ?_;rintro e z ⟨rfl,rfl⟩;rw[←x.out];go_wp2_with fail
    refine(jI X _ g).mono ?_;rintro e G ⟨rfl,d⟩;rw[←m.out];go_wp2_with fail
    refine(jI Y _ E).mono ?_;rintro e H ⟨rfl,C⟩;rw[←F.out];have n:Hid (o=q):=by show _=_;rw[y.out,Bool.true_and]
    go_wp2;go_ret;exact⟨aH n.symm,bD d C⟩
   |false=>
    have n:Hid (o=false):=by show _=_;rw[y.out,Bool.false_and]
    go_enter func182,ntmps182;go_wp2_with fail
    refine(strings_HasPrefix s ⟨#[46]⟩ _).mono ?_;rintro e z ⟨rfl,rfl⟩;rw[←x.out];go_wp2_with fail
    refine(jI X _ g).mono ?_;rintro e G ⟨rfl,d⟩;rw[←m.out];go_wp2;go_ret;exact⟨aH n.symm,d⟩
  have n:Hid (o=false):=by
   show _=_;rw[j]
   match h:s.data.toList,a with
   |[],_=>rfl
   |c::t,a=>
    have B:c≠46:=by
     rintro rfl;simp[Lib.hasPrefix]at a
    rw[Hy c t B,decide_eq_false (by rw[←h,i];exact h4),Bool.false_and]
  have D:¬(3:Int)<(s.size:Int):=by omega
  clear a j i;go_enter func182,ntmps182;go_wp2_with fail
  refine(strings_HasPrefix s ⟨#[46]⟩ _).mono ?_;rintro e z ⟨rfl,rfl⟩;rw[←x.out];go_wp2;go_ret;exact⟨aH n.symm,Below.refl _ _⟩
end KJ
namespace KL
open Go.RowKit Base iy sK
def inq (c:UInt8):Bool:=decide (c=47)||decide (c=92)||decide (c=63)||decide (c=35)
theorem Zr (c:UInt8):inq c=decide (c.toNat=47∨c.toNat=92∨c.toNat=63∨c.toNat=35):=by
 have H:∀n:Fin 256,inq (UInt8.ofNat n.val)=decide ((UInt8.ofNat n.val).toNat=47∨(UInt8.ofNat n.val).toNat=92∨(UInt8.ofNat n.val).toNat=63∨(UInt8.ofNat n.val).toNat=35):=by decide+kernel
 have:=H ⟨c.toNat,c.toNat_lt⟩;simpa using this
theorem Ti (c:UInt8):0≤Lib.indexByte [47,92,63,35] (c.toNat:Int).toNat.toUInt8↔inq c=true:=by
 have H:∀n:Fin 256,0≤Lib.indexByte [47,92,63,35] ((n.val:Nat):Int).toNat.toUInt8↔inq (UInt8.ofNat n.val)=true:=by decide+kernel
 have:=H ⟨c.toNat,c.toNat_lt⟩;simpa using this
theorem Hq (L:List UInt8) (h:L.length<2):pR L=false:=by
 match L,h with
 |[],_=>rfl
 |[_],_=>rfl
theorem Qd (L:List UInt8) (h:L.length=2):pR L=mO (L.take 2):=by
 match L,h with
 |[_,_],_=>rfl
theorem La (s:ByteArray) (h:2<s.size):pR s.data.toList=(mO (s.data.toList.take 2)&&inq (s[2])):=by
 have d:s.data.toList.length=s.size:=Array.length_toList;have e:s.data.toList[2]'(by rw[d];exact h)=s[2]:=rfl;rw[←e];generalize s.data.toList=L at d
 match L,d with
 |[],d=>simp at d;omega
 |[_],d=>simp at d;omega
 |[_,_],d=>simp at d;omega
 |a::b::c::t,_=>rfl
theorem Et (s:ByteArray) (w:World) (F:s.size≤1073741824):Calls prog 87 #[.string s] w fun e w'=>e=.returned (.bool (pR s.data.toList))∧w=w':=by
 have k:s.data.toList.length=s.size:=Array.length_toList;obtain⟨o,g⟩:∃o,o=pR s.data.toList:=⟨_,rfl⟩;rw[←g];by_cases h2:s.size<2
 ·have j:Hid (o=false):=by show _=_;rw[g];exact Hq _ (by rw[k];exact h2)
  have A:(s.size:Int)<2:=by omega
  clear g k h2;go_enter func87,ntmps87;go_wp2;go_ret;exact⟨aH j.symm,rfl⟩
 have A:¬(s.size:Int)<2:=by omega
 have E:2≤s.size:=by omega
 obtain⟨X,m⟩:∃X,X=s.extract 0 2:=⟨_,rfl⟩;have hx:s.extract 0 2=X:=m.symm;have f:X.data.toList=s.data.toList.take 2:=by rw[m,dJ.ext_take];rfl
 obtain⟨d,l⟩:∃d,d=mO X.data.toList:=⟨_,rfl⟩;have q:=hid l;by_cases h22:s.size=2
 ·have j:Hid (o=d):=by show _=_;rw[g,l,f];exact Qd _ (by rw[k];exact h22)
  have q3:((s.size:Int)==2)=true:=by simp;omega
  clear g k h2 m f l h22;cases d;all_goals
   go_enter func87,ntmps87;go_wp2_with fail
   refine(jM _ _).mono ?_;rintro e r ⟨rfl,rfl⟩;rw[←q.out];go_wp2;go_ret;exact⟨aH j.symm,rfl⟩
 have q3:((s.size:Int)==2)=false:=by simp;omega
 have C:2<s.size:=by omega
 obtain⟨c,B⟩:∃c,s[2]=c:=⟨_,rfl⟩;obtain⟨i,hi⟩:∃i,i=inq c:=⟨_,rfl⟩;have j:Hid (o=(d&&i)):=by show _=_;rw[g,l,f,hi,←B];exact La s C
 clear g k h2 m f l h22;cases d with
 |false=>
  have n:Hid (o=false):=by show _=_;rw[j.out,Bool.false_and]
  clear hi;go_enter func87,ntmps87;go_wp2_with fail
  refine(jM _ _).mono ?_;rintro e r ⟨rfl,rfl⟩;rw[←q.out];go_wp2;go_ret;exact⟨aH n.symm,rfl⟩
 | true=>
  have n:Hid (o=i):=by show _=_;rw[j.out,Bool.true_and]
  obtain⟨z,t⟩:∃z,z=Lib.indexByte [47,92,63,35] (c.toNat:Int).toNat.toUInt8:=⟨_,rfl⟩;have a:(0≤z)↔i=true:=by rw[t,hi];exact Ti c
  have v:=hid t;clear hi t;cases i with
  |true=>
   have y:=a.2 rfl;clear a;go_enter func87,ntmps87;go_wp2_with fail
   refine(jM _ _).mono ?_;rintro e r ⟨rfl,rfl⟩;rw[←q.out];go_wp2_with fail
   refine(strings_IndexByte ⟨#[47,92,63,35]⟩ _ _).mono ?_;rintro e x ⟨rfl,rfl⟩;rw[show(⟨#[47,92,63,35]⟩:ByteArray).data.toList=[47,92,63,35]from rfl,←v.out];go_wp2;go_ret;exact⟨aH n.symm,rfl⟩
  |false=>
   have y:z<0:=by
    rcases Int.lt_or_le z 0 with h|h
    ·exact h
    exact absurd (a.1 h) (by decide)
   have D:¬0≤z:=by omega
   clear a;go_enter func87,ntmps87;go_wp2_with fail
   refine(jM _ _).mono ?_;rintro e r ⟨rfl,rfl⟩;rw[←q.out];go_wp2_with fail
   refine(strings_IndexByte ⟨#[47,92,63,35]⟩ _ _).mono ?_;rintro e x ⟨rfl,rfl⟩;rw[show(⟨#[47,92,63,35]⟩:ByteArray).data.toList=[47,92,63,35]from rfl,←v.out];go_wp2;go_ret;exact⟨aH ((decide_eq_false (by omega)).trans n.symm),rfl⟩
theorem lK (s:ByteArray) (w:World) (F:s.size≤1073741824):Calls prog 115 #[.string s] w fun e w'=>e=.returned (.bool (pR s.data.toList))∧w=w':=by
 have r:s.data.toList.length=s.size:=Array.length_toList;obtain⟨o,j⟩:∃o,o=pR s.data.toList:=⟨_,rfl⟩;rw[←j];by_cases h2:s.size<2
 ·have q:Hid (o=false):=by show _=_;rw[j];exact Hq _ (by rw[r];exact h2)
  have A:(s.size:Int)<2:=by omega
  clear j r h2;go_enter func115,ntmps115;go_wp2;go_ret;exact⟨aH q.symm,rfl⟩
 have A:¬(s.size:Int)<2:=by omega
 have E:2≤s.size:=by omega
 obtain⟨X,x⟩:∃X,X=s.extract 0 2:=⟨_,rfl⟩;have hx:s.extract 0 2=X:=x.symm;have f:X.data.toList=s.data.toList.take 2:=by rw[x,dJ.ext_take];rfl
 obtain⟨d,t⟩:∃d,d=mO X.data.toList:=⟨_,rfl⟩;have m:=hid t;by_cases h22:s.size=2
 ·have q:Hid (o=d):=by show _=_;rw[j,t,f];exact Qd _ (by rw[r];exact h22)
  have q3:((s.size:Int)==2)=true:=by simp;omega
  clear j r h2 x f t h22;cases d;all_goals
   go_enter func115,ntmps115;go_wp2_with fail
   refine(dK _ _).mono ?_;rintro e n ⟨rfl,rfl⟩;rw[←m.out];go_wp2;go_ret;exact⟨aH q.symm,rfl⟩
 have q3:((s.size:Int)==2)=false:=by simp;omega
 have D:2<s.size:=by omega
 obtain⟨c,C⟩:∃c,s[2]=c:=⟨_,rfl⟩;obtain⟨i,hi⟩:∃i,i=inq c:=⟨_,rfl⟩;have q:Hid (o=(d&&i)):=by show _=_;rw[j,t,f,hi,←C];exact La s D
 clear j r h2 x f t h22;cases d with
 |false=>
  have l:Hid (o=false):=by show _=_;rw[q.out,Bool.false_and]
  clear hi;go_enter func115,ntmps115;go_wp2_with fail
  refine(dK _ _).mono ?_;rintro e n ⟨rfl,rfl⟩;rw[←m.out];go_wp2;go_ret;exact⟨aH l.symm,rfl⟩
 |true=>
  have l:Hid (o=i):=by show _=_;rw[q.out,Bool.true_and]
  have k:c.toNat=47∨c.toNat=92∨c.toNat=63∨c.toNat=35∨(c.toNat≠47∧c.toNat≠92∧c.toNat≠63∧c.toNat≠35):=by omega
  have a:=Zr c;rw[←hi]at a;clear hi;rcases k with h|h|h|h|⟨n1,n2,n3,n4⟩
  ·have v:((c.toNat:Int)==47)=true:=by simp;omega
   have g:Hid (o=true):=by show _=_;rw[l.out,a];simp;omega
   clear a h;go_enter func115,ntmps115;go_wp2_with fail
   refine(dK _ _).mono ?_;rintro e n ⟨rfl,rfl⟩;rw[←m.out];go_wp2;go_ret;exact⟨aH g.symm,rfl⟩
  ·have v:((c.toNat:Int)==47)=false:=by simp;omega
   have y:((c.toNat:Int)==92)=true:=by simp;omega
   have g:Hid (o=true):=by show _=_;rw[l.out,a];simp;omega
   clear a h;go_enter func115,ntmps115;go_wp2_with fail
   refine(dK _ _).mono ?_;rintro e n ⟨rfl,rfl⟩;rw[←m.out];go_wp2;go_ret;exact⟨aH g.symm,rfl⟩
  ·have v:((c.toNat:Int)==47)=false:=by simp;omega
   have y:((c.toNat:Int)==92)=false:=by simp;omega
   have z:((c.toNat:Int)==63)=true:=by simp;omega
   have g:Hid (o=true):=by show _=_;rw[l.out,a];simp;omega
   clear a h;go_enter func115,ntmps115;go_wp2_with fail
   refine(dK _ _).mono ?_;rintro e n ⟨rfl,rfl⟩;rw[←m.out];go_wp2;go_ret;exact⟨aH g.symm,rfl⟩
  ·have v:((c.toNat:Int)==47)=false:=by simp;omega
   have y:((c.toNat:Int)==92)=false:=by simp;omega
   have z:((c.toNat:Int)==63)=false:=by simp;omega
   have B:((c.toNat:Int)==35)=true:=by simp;omega
   have g:Hid (o=true):=by show _=_;rw[l.out,a];simp;omega
   clear a h;go_enter func115,ntmps115;go_wp2_with fail
   refine(dK _ _).mono ?_;rintro e n ⟨rfl,rfl⟩;rw[←m.out];go_wp2;go_ret;exact⟨aH g.symm,rfl⟩
  have v:((c.toNat:Int)==47)=false:=by simp;omega
  have y:((c.toNat:Int)==92)=false:=by simp;omega
  have z:((c.toNat:Int)==63)=false:=by simp;omega
  have B:((c.toNat:Int)==35)=false:=by simp;omega
  have g:Hid (o=false):=by show _=_;rw[l.out,a];simp;omega
  clear a n1 n2 n3 n4;go_enter func115,ntmps115;go_wp2_with fail
  refine(dK _ _).mono ?_;rintro e n ⟨rfl,rfl⟩;rw[←m.out];go_wp2;go_ret;exact⟨aH g.symm,rfl⟩
end KL
namespace mJ
open Go.RowKit Base iy sK
def keep (file:Bool):List ByteArray→Bool
 |[]=>true
 |[x]=>file&&wG x.data.toList
 |_=>false
def jd (file:Bool) (l:List ByteArray):List ByteArray:=if keep file l then l else l.take (l.length - 1)
theorem nU (file:Bool) (l:List ByteArray):(jd file l).length=if keep file l then l.length else l.length - 1:=by
 unfold jd;split
 ·rfl
 rw[List.length_take];omega
theorem sD (file:Bool) (A:Option Addr) (n f:Nat) (l:List ByteArray) (w:World) (h:dW w A n (l.map Value.string)) (v:n≤f) (j:f≤maxLen):
  Calls prog 133 #[.bool file,.slice A n f] w fun e w'=>e=.returned (.slice A (if keep file l then n else n - 1) f)∧w=w':=by
 unfold maxLen at j;have c:l.length=n:=by rw[←h.1,List.length_map]
 obtain⟨m,d⟩:∃m,m=if keep file l then n else n - 1:=⟨_,rfl⟩
 rw[←d]
 match l,c with
 |[],c=>
  obtain rfl:n=0:=by simpa using c.symm
  obtain rfl:m=0:=by rw[d];rfl
  clear d c h;go_enter func133,ntmps133;go_wp2;go_ret;exact⟨rfl,rfl⟩
 | [x],c=>
  obtain rfl:n=1:=by simpa using c.symm
  obtain⟨g,off,rfl,z,a⟩:=h.spot (by omega);have k:=a 0 (by simp);rw[Nat.add_zero]at k;replace k:w.cell? ⟨g,off,none⟩=some (.string x):=k;cases file with
  |false=>
   obtain rfl:m=0:=by rw[d];rfl
   clear d c h a;go_enter func133,ntmps133;go_wp2;go_ret;exact⟨rfl,rfl⟩
  |true=>
   obtain⟨b,q⟩:∃b,b=wG x.data.toList:=⟨_,rfl⟩;have i:Hid (m=if b then 1 else 0):=by
    show _=_;rw[d,q];simp[keep]
   have s:=hid q;clear d c h a q;cases b with
   |true=>
    obtain rfl:m=1:=i.out;go_enter func133,ntmps133;go_wp2_with fail
    refine(yJ x _).mono ?_;rintro e t ⟨rfl,rfl⟩;rw[←s.out];go_wp2;go_ret;exact⟨rfl,rfl⟩
   |false=>
    obtain rfl:m=0:=i.out;go_enter func133,ntmps133;go_wp2_with fail
    refine(yJ x _).mono ?_;rintro e t ⟨rfl,rfl⟩;rw[←s.out];go_wp2;go_ret;exact⟨rfl,rfl⟩
 |x::y::r,c=>
  have D:2≤n:=by rw[←c];simp
  have i:Hid (m=n - 1):=by show _=_;rw[d];rfl
  have C:((n:Int)==0)=false:=by simp;omega
  have B:((n:Int)==1)=false:=by simp;omega
  obtain⟨g,off,rfl,z,a⟩:=h.spot (by omega);have q3:((n:Int) - 1).toNat=m:=by have:=i.out;omega
  clear d c h a;cases file;all_goals
   go_enter func133,ntmps133;go_wp2;go_ret;exact⟨by first|rfl|simp[q3],rfl⟩
end mJ
namespace Je
open Go.RowKit Base aV iy sK
def wr (first:Bool) (L:List UInt8):List UInt8:=if first&&mO L then L.take 1++[58]else aP.enc 4 L
theorem xg (first:Bool) (s:ByteArray) (w:World) (l:s.size≤1073741824):
  Calls prog 184 #[.bool first,.string s] w fun e w'=>e=.returned (.string (ah (wr first s.data.toList)))∧Below w.heap.size w w':=by
 obtain⟨d,a⟩:∃d,d=mO s.data.toList:=⟨_,rfl⟩;obtain⟨R,g⟩:∃R,R=wr first s.data.toList:=⟨_,rfl⟩;rw[←g];have m:=hid a;cases first with
 | true=>
  cases d with
  |true=>
   have r:s.size=2:=by
    have:=zy _ a.symm;rw[show s.data.toList.length=s.size from Array.length_toList]at this;exact this
   obtain⟨X,k⟩:∃X,X=s.extract 0 1:=⟨_,rfl⟩;have hx:s.extract 0 1=X:=k.symm;have i:X=ah (s.data.toList.take 1):=by rw[k,dJ.ext_take]
   have j:R=s.data.toList.take 1++[58]:=by rw[g];unfold wr;rw[←a];rfl
   have x:∀w:World,(Op.stringOp .add X ⟨#[58]⟩).run prog w=.ok (.string (ah R)) w:=fun w=>by
    rw[i,j];exact iO _ ⟨#[58]⟩ w (by rw[ak,List.length_take];show _+1≤_;omega)
   have v:(1:Int)≤(s.size:Int):=by omega
   have t:1≤s.size:=by omega
   clear a g k i j r;go_enter func184,ntmps184;go_wp2_with fail
   refine(jM s _).mono ?_;rintro e q ⟨rfl,rfl⟩;rw[←m.out];go_wp2;go_ret;exact⟨rfl,Below.refl _ _⟩
  |false=>
   have h:Hid (R=aP.enc 4 s.data.toList):=by show _=_;rw[g];unfold wr;rw[←a];rfl
   have c:=fun(w:World) s=>run_bytes_of_string (P:=prog) w 9 55 5 s underlying9 underlying55 underlying5;clear a g;go_enter func184,ntmps184;go_wp2_with fail
   refine(jM s _).mono ?_;rintro e q ⟨rfl,rfl⟩;rw[←m.out];go_wp2_with fail
   clear c;refine(aP.iK 4 _ _ _ s.data.toList _ (kM s _ w _) l).mono ?_;rintro e n ⟨rfl,f⟩;rw[←h.out];go_wp2;go_ret;exact⟨rfl,bD (((Below.refl w.heap.size w).alloc (Nat.le_refl _) _).drew) f⟩
 |false=>
  have h:Hid (R=aP.enc 4 s.data.toList):=by show _=_;rw[g];rfl
  have c:=fun(w:World) s=>run_bytes_of_string (P:=prog) w 9 55 5 s underlying9 underlying55 underlying5;clear a g;go_enter func184,ntmps184;go_wp2_with fail
  clear c;refine(aP.iK 4 _ _ _ s.data.toList _ (kM s _ w _) l).mono ?_;rintro e n ⟨rfl,f⟩;rw[←h.out];go_wp2;go_ret;exact⟨rfl,bD (((Below.refl w.heap.size w).alloc (Nat.le_refl _) _).drew) f⟩
end Je
namespace jr
open Go.RowKit Base aV iy mW KJ mJ Je
theorem iW:(prog.info? 9).map (fun i=>(i.zero,i.size,i.bytes))=some (some (.string ByteArray.empty),1,16):=by kernel_rfl
theorem TN {w:World} {B:Nat} {e:TypeId} {A:Option Addr} {n a:Nat} {i:List Value} (h:w.ownsRow B e 1 (.slice A n a) n i) (m:Nat) (q:m≤n):w.ownsRow B e 1 (.slice A m a) m (i.take m):=by
 obtain⟨r,h⟩:=h;rw[Nat.mul_one]at r;refine⟨by rw[List.length_take];omega,?_⟩;rcases h with⟨c,v⟩|⟨g,k,f,c,s,hh,t,d,l,j⟩
 ·injection c with h1 h2 h3
  obtain rfl:m=0:=by omega
  exact .inl ⟨by rw[h1,h3],rfl⟩
 injection c with h1 h2 h3
 subst h3;refine .inr ⟨g,a,f,by rw[h1],s,hh,by omega,d,l,?_⟩;rw[Nat.mul_one]at j⊢;rw[←j,List.take_take,Nat.min_eq_left q]
def sH (file last:Bool) (l:List ByteArray) (L:List UInt8):List ByteArray:=
 if qh L then(if last then jd file l++[ah []]else jd file l)else if qW L then(if last then l++[ah []]else l)else l++[ah (wr (file&&l.isEmpty) L)]
def ku (B:Nat) (w:World) (l:List ByteArray) (e:Ending) (w':World):Prop:=∃v,e=.returned v∧w'.ownsRow B 9 1 v l.length (l.map Value.string)∧Below B w w'
theorem NC (file z:Bool) (B:Nat) (v:Value) (l:List ByteArray) (s:ByteArray) (w:World) (q:w.ownsRow B 9 1 v l.length (l.map Value.string)) (H:B≤w.heap.size) (hl:l.length≤1000000) (T:s.size≤1073741824):
  Calls prog 158 #[.bool file,.bool z,v,.string s] w (ku B w (sH file z l s.data.toList)):=by
 obtain⟨i0,hi,L,J,I⟩:=info_parts iW;obtain⟨A,a0,rfl,a1,a6,hR⟩:=aW q;obtain⟨n,F⟩:∃n,n=l.length:=⟨_,rfl⟩;rw[←F]at q hl a1 hR⊢;obtain⟨S,O⟩:∃S,S=sH file z l s.data.toList:=⟨_,rfl⟩;rw[←O];have HN:=hid F;obtain⟨d,N⟩:∃d,d=qh s.data.toList:=⟨_,rfl⟩;have HD:=hid N;cases d with
 |true=>
  obtain⟨m,hm⟩:∃m,m=if keep file l then n else n - 1:=⟨_,rfl⟩
  have a8:m≤n:=by rw[hm];split<;>omega
  have E:jd file l=l.take m:=by
   unfold jd;rw[hm];split
   ·rw[List.take_of_length_le (by omega)]
   ·rw[F]
  have a2:(l.take m).length=m:=by rw[List.length_take];omega
  have x:=TN q m a8;rw[←List.map_take]at x;have Q:=hid x;have HR:=hid hR;have HM:=hid hm;have a7:=hid a2;cases z with
  |false=>
   have t:Hid (S=l.take m):=by show _=_;rw[O];unfold sH;rw[←N,if_pos rfl,if_neg (by decide),E]
   clear q x hR hm E O N F a2;go_enter func158,ntmps158;go_wp2_with fail
   refine(l7 s _ T).mono ?_;rintro e X ⟨rfl,h⟩;rw[←HD.out];go_wp2_with fail
   refine(sD file A n a0 l _ (HR.below h) a1 a6).mono ?_;rintro e W ⟨rfl,rfl⟩;rw[←HM.out];have G:Hid (ku B w S (.returned (.slice A m a0)) X):=⟨_,rfl,by rw[t.out,a7.out];exact aY Q h,h.mono H⟩;go_wp2;go_ret;exact G
  |true=>
   have t:Hid (S=l.take m++[ah []]):=by show _=_;rw[O];unfold sH;rw[←N,if_pos rfl,if_pos rfl,E]
   clear q x hR hm E O N F a2;go_enter func158,ntmps158;go_wp2_with fail
   refine(l7 s _ T).mono ?_;rintro e X ⟨rfl,h⟩;rw[←HD.out];go_wp2_with fail
   refine(sD file A n a0 l _ (HR.below h) a1 a6).mono ?_;rintro e W ⟨rfl,rfl⟩;rw[←HM.out];have c:=aY Q h;have i:Below B w X:=h.mono H;have y:B≤X.heap.size:=Nat.le_trans H h.size;go_wp2_with (at_builtin;refine bJ rfl _ _ 23 rfl B 9 i0 (.string ByteArray.empty) 16 underlying23 hi L J I rfl _ m _ rfl c i y [.string (ah [])] 1 rfl rfl (by intro u D;simp at D;subst D;rfl) (by unfold maxLen;omega) (by omega) ?_)
   intro Y V a j;have G:Hid (ku B w S (.returned Y) V):=⟨_,rfl,by rw[t.out,List.length_append,List.map_append,a7.out,List.map_take];exact a,j⟩;clear c a i;go_wp2;go_ret;exact G
 | false=>
  obtain⟨g,hg⟩:∃g,g=qW s.data.toList:=⟨_,rfl⟩;have HG:=hid hg;have Z:s.size≤maxLen:=by unfold maxLen;omega
  have P:=hid Z;have C:=hid q;cases g with
  |true=>
   cases z with
   |false=>
    have t:Hid (S=l):=by show _=_;rw[O];unfold sH;rw[←N,if_neg (by decide),←hg,if_pos rfl,if_neg (by decide)]
    clear q hR O N hg F Z;go_enter func158,ntmps158;go_wp2_with fail
    refine(l7 s _ T).mono ?_;rintro e X ⟨rfl,h⟩;rw[←HD.out];go_wp2_with fail
    refine(jI s _ P).mono ?_;rintro e W ⟨rfl,k⟩;rw[←HG.out];have G:Hid (ku B w S (.returned (.slice A n a0)) W):=⟨_,rfl,by rw[t.out,←HN.out];exact aY (aY C h) k,(bD h k).mono H⟩;go_wp2;go_ret;exact G
   |true=>
    have t:Hid (S=l++[ah []]):=by show _=_;rw[O];unfold sH;rw[←N,if_neg (by decide),←hg,if_pos rfl,if_pos rfl]
    clear q hR O N hg F Z;go_enter func158,ntmps158;go_wp2_with fail
    refine(l7 s _ T).mono ?_;rintro e X ⟨rfl,h⟩;rw[←HD.out];go_wp2_with fail
    refine(jI s _ P).mono ?_;rintro e W ⟨rfl,k⟩;rw[←HG.out];have c:=aY (aY C h) k;have i:Below B w W:=(bD h k).mono H;have y:B≤W.heap.size:=Nat.le_trans H (Nat.le_trans h.size k.size);go_wp2_with (at_builtin;refine bJ rfl _ _ 23 rfl B 9 i0 (.string ByteArray.empty) 16 underlying23 hi L J I rfl _ n _ rfl c i y [.string (ah [])] 1 rfl rfl (by intro u D;simp at D;subst D;rfl) (by unfold maxLen;omega) (by omega) ?_)
    intro Y V a j;have G:Hid (ku B w S (.returned Y) V):=⟨_,rfl,by rw[t.out,List.length_append,List.map_append,←HN.out];exact a,j⟩;clear c a i;go_wp2;go_ret;exact G
  | false=>
   obtain⟨f,hf⟩:∃f,f=(file&&l.isEmpty):=⟨_,rfl⟩;obtain⟨R,a4⟩:∃R,R=ah (wr f s.data.toList):=⟨_,rfl⟩;have t:Hid (S=l++[R]):=by show _=_;rw[O];unfold sH;rw[←N,if_neg (by decide),←hg,if_neg (by decide),←hf,a4]
   have a5:=hid a4;have a3:(file=false∧f=false)∨(file=true∧n=0∧f=true)∨(file=true∧n≠0∧f=false):=by
    cases file with
    |false=>exact .inl ⟨rfl,by rw[hf];rfl⟩
    |true=>
     match l,F with
     |[],F=>exact .inr (.inl ⟨rfl,by simpa using F,by rw[hf];rfl⟩)
     |_::_,F=>exact .inr (.inr ⟨rfl,by simp at F;omega,by rw[hf];rfl⟩)
   clear q hR O N hg F Z hf a4;rcases a3 with⟨rfl,rfl⟩|⟨rfl,h0,rfl⟩|⟨rfl,h0,rfl⟩
   ·go_enter func158,ntmps158;go_wp2_with fail
    refine(l7 s _ T).mono ?_;rintro e X ⟨rfl,h⟩;rw[←HD.out];go_wp2_with fail
    refine(jI s _ P).mono ?_;rintro e W ⟨rfl,k⟩;rw[←HG.out];go_wp2_with fail
    refine(xg _ s _ T).mono ?_;rintro e w5 ⟨rfl,r⟩;rw[←a5.out];have c:=aY (aY (aY C h) k) r;have i:Below B w w5:=(bD (bD h k) r).mono H;have y:B≤w5.heap.size:=Nat.le_trans H (Nat.le_trans h.size (Nat.le_trans k.size r.size));go_wp2_with (at_builtin;refine bJ rfl _ _ 23 rfl B 9 i0 (.string ByteArray.empty) 16 underlying23 hi L J I rfl _ n _ rfl c i y [.string R] 1 rfl rfl (by intro u D;simp at D;subst D;rfl) (by unfold maxLen;omega) (by omega) ?_)
    intro Y V a j;have G:Hid (ku B w S (.returned Y) V):=⟨_,rfl,by rw[t.out,List.length_append,List.map_append,←HN.out];exact a,j⟩;clear c a i;go_wp2;go_ret;exact G
   ·have q0:((n:Int)==0)=true:=by simp;omega
    clear h0;go_enter func158,ntmps158;go_wp2_with fail
    refine(l7 s _ T).mono ?_;rintro e X ⟨rfl,h⟩;rw[←HD.out];go_wp2_with fail
    refine(jI s _ P).mono ?_;rintro e W ⟨rfl,k⟩;rw[←HG.out];go_wp2_with fail
    refine(xg _ s _ T).mono ?_;rintro e w5 ⟨rfl,r⟩;rw[←a5.out];have c:=aY (aY (aY C h) k) r;have i:Below B w w5:=(bD (bD h k) r).mono H;have y:B≤w5.heap.size:=Nat.le_trans H (Nat.le_trans h.size (Nat.le_trans k.size r.size));go_wp2_with (at_builtin;refine bJ rfl _ _ 23 rfl B 9 i0 (.string ByteArray.empty) 16 underlying23 hi L J I rfl _ n _ rfl c i y [.string R] 1 rfl rfl (by intro u D;simp at D;subst D;rfl) (by unfold maxLen;omega) (by omega) ?_)
    intro Y V a j;have G:Hid (ku B w S (.returned Y) V):=⟨_,rfl,by rw[t.out,List.length_append,List.map_append,←HN.out];exact a,j⟩;clear c a i;go_wp2;go_ret;exact G
   ·have q0:((n:Int)==0)=false:=by simp;omega
    clear h0;go_enter func158,ntmps158;go_wp2_with fail
    refine(l7 s _ T).mono ?_;rintro e X ⟨rfl,h⟩;rw[←HD.out];go_wp2_with fail
    refine(jI s _ P).mono ?_;rintro e W ⟨rfl,k⟩;rw[←HG.out];go_wp2_with fail
    refine(xg _ s _ T).mono ?_;rintro e w5 ⟨rfl,r⟩;rw[←a5.out];have c:=aY (aY (aY C h) k) r;have i:Below B w w5:=(bD (bD h k) r).mono H;have y:B≤w5.heap.size:=Nat.le_trans H (Nat.le_trans h.size (Nat.le_trans k.size r.size));go_wp2_with (at_builtin;refine bJ rfl _ _ 23 rfl B 9 i0 (.string ByteArray.empty) 16 underlying23 hi L J I rfl _ n _ rfl c i y [.string R] 1 rfl rfl (by intro u D;simp at D;subst D;rfl) (by unfold maxLen;omega) (by omega) ?_)
    intro Y V a j;have G:Hid (ku B w S (.returned Y) V):=⟨_,rfl,by rw[t.out,List.length_append,List.map_append,←HN.out];exact a,j⟩;clear c a i;go_wp2;go_ret;exact G
end jr
namespace qU
open Go.RowKit Base fU mJ jr
theorem kQ (l:List ByteArray):∀u ∈ l.map Value.string,u.oneCell'=true:=by
 intro u a;simp only[List.mem_map]at a;obtain⟨s,_,rfl⟩:=a;rfl
theorem uo (A:Option Addr) (n g:Nat) (l:List ByteArray) (w:World) (h:dW w A n (l.map Value.string)) (C:n≤1000000):
  Calls prog 104 #[.slice A n g] w (ku w.heap.size w l):=by
 have j:l.length=n:=by rw[←h.1,List.length_map]
 have v:=hid h;clear h;obtain⟨z,hi,q,m,k⟩:=info_parts iW;have t:=fun(W:World)=>Lib.run_eql_slice_nil (P:=prog) W 23 9 A n g 0 0 underlying23;cases A with
 | none=>
  have i:n=0:=by
   rcases Nat.eq_zero_or_pos n with i|i
   ·exact i
   ·obtain⟨_,_,e,_⟩:=v.spot i;cases e
  subst i;obtain rfl:l=[]:=List.eq_nil_of_length_eq_zero j;have r:Hid (ku w.heap.size w [] (.returned (.slice none 0 0)) w):=⟨_,rfl,World.ownsRow_nil _ _ _ _,Below.refl _ _⟩;clear j;go_enter func104,ntmps104;go_wp2;go_ret;exact r
 |some ad=>
  have c:(w.alloc (.cells #[] 9)).ownsRow w.heap.size 9 1 (.slice (some ⟨w.heap.size,0,none⟩) 0 0) 0 []:=World.ownsRow_made w #[] 0 (Nat.le_refl _) (by decide) rfl;have a:Below w.heap.size w (w.alloc (.cells #[] 9)):=(Below.refl _ _).alloc (Nat.le_refl _) _;have s:Hid (dW (w.alloc (.cells #[] 9)) (some ad) n (l.map Value.string)):=v.below a;have B:=hid j;clear j;go_enter func104,ntmps104;go_wp2_with (at_builtin;refine gX rfl _ _ 23 rfl w.heap.size 9 z (.string ByteArray.empty) 16 underlying23 hi q m k rfl _ 0 [] rfl c a a.size (some ad) n g (l.map Value.string) rfl s (kQ _) (by unfold maxLen;omega) (by omega) ?_)
  intro y x d f;have r:Hid (ku w.heap.size w l (.returned y) x):=⟨_,rfl,by rw[B.out];simpa using d,f⟩;clear c a d;go_wp2;go_ret;exact r
theorem JM {w:World} {A:Option Addr} {n:Nat} {l:List ByteArray} (file:Bool) (a:dW w A n (l.map Value.string)):dW w A (if keep file l then n else n - 1) ((jd file l).map Value.string):=by
 have c:l.length=n:=by rw[←a.1,List.length_map]
 unfold jd;cases e:keep file l with
 |true=>simpa using a
 |false=>
  rcases Nat.eq_zero_or_pos n with h0|h0
  ·obtain rfl:l=[]:=List.eq_nil_of_length_eq_zero (by omega);cases e
  obtain⟨g,off,rfl,_⟩:=a.spot h0;have:=a.upto (n - 1) (by omega);rw[if_neg (by decide),if_neg (by decide),List.map_take,c];exact this
theorem wR (file:Bool) (A:Option Addr) (n a:Nat) (l:List ByteArray) (w:World) (j:dW w A n (l.map Value.string)) (f:n≤a) (h:a≤maxLen) (y:n≤1000000):
  Calls prog 89 #[.bool file,.slice A n a] w (ku w.heap.size w (jd file l)):=by
 have s:=hid (JM file j);have t:=hid j;obtain⟨m,d⟩:∃m,m=if keep file l then n else n - 1:=⟨_,rfl⟩
 have g:m≤1000000:=by rw[d];split<;>omega
 have k:=hid d;clear j d;go_enter func89,ntmps89;go_wp2_with fail
 refine(sD file A n a l _ t f h).mono ?_;rintro e x ⟨rfl,rfl⟩;rw[←k.out];go_wp2_with fail
 refine(uo A m a (jd file l) _ (by rw[k.out];exact s) g).mono ?_;rintro e q ⟨v,rfl,c,i⟩;have r:Hid (ku w.heap.size w (jd file l) (.returned v) q):=⟨v,rfl,c,i⟩;clear c;go_wp2;go_ret;exact r
end qU
namespace abT
open Go.RowKit Base fU iy sK mJ jr qU
def Read (w:World) (l:List ByteArray) (e:Ending) (w':World):Prop:=∃A n c,e=.returned (.slice A n c)∧n=l.length∧n≤c∧c≤maxLen∧dW w' A n (l.map Value.string)∧Below w.heap.size w w'
theorem JO {w w':World} {l:List ByteArray} {v:Value} {n:Nat} (h:w'.ownsRow w.heap.size 9 1 v n (l.map Value.string)) (d:Below w.heap.size w w'):Read w l (.returned v) w':=by
 obtain⟨A,c,rfl,f,e,a⟩:=aW h;exact⟨A,n,c,rfl,by rw[←a.1,List.length_map],f,e,a,d⟩
theorem FK (file:Bool) (A:Option Addr) (n j:Nat) (l:List ByteArray) (w:World) (v:dW w A n (l.map Value.string)) (P:n≤j) (L:j≤maxLen) (W:n≤1000000):
  Calls prog 113 #[.bool file,.slice A n j] w (Read w (jd file l)):=by
 obtain⟨O,hi,E,D,C⟩:=info_parts iW;have J:=L;unfold maxLen at L;have q:l.length=n:=by rw[←v.1,List.length_map]
 have k:=JM file v;obtain⟨m,s⟩:∃m,m=if keep file l then n else n - 1:=⟨_,rfl⟩
 rw[←s]at k;have B:=hid k;have F:m=(jd file l).length:=by rw[←k.1,List.length_map]
 have X:m≤j:=by rw[s];split<;>omega
 have G:Hid (keep file l=true→Read w (jd file l) (.returned (.slice A n j)) w):=by
  intro h;have e:m=n:=by rw[s,if_pos h]
  rw[e]at k F;exact⟨A,n,j,rfl,F,P,J,k,Below.refl _ _⟩
 have Y:m≤1000000:=by rw[s];split<;>omega
 generalize hS:jd file l=S at B G⊢;clear F hS
 match l,q with
 |[],q=>
  obtain rfl:n=0:=by simpa using q.symm
  have z:=hid (G.out rfl);clear s q v;go_enter func113,ntmps113;go_wp2;go_ret;exact z
 | [x],q=>
  obtain rfl:n=1:=by simpa using q.symm
  obtain⟨g,off,rfl,Z,f⟩:=v.spot (by omega);have Q:=f 0 (by simp);rw[Nat.add_zero]at Q;replace Q:w.cell? ⟨g,off,none⟩=some (.string x):=Q;cases file with
  |false=>
   obtain rfl:m=0:=by rw[s];rfl
   clear s q v f;have c:(w.alloc (.cells #[] 9)).ownsRow w.heap.size 9 1 (.slice (some ⟨w.heap.size,0,none⟩) 0 0) 0 []:=World.ownsRow_made w #[] 0 (Nat.le_refl _) (by decide) rfl;have a:Below w.heap.size w (w.alloc (.cells #[] 9)):=(Below.refl _ _).alloc (Nat.le_refl _) _;have t:Hid (dW (w.alloc (.cells #[] 9)) (some ⟨g,off,none⟩) 0 (S.map Value.string)):=B.below a;go_enter func113,ntmps113;go_wp2_with (at_builtin;refine gX rfl _ _ 23 rfl w.heap.size 9 O (.string ByteArray.empty) 16 underlying23 hi E D C rfl _ 0 [] rfl c a a.size (some ⟨g,off,none⟩) 0 j (S.map Value.string) rfl t (kQ _) (by unfold maxLen;omega) (by omega) ?_)
   intro I H d i;have z:Hid (Read w S (.returned I) H):=JO (by simpa using d) i;clear c a d;go_wp2;go_ret;exact z
  |true=>
   obtain⟨b,N⟩:∃b,b=wG x.data.toList:=⟨_,rfl⟩;have T:=hid N;cases b with
   |true=>
    have z:=hid (G.out (by show(true&&wG x.data.toList)=true;rw[←N];rfl));clear s q v f N;go_enter func113,ntmps113;go_wp2_with fail
    refine(jU x _).mono ?_;rintro e V ⟨rfl,rfl⟩;rw[←T.out];go_wp2;go_ret;exact z
   |false=>
    obtain rfl:m=0:=by rw[s];show(if (true&&wG x.data.toList)=true then 1 else 1 - 1)=0;rw[←N];rfl
    clear s q v f N;have c:(w.alloc (.cells #[] 9)).ownsRow w.heap.size 9 1 (.slice (some ⟨w.heap.size,0,none⟩) 0 0) 0 []:=World.ownsRow_made w #[] 0 (Nat.le_refl _) (by decide) rfl;have a:Below w.heap.size w (w.alloc (.cells #[] 9)):=(Below.refl _ _).alloc (Nat.le_refl _) _;have t:Hid (dW (w.alloc (.cells #[] 9)) (some ⟨g,off,none⟩) 0 (S.map Value.string)):=B.below a;go_enter func113,ntmps113;go_wp2_with fail
    refine(jU x _).mono ?_;rintro e V ⟨rfl,rfl⟩;rw[←T.out];go_wp2_with (at_builtin;refine gX rfl _ _ 23 rfl w.heap.size 9 O (.string ByteArray.empty) 16 underlying23 hi E D C rfl _ 0 [] rfl c a a.size (some ⟨g,off,none⟩) 0 j (S.map Value.string) rfl t (kQ _) (by unfold maxLen;omega) (by omega) ?_)
    intro I H d i;have z:Hid (Read w S (.returned I) H):=JO (by simpa using d) i;clear c a d;go_wp2;go_ret;exact z
 |x::y::r,q=>
  have h2:2≤n:=by rw[←q];simp
  have HM:Hid (m=n - 1):=by show _=_;rw[s];rfl
  have q1:((n:Int)==0)=false:=by simp;omega
  have q2:((n:Int)==1)=false:=by simp;omega
  obtain⟨g,off,rfl,Z,f⟩:=v.spot (by omega);have q3:((n:Int) - 1).toNat=m:=by have:=HM.out;omega
  clear s q v f;have c:(w.alloc (.cells #[] 9)).ownsRow w.heap.size 9 1 (.slice (some ⟨w.heap.size,0,none⟩) 0 0) 0 []:=World.ownsRow_made w #[] 0 (Nat.le_refl _) (by decide) rfl;have a:Below w.heap.size w (w.alloc (.cells #[] 9)):=(Below.refl _ _).alloc (Nat.le_refl _) _;have t:Hid (dW (w.alloc (.cells #[] 9)) (some ⟨g,off,none⟩) m (S.map Value.string)):=B.below a;cases file;all_goals
   go_enter func113,ntmps113;go_wp2_with (at_builtin;refine gX rfl _ _ 23 rfl w.heap.size 9 O (.string ByteArray.empty) 16 underlying23 hi E D C rfl _ 0 [] rfl c a a.size (some ⟨g,off,none⟩) m j (S.map Value.string) rfl t (kQ _) (by unfold maxLen;omega) (by omega) ?_)
   intro I H d i;have z:Hid (Read w S (.returned I) H):=JO (by simpa using d) i;clear c a d;go_wp2;go_ret;exact z
end abT
namespace ig
open Go.RowKit mJ jr
def bU (sp:Bool) (c:UInt8):Bool:=decide (c=47)||(sp&&decide (c=92))
def upto (sp:Bool):List UInt8→Nat
 |[]=>0
 |c::L=>if bU sp c=true then 0 else upto sp L+1
theorem Ku (sp:Bool):∀L:List UInt8,upto sp L≤L.length
 |[]=>Nat.le_refl _
 |c::L=>by
  have:=Ku sp L
  unfold upto
  split
  ·omega
  ·simp;omega
def Vm (sp:Bool):List UInt8:=if sp then[47,92]else[47]
theorem Qk (sp:Bool) (c:UInt8):(Vm sp).contains c=bU sp c:=by
 rw[Bool.eq_iff_iff];cases sp<;>simp[Vm,bU]
theorem Ij (sp:Bool):∀L:List UInt8,Lib.indexAny L (Vm sp)=if upto sp L<L.length then(upto sp L:Int)else -1
 |[]=>by simp[Lib.indexAny]
 | c :: L => by
  have d:=Ij sp L
  rw[Lib.indexAny,Qk,d,upto]
  cases h:bU sp c with
  |true=>simp
  |false=>
   simp only[Bool.false_eq_true,if_false]
   by_cases h2:upto sp L<L.length
   ·have e:((upto sp L:Int)== -1)=false:=by rw[beq_eq_false_iff_ne];omega
    have a:upto sp L+1<(c::L).length:=by simp;omega
    simp only[if_pos h2,e,a,Bool.false_eq_true,if_false,if_true]
    omega
   ·have a:¬upto sp L+1<(c::L).length:=by simp;omega
    simp only[if_neg h2,if_neg a]
    rfl
def wb (file sp:Bool):List ByteArray→List UInt8→List UInt8→List ByteArray
 |l,b,[]=>sH file true l b
 |l,b,c::M=>if bU sp c=true then wb file sp (sH file false l b) [] M else wb file sp l (b++[c]) M
theorem RH (file sp:Bool):∀(M:List UInt8) (l:List ByteArray) (b:List UInt8),¬upto sp M<M.length→wb file sp l b M=sH file true l (b++M)
 |[],l,b,_=>by rw[List.append_nil];rfl
 |c::M,l,b,h=>by
  unfold upto at h
  cases hs:bU sp c with
  |true=>rw[hs]at h;simp at h
  |false=>
   rw[hs,if_neg (by decide)]at h
   rw[wb,hs,if_neg (by decide),RH file sp M l (b++[c]) (by simp at h;omega),List.append_assoc]
   rfl
theorem RI (file sp:Bool):∀(M:List UInt8) (l:List ByteArray) (b:List UInt8),upto sp M<M.length→wb file sp l b M=wb file sp (sH file false l (b++M.take (upto sp M))) [] (M.drop (upto sp M+1))
 |[],l,b,h=>by simp[upto]at h
 |c::M,l,b,h=>by
  unfold upto at h
  cases hs:bU sp c with
  |true=>
   rw[wb,hs,if_pos rfl,upto,hs,if_pos rfl]
   simp
  |false=>
   rw[hs,if_neg (by decide)]at h
   rw[wb,hs,if_neg (by decide),RI file sp M l (b++[c]) (by simp at h;omega),List.append_assoc,upto,hs,if_neg (by decide)]
   rfl
theorem nV (file a:Bool) (l:List ByteArray) (L:List UInt8):(sH file a l L).length≤l.length+1:=by
 have h:(jd file l).length≤l.length:=by rw[nU];split<;>omega
 unfold sH
 repeat' split
 all_goals simp
 all_goals omega
end ig
namespace bZ
open Go.RowKit
def aF (l:List ByteArray):List UInt8:=l.flatMap fun s=>47::s.data.toList
def kG (b6:Bool) (s7:ByteArray) (l:List ByteArray):List UInt8:=if b6 then s7.data.toList else aF l
def fewN (s0 s1 s2 s3 s7 s11 s12:ByteArray) (l:List ByteArray):Nat:=s0.size+s1.size+s2.size+s3.size+s7.size+s11.size+s12.size+(l.map (·.size)).sum
theorem FH (l:List ByteArray) (s:ByteArray):aF (l++[s])=aF l++(47::s.data.toList):=by simp[aF]
theorem kE (l:List ByteArray):(aF l).length=l.length+(l.map (·.size)).sum:=by
 induction l with
 |nil=>rfl
 |cons a l ih=>
  have e:aF (a::l)=(47::a.data.toList)++aF l:=rfl;rw[e,List.length_append,ih];simp only[List.length_cons,List.map_cons,List.sum_cons];rw[show a.data.toList.length=a.size from Array.length_toList];omega
theorem fQ (l:List ByteArray) (k:Nat) (h:k<l.length):l.take (k+1)=l.take k++[l[k]]:=by
 rw[List.take_succ_eq_append_getElem h]
theorem Gf (l:List ByteArray) (k:Nat):((l.take k).map (·.size)).sum≤(l.map (·.size)).sum:=by
 have h:l.map (·.size)=(l.take k).map (·.size)++(l.drop k).map (·.size):=by rw[←List.map_append,List.take_append_drop]
 rw[h,List.sum_append];omega
theorem X9 (l:List ByteArray) (k:Nat) (h:k<l.length):((l.take (k+1)).map (·.size)).sum=((l.take k).map (·.size)).sum+l[k].size:=by
 rw[fQ l k h,List.map_append,List.sum_append];simp
theorem tl (s:ByteArray):s.toList=s.data.toList:=by
 obtain⟨d⟩:=s;rw[ByteArray.toList_mk]
end bZ
