/- Lemmas. -/
import Derived.Test.YtgockiomacchoaaGreatDoorPRBAG
import Derived.Deep.QuietTactic
import Derived.Lib.SliceRun
set_option linter.unusedSimpArgs false
set_option linter.unusedVariables false
set_option maxRecDepth 100000
set_option maxHeartbeats 64000000
namespace Go.Proofs.YtgockiomacchoaaGreatDoor
open Tryz
namespace aG
open Go.RowKit Base jX
def kU (n:Nat):UInt8:=if n<10 then UInt8.ofNat (48+n)else UInt8.ofNat (55+n)
def one (k:Int) (c:UInt8):List UInt8:=if iJ k c.toNat=true then[37,kU (c.toNat / 16),kU (c.toNat%16)]else[c]
def enc (k:Int) (L:List UInt8):List UInt8:=L.flatMap (one k)
theorem oC (k:Int) (L:List UInt8) (c:UInt8):enc k (L++[c])=enc k L++one k c:=by simp[enc]
theorem I7 (k:Int) (c:UInt8):1≤(one k c).length∧(one k c).length≤3:=by unfold one;split<;>simp
theorem fK (k:Int) (L:List UInt8):(enc k L).length≤3*L.length:=by
 induction L with
 |nil=>simp[enc]
 |cons c L ih=>
  have h:=I7 k c;have e:enc k (c::L)=one k c++enc k L:=by simp[enc]
  rw[e,List.length_append,List.length_cons];omega
theorem Bj (k:Nat) (h:k<(⟨#[48,49,50,51,52,53,54,55,56,57,65,66,67,68,69,70]⟩:ByteArray).size):(⟨#[48,49,50,51,52,53,54,55,56,57,65,66,67,68,69,70]⟩:ByteArray)[k]'h=kU k:=by
 have c:k<16:=h;have a:k=0∨k=1∨k=2∨k=3∨k=4∨k=5∨k=6∨k=7∨k=8∨k=9∨k=10∨k=11∨k=12∨k=13∨k=14∨k=15:=by omega
 rcases a with rfl|rfl|rfl|rfl|rfl|rfl|rfl|rfl|rfl|rfl|rfl|rfl|rfl|rfl|rfl|rfl<;>rfl
theorem SI (a b c:Int):∀u ∈ [Value.int .u8 a,Value.int .u8 b,Value.int .u8 c],u.oneCell'=true:=by
 intro u d;simp at d;rcases d with rfl|rfl|rfl<;>rfl
attribute [local go_sem ↓] Go.wp_at_zero Go.wp_at_succ
theorem gq (k : Int) (A : Option Addr) (n I : Nat) (L : List UInt8) (w : World) (h : dV w A n (aQ L)) (hm : n ≤ 1073741824) :
  Calls prog 37 #[.int .i64 k,.slice A n I] w fun e w'=>e=.returned (.string (ah (enc k L)))∧Below w.heap.size w w':=by
 have O:L.length=n:=by rw[←bM];exact h.1
 have B:=hid O;clear O;obtain⟨D,hi,s,r,q⟩:=info_parts qU;have T:=hid h;clear h;go_enter func37,ntmps37;go_wp2_with (at_make;refine wpList_make_own _ rfl _ _ 50 rfl w.heap.size 5 D (.int .u8 0) 1 underlying50 hi s r .i64 .i64 _ n rfl rfl rfl (by rw[q];omega) (by unfold maxLen;omega) (Nat.le_refl _) ?_)
 intro V i y;have l:Below w.heap.size w V:=(Below.refl _ _).grown y (Nat.le_refl _) (by intro k h;cases h);clear y;go_wp2;go_loopw [5,13] (fun v vk wr=>∃(j:Nat),j≤n∧vk=.int .i64 j∧wr.ownsRow w.heap.size 5 1 v (enc k (L.take j)).length (aQ (enc k (L.take j)))∧Below w.heap.size w wr) (fun _ vk _=>n - (intOf vk).toNat)
 case atStart=>exact⟨0,Nat.zero_le _,rfl,i,l⟩
 case round=>
  clear i l;obtain⟨j,hj,rfl,d,a⟩:=hrel;by_cases hlt:j<n
  ·obtain ⟨b,x,rfl,hb,_⟩:=(T).spot (by omega);obtain⟨c,hx⟩:∃c,c=L[j]'(by rw[B.out];exact hlt):=⟨_,rfl⟩;have G:wr.cell? ⟨b,x+j,none⟩=some (.int .u8 (c.toNat:Int)):=by
    rw[hx,←T.out.byte j (by rw[B.out];exact hlt)];exact a.cell (p:=⟨b,x+j,none⟩) hb
   have P:Hid (L.take (j+1)=L.take j++[c]):=by
    rw[hx];exact List.take_succ_eq_append_getElem (by rw[B.out];exact hlt)
   clear hx;have F:=fK k (L.take j);have N:(L.take j).length≤j:=List.length_take_le _ _;obtain⟨m,t⟩:∃m,m=(enc k (L.take j)).length:=⟨_,rfl⟩;rw[←t]at F d;have Q:=hid t;clear t;have a0:(c.toNat:Int)<256:=by have:=c.toNat_lt;omega
   cases hin:iJ k c.toNat
   ·have z:=hid hin;clear hin;go_wp2_with fail
    refine(IU _ _ _).mono ?_;rintro e C ⟨rfl,rfl⟩;rw[z.out];go_wp2_with (at_builtin;refine bJ rfl _ _ 50 rfl w.heap.size 5 D (.int .u8 0) 1 underlying50 hi s r q rfl _ m _ rfl d a a.size [.int .u8 (c.toNat:Int)] 1 rfl rfl (by intro u J;simp at J;subst J;rfl) (by unfold maxLen;omega) (by omega) ?_)
    intro W C f g;clear d a;go_wp2;go_roundw
    case rel=>exact⟨j+1,by omega,by go_num,by
      have H:one k c=[c]:=by unfold one;rw[z.out];rfl
      rw[P.out,oC,H,List.length_append,eU,←Q.out];exact f,g⟩
    case measure=>simp[intOf];omega
   ·have z:=hid hin;clear hin;go_wp2_with fail
    refine(IU _ _ _).mono ?_;rintro e C ⟨rfl,rfl⟩;rw[z.out];go_wp2;have q1:(0:Int)≤(c.toNat:Int) / 16:=by omega
    have q2:(c.toNat:Int) / 16<16:=by omega
    have q3:(0:Int)≤(c.toNat:Int)%16:=by omega
    have q4:(c.toNat:Int)%16<16:=by omega
    have Z:=TV c;have Y:∀h,(⟨#[48,49,50,51,52,53,54,55,56,57,65,66,67,68,69,70]⟩:ByteArray)[((c.toNat:Int) / 16).toNat]'h=kU (c.toNat / 16):=fun h=>Bj _ h;have X:∀h,(⟨#[48,49,50,51,52,53,54,55,56,57,65,66,67,68,69,70]⟩:ByteArray)[((c.toNat:Int)%16).toNat]'h=kU (c.toNat%16):=fun h=>Bj _ h
    go_region_held3 (fun _=>True) (trivial) ((refine Me (by rfl) _ _ 50 (by rfl) w.heap.size 5 D (.int .u8 0) 1 underlying50 hi s r q (by rfl) _ m _ (by rfl) d a a.size [.int .u8 37,.int .u8 ((kU (c.toNat / 16)).toNat:Int),.int .u8 ((kU (c.toNat%16)).toNat:Int)] 3 (by rfl) (by decide) (by rfl) (SI _ _ _) (by unfold maxLen;omega) (by omega) ⟨(Below.refl _ _).drew,fun _=>rfl,by simp⟩ ?_;intro W C f g))
    all_goals
     clear d a q1 q2 q3 q4 Z Y X;go_wp2;go_roundw
     case rel=>exact⟨j+1,by omega,by go_num,by
       have H:one k c=[37,kU (c.toNat / 16),kU (c.toNat%16)]:=by unfold one;rw[if_pos z.out]
       rw[P.out,oC,H,List.length_append,eU,←Q.out];exact f,g⟩
     case measure=>simp[intOf];omega
  ·obtain rfl:j=n:=by omega
   have HE:Hid (L.take j=L):=by
    rw[←B.out];exact List.take_length
   rw[HE.out]at d;obtain⟨A',c',rfl,_,_,E⟩:=aS d;have aU:=bI 50 9 5 underlying50 underlying5 underlying9 _ c' E;go_wp2;go_ret;exact⟨rfl,a⟩
end aG
namespace AY
open Go.RowKit Base jX aG
theorem Ii (a b c:UInt8) (w:World):dV (w.alloc (.cells #[.int .u8 (a.toNat:Int),.int .u8 (b.toNat:Int),.int .u8 (c.toNat:Int)] 5)) (some ⟨w.heap.size,0,none⟩) 3 (aQ [a,b,c]):=
 dV.lJ rfl (by simp) (fun j hj=>by
  have e:j<3:=hj
  rw[World.cell?_alloc_mark]
  have d:j=0∨j=1∨j=2:=by omega
  rcases d with rfl|rfl|rfl<;>rfl)
attribute [local go_sem ↓] Go.wp_at_zero Go.wp_at_succ
theorem abE (c:UInt8):IntKind.u8.wrap ((c.toNat:Int) / 16)=(c.toNat:Int) / 16:=by
 have H:∀n:Fin 256,IntKind.u8.wrap ((n.val:Int) / 16)=(n.val:Int) / 16:=by decide+kernel
 exact H ⟨c.toNat,c.toNat_lt⟩
theorem abq (c:UInt8):(c.toNat:Int).tmod 16=(c.toNat:Int)%16:=Int.tmod_eq_emod_of_nonneg (by omega)
theorem one_any (c:UInt8) (w:World):Calls prog 121 #[.int .u8 (c.toNat:Int)] w fun e w'=>e=.returned (.string (ah [37,kU (c.toNat / 16),kU (c.toNat%16)]))∧Below w.heap.size w w':=by
 have f:(c.toNat:Int)<256:=by have:=c.toNat_lt;omega
 have m:(0:Int)≤(c.toNat:Int) / 16:=by omega
 have l:(c.toNat:Int) / 16<16:=by omega
 have q3:(0:Int)≤(c.toNat:Int)%16:=by omega
 have k:(c.toNat:Int)%16<16:=by omega
 have j:∀h,(⟨#[48,49,50,51,52,53,54,55,56,57,65,66,67,68,69,70]⟩:ByteArray)[((c.toNat:Int) / 16).toNat]'h=kU (c.toNat / 16):=fun h=>Bj _ h;have i:∀h,(⟨#[48,49,50,51,52,53,54,55,56,57,65,66,67,68,69,70]⟩:ByteArray)[((c.toNat:Int)%16).toNat]'h=kU (c.toNat%16):=fun h=>Bj _ h;have aU:=bI 50 9 5 underlying50 underlying5 underlying9 _ 3 (Ii 37 (kU (c.toNat / 16)) (kU (c.toNat%16)) w);have d:dV (w.alloc (.cells #[.int .u8 ((37:UInt8).toNat:Int),.int .u8 ((kU (c.toNat / 16)).toNat:Int),.int .u8 ((kU (c.toNat%16)).toNat:Int)] 5)).drew (some ⟨w.heap.size,0,none⟩) 3 (aQ [37,kU (c.toNat / 16),kU (c.toNat%16)]):=Ii 37 (kU (c.toNat / 16)) (kU (c.toNat%16)) w;have a:=bI 50 9 5 underlying50 underlying5 underlying9 _ 3 d;rw[show((37:UInt8).toNat:Int)=37 from rfl]at aU a;have g:=abE c;have qb:=abq c;go_enter func121,ntmps121;go_wp2
 go_region
 go_wp2;go_ret;exact⟨rfl,((Below.refl _ _).alloc (Nat.le_refl _) _).drew⟩
theorem bH (X Y:List UInt8) (w:World) (h:X.length+Y.length≤9223372036854775807):(Op.stringOp .add (ah X) (ah Y)).run prog w=.ok (.string (ah (X++Y))) w:=by
 rw[run_string_add_sum w _ _ (by rw[ak,ak];exact h)];congr 2
theorem Jt (s:ByteArray) (k:Nat) (h:k<s.size):s.extract k (k+1)=ah [s[k]]:=by
 apply ByteArray.ext;have a:k<s.data.size:=h;apply Array.ext';rw[ByteArray.data_extract];simp[ah,Array.toList_extract,List.extract_eq_take_drop];rw[List.drop_eq_getElem_cons (by simpa using a)];rfl
theorem ig (k:Int) (s:ByteArray) (w:World) (C:s.size≤1073741824) (d:∀(c:UInt8) (w:World),Calls prog 120 #[.int .i64 k,.int .u8 (c.toNat:Int)] w fun e w'=>e=.returned (.bool (iJ k c.toNat))∧w=w'):
  Calls prog 62 #[.int .i64 k,.string s] w fun e w'=>e=.returned (.string (ah (enc k s.data.toList)))∧Below w.heap.size w w':=by
 have z:s.data.toList.length=s.size:=Array.length_toList;have x:=hid z;have y:=hid d;go_enter func62,ntmps62;go_wp2;go_loopw [5,9] (fun v vk wr=>∃(j:Nat) (X:List UInt8),j≤s.size∧vk=.int .i64 j∧v=.string (ah X)∧X.length≤3*j∧Hid (X=enc k (s.data.toList.take j))∧Below w.heap.size w wr) (fun _ vk _=>s.size - (intOf vk).toNat)
 case atStart=>exact⟨0,[],Nat.zero_le _,rfl,rfl,Nat.le_refl _,rfl,Below.refl _ _⟩
 case round=>
  obtain⟨j,X,D,rfl,rfl,E,q,a⟩:=hrel;by_cases hlt:j<s.size
  ·obtain ⟨c,r⟩:∃c,s[j]=c:=⟨_,rfl⟩;have t:Hid (s.data.toList.take (j+1)=s.data.toList.take j++[c]):=by
    rw[←r,List.take_succ_eq_append_getElem (by rw[x.out];exact hlt)];rfl
   have g:=Jt s j hlt;rw[r]at g;have A:(c.toNat:Int)<256:=by have:=c.toNat_lt;omega
   cases d:iJ k c.toNat
   ·have i:=hid d;go_wp2_with fail
    refine(y _ _).mono ?_;rintro e l ⟨rfl,rfl⟩;rw[i.out];have h:=bH X [c] wr (by simp;omega);go_wp2;go_roundw
    case rel=>exact⟨j+1,X++[c],by omega,by go_num,rfl,by simp;omega,by
      have n:one k c=[c]:=by unfold one;rw[i.out];rfl
      rw[t.out,oC,n,q.out];exact rfl,a⟩
    case measure=>simp[intOf];omega
   ·have i:=hid d;go_wp2_with fail
    refine(y _ _).mono ?_;rintro e l ⟨rfl,rfl⟩;rw[i.out];go_wp2_with fail
    refine(one_any _ _).mono ?_;rintro e l ⟨rfl,m⟩;have h:=bH X [37,kU (c.toNat / 16),kU (c.toNat%16)] l (by simp;omega);have f:=a.trans (m.mono a.size);go_wp2;go_roundw
    case rel=>exact⟨j+1,X++[37,kU (c.toNat / 16),kU (c.toNat%16)],by omega,by go_num,rfl,by simp;omega,by
      have n:one k c=[37,kU (c.toNat / 16),kU (c.toNat%16)]:=by unfold one;rw[if_pos i.out]
      rw[t.out,oC,n,q.out];exact rfl,f⟩
    case measure=>simp[intOf];omega
  ·obtain rfl:j=s.size:=by omega
   have B:Hid (X=enc k s.data.toList):=by
    rw[q.out,←x.out,List.take_length];exact rfl
   go_wp2;go_ret;rw[B.out];exact⟨rfl,a⟩
end AY
namespace ng
open Go.RowKit Base dI
def esc:List UInt8→Option UInt8
 |a::b::c::_=>if a=37∧0≤hex b.toNat∧0≤hex c.toNat then some (UInt8.ofNat (16*hex b.toNat+hex c.toNat).toNat)else none
 |_=>none
def rJ:Nat→List UInt8→List UInt8
 |0,_=>[]
 |_+1,[]=>[]
 |n+1,x::t=>match esc (x::t)with
  |some c=>c::rJ n (t.drop 2)
  |none=>x::rJ n t
def dec (L:List UInt8):List UInt8:=rJ L.length L
theorem pO:∀(n m:Nat) (L:List UInt8),L.length≤n→L.length≤m→rJ n L=rJ m L
 |0,0,_,_,_=>rfl
 |0,m+1,[],_,_=>rfl
 |0,_+1,_::_,h,_=>by simp at h
 |n+1,0,[],_,_=>rfl
 |_+1,0,_::_,_,h=>by simp at h
 |_+1,_+1,[],_,_=>rfl
 |n+1,m+1,x::t,h1,h2=>by
  simp only[List.length_cons]at h1 h2
  rw[rJ,rJ,pO n m _ (by simp;omega) (by simp;omega),pO n m _ (by omega) (by omega)]
theorem mG:dec []=[]:=rfl
theorem sD (x:UInt8) (t:List UInt8) (c:UInt8) (h:esc (x::t)=some c):dec (x::t)=c::dec (t.drop 2):=by
 unfold dec;rw[List.length_cons,rJ,h];rw[pO t.length (t.drop 2).length _ (by simp) (Nat.le_refl _)]
theorem kZ (x:UInt8) (t:List UInt8) (h:esc (x::t)=none):dec (x::t)=x::dec t:=by
 unfold dec;rw[List.length_cons,rJ,h]
theorem pF (L:List UInt8):(dec L).length≤L.length:=by
 have H : ∀ (n : Nat) (L : List UInt8), (rJ n L).length ≤ L.length := by
  intro n;induction n with
  |zero=>intro L;simp[rJ]
  | succ n ih=>
   intro L;cases L with
   |nil=>simp[rJ]
   |cons x t=>
    rw[rJ];split
    ·have:=ih (t.drop 2);simp at this⊢;omega
    have:=ih t;simp at this⊢;omega
 exact H _ _
theorem qo (c:UInt8): -1≤hex c.toNat∧hex c.toNat≤15:=by
 unfold hex
 (repeat' split)<;>omega
attribute [local go_sem ↓] Go.wp_at_zero Go.wp_at_succ
def yj (L:List UInt8):Value×Bool:=match esc L with
 |some c=>(.int .u8 (c.toNat:Int),true)
 |none=>(.int .u8 0,false)
theorem GY (s:ByteArray) (h:s.size<3):esc s.data.toList=none:=by
 have a:s.data.toList.length<3:=by rw[Array.length_toList];exact h
 match e:s.data.toList,a with
 |[],_=>rfl
 |[_],_=>rfl
 |[_,_],_=>rfl
theorem UE (s:ByteArray) (h:3≤s.size):∃t,s.data.toList=s[0]::s[1]::s[2]::t:=by
 have d:3≤s.data.toList.length:=by rw[Array.length_toList];exact h
 match e:s.data.toList,d with
 |a::b::c::t,_=>
  have i:s[0]=a:=by
   have:s.data.toList[0]'(by omega)=a:=by simp[e]
   exact this
  have g:s[1]=b:=by
   have:s.data.toList[1]'(by omega)=b:=by simp[e]
   exact this
  have f:s[2]=c:=by
   have:s.data.toList[2]'(by omega)=c:=by simp[e]
   exact this
  exact⟨t,by rw[i,g,f]⟩
theorem ZR (z:Int) (c:0≤z) (a:z≤255):((UInt8.ofNat z.toNat).toNat:Int)=z:=by simp;omega
theorem aeT (h l:Int) (d:0≤h) (f:h≤15) (c:0≤l) (e:l≤15):bits .or .i64 (h*16) l=16*h+l:=by
 have H:∀a b:Fin 16,bits .or .i64 ((a.val:Int)*16) (b.val:Int)=16*(a.val:Int)+(b.val:Int):=by decide+kernel
 have:=H ⟨h.toNat,by omega⟩ ⟨l.toNat,by omega⟩;simp only[Int.toNat_of_nonneg d,Int.toNat_of_nonneg c]at this;exact this
theorem aaD (c:Int) (w:World) (d:0≤c) (a:c≤255):Calls prog 190 #[.int .u8 c] w fun e w'=>e=.returned (.int .i64 (hex c))∧w'=w:=
 (dG c w d a).mono fun _ _ ⟨he,hw⟩=>⟨he,hw.symm⟩
theorem CG (s:ByteArray) (w:World) (v:s.size≤maxLen):Calls prog 163 #[.string s] w fun e w'=>e=.returned (.tuple #[(yj s.data.toList).1,.bool (yj s.data.toList).2])∧Below w.heap.size w w':=by
 unfold maxLen at v;by_cases h3:s.size<3
 ·have d:Hid (yj s.data.toList=(.int .u8 0,false)):=by unfold yj;rw[GY s h3];exact rfl
  have m:(s.size:Int)<3:=by omega
  go_enter func163,ntmps163;go_wp2;go_ret2;rw[d.out];exact⟨rfl,Below.refl _ _⟩
 have m:(3:Int)≤(s.size:Int):=by omega
 obtain⟨t,n⟩:=UE s (by omega);obtain⟨a,C⟩:∃a,s[0]=a:=⟨_,rfl⟩;obtain⟨b,B⟩:∃b,s[1]=b:=⟨_,rfl⟩;obtain⟨c,z⟩:∃c,s[2]=c:=⟨_,rfl⟩;rw[C,B,z]at n;have j:=hid n;have A:0≤(b.toNat:Int)∧(b.toNat:Int)≤255:=by have:=b.toNat_lt;omega
 have y:0≤(c.toNat:Int)∧(c.toNat:Int)≤255:=by have:=c.toNat_lt;omega
 by_cases h37:a=37
 ·subst h37;have i:(((37:UInt8).toNat:Int) !=37)=false:=by decide
  obtain⟨r,l⟩:=qo b;obtain⟨q,k⟩:=qo c;by_cases hx:hex b.toNat<0
  ·have d:Hid (yj s.data.toList=(.int .u8 0,false)):=by
    unfold yj;rw[j.out,esc,if_neg (by intro h;omega)];exact rfl
   go_enter func163,ntmps163;go_wp2
   go_quiet ((go_at_call 190;exact Calls.quiet_of_same (aaD _ _ (by omega) (by omega))))
   go_wp2;go_ret2;rw[d.out];exact⟨rfl,Base.below_drewN (Below.refl _ _) _⟩
  have g:0≤hex b.toNat:=by omega
  by_cases hy:hex c.toNat<0
  ·have d:Hid (yj s.data.toList=(.int .u8 0,false)):=by
    unfold yj;rw[j.out,esc,if_neg (by intro h;omega)];exact rfl
   go_enter func163,ntmps163;go_wp2
   go_quiet ((go_at_call 190;exact Calls.quiet_of_same (aaD _ _ (by omega) (by omega))))
   go_wp2;go_ret2;rw[d.out];exact⟨rfl,Base.below_drewN (Below.refl _ _) _⟩
  have f:0≤hex c.toNat:=by omega
  have d:Hid (yj s.data.toList=(.int .u8 (16*hex b.toNat+hex c.toNat),true)):=by
   unfold yj;rw[j.out,esc,if_pos ⟨rfl,g,f⟩];show(Value.int .u8 ((UInt8.ofNat (16*hex b.toNat+hex c.toNat).toNat).toNat:Int),true)=_;rw[ZR _ (by omega) (by omega)]
  have x:=aeT _ _ g l f k;go_enter func163,ntmps163;go_wp2
  go_quiet ((go_at_call 190;exact Calls.quiet_of_same (aaD _ _ (by omega) (by omega))))
  go_wp2;go_ret2;rw[d.out];exact⟨Ap rfl rfl,Base.below_drewN (Below.refl _ _) _⟩
 have d:Hid (yj s.data.toList=(.int .u8 0,false)):=by
  unfold yj;rw[j.out,esc,if_neg (by intro h;exact h37 h.1)];exact rfl
 have i:((a.toNat:Int) !=37)=true:=by
  simp;intro h;exact h37 (UInt8.toNat_inj.1 (by simp;omega))
 go_enter func163,ntmps163;go_wp2;go_ret2;rw[d.out];exact⟨rfl,Below.refl _ _⟩
theorem extract_drop (s:ByteArray) (k:Nat) (_h:k≤s.size):(s.extract k s.size).data.toList=s.data.toList.drop k:=by
 rw[ByteArray.data_extract];simp[Array.toList_extract,List.extract_eq_take_drop];rw[List.take_of_length_le (by rw[List.length_drop,Array.length_toList];exact Nat.le_refl _)]
theorem qj (s:ByteArray) (w:World) (W:s.size≤1073741824):Calls prog 139 #[.string s] w fun e w'=>∃v,e=.returned v∧w'.ownsRow w.heap.size 5 1 v (dec s.data.toList).length (aQ (dec s.data.toList))∧Below w.heap.size w w':=by
 obtain⟨C,hi,r,q,n⟩:=info_parts qU;have P:s.data.toList.length=s.size:=Array.length_toList;have H:=hid P;go_enter func139,ntmps139;go_wp2_with (at_make;refine wpList_make_own _ rfl _ _ 50 rfl w.heap.size 5 C (.int .u8 0) 1 underlying50 hi r q .i64 .i64 _ s.size rfl rfl rfl (by rw[n];omega) (by unfold maxLen;omega) (Nat.le_refl _) ?_)
 intro N t E;have y:Below w.heap.size w N:=(Below.refl _ _).grown E (Nat.le_refl _) (by intro k h;cases h);go_wp2;go_loopw [3,4] (fun v vk wr=>∃(j:Nat) (X:List UInt8),j≤s.size∧X.length≤j∧vk=.int .i64 j∧wr.ownsRow w.heap.size 5 1 v X.length (aQ X)∧Below w.heap.size w wr∧Hid (X++dec (s.data.toList.drop j)=dec s.data.toList)) (fun _ vk _=>s.size - (intOf vk).toNat)
 case atStart=>exact⟨0,[],Nat.zero_le _,Nat.le_refl _,rfl,t,y,rfl⟩
 case round=>
  obtain⟨j,X,Q,Y,rfl,l,d,F⟩:=hrel;by_cases hlt:j<s.size
  ·obtain ⟨x,hx⟩:∃x,s[j]=x:=⟨_,rfl⟩;have T:s.data.toList.drop j=x::s.data.toList.drop (j+1):=by
    rw[←hx];exact List.drop_eq_getElem_cons (by rw[H.out];exact hlt)
   have I:=hid T;have A:Hid ((s.extract j s.size).data.toList=s.data.toList.drop j):=extract_drop s j Q;have D:(s.extract j s.size).size=s.size - j:=by simp
   have z:=hid D;cases hesc:esc (s.data.toList.drop j)with
   | none=>
    have HV:Hid (yj (s.extract j s.size).data.toList=(.int .u8 0,false)):=by
     unfold yj;rw[A.out,hesc];exact rfl
    have G:Hid (dec (s.data.toList.drop j)=x::dec (s.data.toList.drop (j+1))):=by
     rw[I.out]at hesc⊢;exact kZ _ _ hesc
    go_wp2_with fail
    refine(CG _ _ (by rw[z.out];unfold maxLen;omega)).mono ?_;rintro e L ⟨rfl,m⟩;rw[HV.out];have g:=aZ l m;have a:=d.trans (m.mono d.size);go_wp2_with (at_builtin;refine bJ rfl _ _ 50 rfl w.heap.size 5 C (.int .u8 0) 1 underlying50 hi r q n rfl _ X.length _ rfl g a a.size [.int .u8 (x.toNat:Int)] 1 rfl rfl (by intro u B;simp at B;subst B;rfl) (by unfold maxLen;omega) (by omega) ?_)
    intro O J f i;go_wp2;go_roundw
    case rel=>exact⟨j+1,X++[x],by omega,by simp;omega,by go_num,by rw[eU,List.length_append];exact f,i,by
      rw[List.append_assoc];have:=F.out;rw[G.out]at this;exact this⟩
    case measure=>simp[intOf];omega
   | some c=>
    have Z:j+3≤s.size:=by
     rcases Nat.lt_or_ge (s.size - j) 3 with h|h
     ·have:=GY (s.extract j s.size) (by rw[z.out];exact h);rw[A.out,hesc]at this;cases this
     omega
    have HV:Hid (yj (s.extract j s.size).data.toList=(.int .u8 (c.toNat:Int),true)):=by
     unfold yj;rw[A.out,hesc];exact rfl
    have G:Hid (dec (s.data.toList.drop j)=c::dec (s.data.toList.drop (j+3))):=by
     rw[I.out]at hesc⊢;rw[sD _ _ _ hesc,List.drop_drop];exact rfl
    go_wp2_with fail
    refine(CG _ _ (by rw[z.out];unfold maxLen;omega)).mono ?_;rintro e L ⟨rfl,m⟩;rw[HV.out];have g:=aZ l m;have a:=d.trans (m.mono d.size);go_wp2_with (at_builtin;refine bJ rfl _ _ 50 rfl w.heap.size 5 C (.int .u8 0) 1 underlying50 hi r q n rfl _ X.length _ rfl g a a.size [.int .u8 (c.toNat:Int)] 1 rfl rfl (by intro u B;simp at B;subst B;rfl) (by unfold maxLen;omega) (by omega) ?_)
    intro O J f i;go_wp2;go_roundw
    case rel=>exact⟨j+3,X++[c],by omega,by simp;omega,by rw[show((j+3:Nat):Int)=(j:Int)+2+1 by omega],by rw[eU,List.length_append];exact f,i,by
      rw[List.append_assoc];have:=F.out;rw[G.out]at this;exact this⟩
    case measure=>simp[intOf];omega
  obtain rfl:j=s.size:=by omega
  have V:Hid (X=dec s.data.toList):=by
   have e:=F.out;rw[←H.out,List.drop_length,mG,List.append_nil]at e;exact e
  go_wp2;go_ret;exact⟨_,rfl,by rw[←V.out];exact l,d⟩
end ng
namespace jw
open Go.RowKit Base gB lQ pX
def FRB:List UInt8:=[0,9,10,13,32,35,47,58,60,62,63,64,91,92,93,94,124]
def Rf (c:UInt8):Bool:=FRB.contains c
def zh (d:Bool) (c:UInt8):Bool:=Rf c||(d&&(decide (c.toNat<32)||(c==127||c==37)))
theorem GZ (c:UInt8):zh false c=Rf c:=by simp[zh]
def okb (d:Bool) (c:UInt8):Bool:= !(zh d c)&&(!d||decide (c.toNat≤126))
def oks (d:Bool) (L:List UInt8):Bool:=L.all (okb d)
def VN (V:List Nat):List UInt8:=jD.prt fun i=>V.getD i 0
def addr (M:List UInt8):Option (List UInt8):=match six M with
 |none=>none
 |some V=>some (91::(VN V++[93]))
def hbr (M:List UInt8):Option (List UInt8):=if Lib.hasSuffix M [93]=true then addr (Lib.trimSuffix M [93])else none
def IE (M:List UInt8):Option (List UInt8):=if M=[]then none else if ends M=true then(Dl M).map yI.pr else some M
def Nr (L:List UInt8):Option (List UInt8):=if oks true L=true then IE (lower L)else none
def RJ (s:List UInt8):Option (List UInt8):=if oks false s=true then some (aG.enc 0 s)else none
def aU (s:List UInt8) (sp:Bool):Option (List UInt8):=if s.head?=some 91 then hbr s.tail else if sp=true then Nr (ng.dec s)else RJ s
def HV (o:Option (List UInt8)):Value:=match o with
 |none=>.tuple #[.string (ah []),.bool false]
 |some L=>.tuple #[.string (ah L),.bool true]
theorem G7 (c:UInt8):decide (0≤Lib.indexByte FRB c)=Rf c:=by
 have H:∀n:Fin 256,decide (0≤Lib.indexByte FRB (UInt8.ofNat n.val))=Rf (UInt8.ofNat n.val):=by decide+kernel
 have:=H ⟨c.toNat,c.toNat_lt⟩;simpa using this
theorem RF (c:UInt8):okb false c= !(Rf c):=by simp[okb,zh]
theorem qB (c:UInt8):okb true c=(!(zh true c)&&decide (c.toNat≤126)):=by simp[okb]
theorem Rh (c:UInt8) (h:Rf c=true):c=0∨c=9∨c=10∨c=13∨c=32∨c=35∨c=47∨c=58∨c=60∨c=62∨c=63∨c=64∨c=91∨c=92∨c=93∨c=94∨c=124:=by
 unfold Rf FRB at h;simpa using h
theorem gV (c:UInt8) (h:Rf c=false) (k:UInt8) (a:Rf k=true):((c.toNat:Int)==(k.toNat:Int))=false:=by
 rw[beq_eq_false_iff_ne];intro e;have:c=k:=UInt8.toNat_inj.1 (by omega);rw[this,a]at h;cases h
theorem Yk (c:UInt8):okb true (low c)=okb true c:=by
 have H:∀n:Fin 256,okb true (low (UInt8.ofNat n.val))=okb true (UInt8.ofNat n.val):=by decide+kernel
 have:=H ⟨c.toNat,c.toNat_lt⟩;simpa using this
theorem Hu (L:List UInt8):oks true (lower L)=oks true L:=by
 unfold oks lower;rw[List.all_map];congr 1
 funext c
 exact Yk c
theorem jO (d:Bool) (L:List UInt8) (k:Nat) (h:k<L.length):oks d (L.take (k+1))=(oks d (L.take k)&&okb d L[k]):=by
 unfold oks;rw[List.take_succ_eq_append_getElem h,List.all_append];simp
theorem uN (d:Bool) (L:List UInt8) (k:Nat) (h:k<L.length) (a:okb d L[k]=false):oks d L=false:=by
 unfold oks;rw[List.all_eq_false];exact⟨L[k],List.getElem_mem h,by rw[a];exact Bool.false_ne_true⟩
end jw
namespace iI
open Go.RowKit gB dI
def rD (L:List UInt8):Bool:=decide (L=[46])||decide (lower L=[37,50,101])
def qh (L:List UInt8):Bool:=decide (lower L=[46,46])||decide (lower L=[46,37,50,101])||decide (lower L=[37,50,101,46])||decide (lower L=[37,50,101,37,50,101])
def lq (L:List UInt8):Bool:=match L with
 |[a,b]=>letter (a.toNat:Int)&&(decide (b=58)||decide (b=124))
 |_=>false
def wJ (L:List UInt8):Bool:=match L with
 |[a,b]=>letter (a.toNat:Int)&&decide (b=58)
 |_=>false
def pz (L:List UInt8):Bool:=match L with
 |[a,b]=>lq [a,b]
 |a::b::c::_=>lq [a,b]&&(decide (c=47)||decide (c=92)||decide (c=63)||decide (c=35))
 |_=>false
theorem ZC (c:UInt8):low c=46↔c=46:=by
 have H:∀n:Fin 256,low (UInt8.ofNat n.val)=46↔UInt8.ofNat n.val=46:=by decide+kernel
 have:=H ⟨c.toNat,c.toNat_lt⟩;simpa using this
theorem iL (c:UInt8) (L:List UInt8):lower (c::L)=low c::lower L:=rfl
theorem pR (L:List UInt8):lower L=[46]↔L=[46]:=by
 constructor
 ·intro h
  match L,h with
  |[c],h=>rw[iL]at h;injection h with h _;rw[(ZC c).1 h]
  |_::_::_,h=>simp[lower]at h
  |[],h=>simp[lower]at h
 rintro rfl;rfl
theorem XB (L:List UInt8):qh (46::L)=rD L:=by
 have e:low 46=46:=rfl;unfold qh rD;rw[iL,e,Bool.eq_iff_iff];simp[←pR L]
theorem GI (c:UInt8) (L:List UInt8) (l:c≠46):qh (c::L)=(decide (3<(c::L).length)&&(rD ((c::L).take 3)&&rD ((c::L).drop 3))):=by
 have j:low c≠46:=fun h=>l ((ZC c).1 h)
 match L with
 |[]=>simp[qh,lower,j]
 |[_]=>simp[qh,lower,j]
 |[_,_]=>simp[qh,lower,j]
 |a::b::d::L=>
  unfold qh rD;simp only[List.take_succ_cons,List.take_zero,List.drop_succ_cons,List.drop_zero,iL,List.length_cons];rw[Bool.eq_iff_iff];simp[j,←pR (d::L),iL,show lower ([]:List UInt8)=[]from rfl];constructor
  ·rintro(⟨i,g,f,e,k⟩|⟨i,g,f,e⟩)
   ·exact⟨⟨i,g,f⟩,.inl ⟨e,k⟩⟩
   exact⟨⟨i,g,f⟩,.inr e⟩
  rintro⟨⟨i,g,f⟩,⟨e,k⟩|e⟩
  ·exact .inl ⟨i,g,f,e,k⟩
  exact .inr ⟨i,g,f,e⟩
end iI
namespace mg
open Go.RowKit Base gB iI
theorem tl (s:ByteArray):s.toList=s.data.toList:=by
 obtain⟨d⟩:=s;rw[ByteArray.toList_mk]
theorem Ea (s:ByteArray) (L:List UInt8):(s.toList==L)=decide (s.data.toList=L):=by
 rw[tl,Bool.eq_iff_iff];simp
theorem dZ (M L:List UInt8):((ah M).toList==L)=decide (M=L):=Ea (ah M) L
theorem jF (s:ByteArray) (w:World) (h:s.size≤maxLen):Calls prog 179 #[.string s] w fun e w'=>e=.returned (.bool (rD s.data.toList))∧Below w.heap.size w w':=by
 obtain⟨o,a⟩:∃o,o=rD s.data.toList:=⟨_,rfl⟩;rw[←a];by_cases h1:s.data.toList=[46]
 ·have g:(s.toList==[46])=true:=by rw[Ea];exact decide_eq_true h1
  have j:Hid (o=true):=by show _=_;rw[a];unfold rD;rw[decide_eq_true h1];rfl
  clear h1 a;go_enter func179,ntmps179;go_wp2;go_ret;exact⟨aC j.symm,Below.refl _ _⟩
 have g:(s.toList==[46])=false:=by rw[Ea];exact decide_eq_false h1
 obtain⟨V,d⟩:∃V,V=ah (lower s.data.toList):=⟨_,rfl⟩;have f:(V.toList==[37,50,101])=o:=by rw[d,dZ,a];unfold rD;rw[decide_eq_false h1,Bool.false_or]
 have HV:=hid d;have i:=hid f;clear h1 a d f;go_enter func179,ntmps179;go_wp2_with fail
 refine(gB.jM s _ h).mono ?_;rintro e k ⟨rfl,c⟩;rw[←HV.out];go_wp2;go_ret;exact⟨aC i,c⟩
theorem yC (s:ByteArray) (w:World) (g:s.size≤1073741824):Calls prog 119 #[.string s] w fun e w'=>e=.returned (.bool (rD s.data.toList))∧Below w.heap.size w w':=by
 obtain⟨o,d⟩:∃o,o=rD s.data.toList:=⟨_,rfl⟩;rw[←d];obtain⟨V,c⟩:∃V,V=ah (lower s.data.toList):=⟨_,rfl⟩;by_cases h1:s.data.toList=[46]
 ·have j:(V.toList==[46])=true:=by rw[c,dZ];exact decide_eq_true ((pR _).2 h1)
  have l:Hid (o=true):=by show _=_;rw[d];unfold rD;rw[decide_eq_true h1];rfl
  have HV:=hid c;clear h1 d c;go_enter func119,ntmps119;go_wp2_with fail
  refine(jf.jM s _ g).mono ?_;rintro e i ⟨rfl,a⟩;rw[←HV.out];go_wp2;go_ret;exact⟨aC l.symm,a⟩
 have j:(V.toList==[46])=false:=by rw[c,dZ];exact decide_eq_false (fun h=>h1 ((pR _).1 h))
 have f:(V.toList==[37,50,101])=o:=by rw[c,dZ,d];unfold rD;rw[decide_eq_false h1,Bool.false_or]
 have HV:=hid c;have k:=hid f;clear h1 d c f;go_enter func119,ntmps119;go_wp2_with fail
 refine(jf.jM s _ g).mono ?_;rintro e i ⟨rfl,a⟩;rw[←HV.out];go_wp2;go_ret;exact⟨aC k,a⟩
end mg
namespace oQ
open Go.RowKit Base dI iI
theorem ZQ (c:UInt8) (n:Nat) (a:n<256):decide (c=UInt8.ofNat n)=decide (c.toNat=n):=by
 refine decide_eq_decide.2 ⟨?_,?_⟩
 ·rintro rfl;simp;omega
 intro h;rw[←h];simp
theorem XK (c:UInt8):decide (c=58)=decide (c.toNat=58):=ZQ c 58 (by omega)
theorem Zy (c:UInt8):decide (c=124)=decide (c.toNat=124):=ZQ c 124 (by omega)
theorem Jw (s:ByteArray) (h:s.size=2):s.data.toList=[s[0]'(by omega),s[1]'(by omega)]:=by
 refine List.ext_getElem ((show s.data.toList.length=s.size from Array.length_toList).trans h) fun i h1 h2=>?_;have:i=0∨i=1:=by simp at h2;omega
 rcases this with rfl|rfl<;>rfl
theorem zG (L:List UInt8) (h:lq L=true):L.length=2:=by
 match L,h with
 |[_,_],_=>rfl
theorem Pj (L:List UInt8) (h:L.length≠2):lq L=false:=by
 cases e:lq L with
 |false=>rfl
 |true=>exact absurd (zG L e) h
theorem P9 (L:List UInt8) (h:lq L=false):wJ L=false:=by
 match L,h with
 |[],_=>rfl
 |[_],_=>rfl
 |[a,b],h=>
  simp only[lq,wJ]at h⊢;cases hl:letter (a.toNat:Int)with
  |false=>rfl
  |true=>
   rw[hl]at h;simp at h;simp[h.1]
 |_::_::_::_,_=>rfl
theorem Qa (a b:UInt8) (h:lq [a,b]=true):wJ [a,b]=decide (b=58):=by
 simp only[lq,wJ,Bool.and_eq_true]at h⊢;rw[h.1,Bool.true_and]
theorem jK (s:ByteArray) (w:World):Calls prog 132 #[.string s] w fun e w'=>e=.returned (.bool (lq s.data.toList))∧w=w':=by
 obtain⟨o,d⟩:∃o,o=lq s.data.toList:=⟨_,rfl⟩;rw[←d];by_cases h2:s.size=2
 ·have q:0<s.size:=by omega
  have n:1<s.size:=by omega
  obtain⟨a,m⟩:∃a,s[0]=a:=⟨_,rfl⟩;obtain⟨b,l⟩:∃b,s[1]=b:=⟨_,rfl⟩;have k:((s.size:Int)==2)=true:=by simp;omega
  obtain⟨p,f⟩:∃p,p=letter (a.toNat:Int):=⟨_,rfl⟩;have h:Hid (o=(p&&(decide (b.toNat=58)||decide (b.toNat=124)))):=by
   show _=_;rw[d,Jw s h2,lq,m,l,f,XK,Zy]
  have g:=hid f;clear d f h2;by_cases e1:b.toNat=58
  ·have j:((b.toNat:Int)==58)=true:=by simp;omega
   have c:Hid (o=p):=by show _=_;rw[h.out,decide_eq_true e1];simp
   clear e1;cases p;all_goals
    go_enter func132,ntmps132;go_wp2_with fail
    refine(dI.gZ _ _).mono ?_;rintro e i ⟨rfl,rfl⟩;rw[←g.out];go_wp2;go_ret;exact⟨aC c.symm,rfl⟩
  have j:((b.toNat:Int)==58)=false:=by simp;omega
  by_cases e2:b.toNat=124
  ·have q3:((b.toNat:Int)==124)=true:=by simp;omega
   have c:Hid (o=p):=by show _=_;rw[h.out,decide_eq_true e2];simp
   clear e1 e2;cases p;all_goals
    go_enter func132,ntmps132;go_wp2_with fail
    refine(dI.gZ _ _).mono ?_;rintro e i ⟨rfl,rfl⟩;rw[←g.out];go_wp2;go_ret;exact⟨aC c.symm,rfl⟩
  have q3:((b.toNat:Int)==124)=false:=by simp;omega
  have c:Hid (o=false):=by show _=_;rw[h.out,decide_eq_false e1,decide_eq_false e2];simp
  clear e1 e2;cases p;all_goals
   go_enter func132,ntmps132;go_wp2_with fail
   refine(dI.gZ _ _).mono ?_;rintro e i ⟨rfl,rfl⟩;rw[←g.out];go_wp2;go_ret;exact⟨aC c.symm,rfl⟩
 have k:((s.size:Int)==2)=false:=by simp;omega
 have c:Hid (o=false):=by show _=_;rw[d];exact Pj _ (by rw[show s.data.toList.length=s.size from Array.length_toList];exact h2)
 clear h2 d;go_enter func132,ntmps132;go_wp2;go_ret;exact⟨aC c.symm,rfl⟩
theorem bQ (s:ByteArray) (w:World):Calls prog 117 #[.string s] w fun e w'=>e=.returned (.bool (lq s.data.toList))∧w=w':=by
 obtain⟨o,d⟩:∃o,o=lq s.data.toList:=⟨_,rfl⟩;rw[←d];by_cases h2:s.size=2
 ·have q:0<s.size:=by omega
  have n:1<s.size:=by omega
  obtain⟨a,m⟩:∃a,s[0]=a:=⟨_,rfl⟩;obtain⟨b,l⟩:∃b,s[1]=b:=⟨_,rfl⟩;have k:((s.size:Int)==2)=true:=by simp;omega
  obtain⟨p,f⟩:∃p,p=letter (a.toNat:Int):=⟨_,rfl⟩;have h:Hid (o=(p&&(decide (b.toNat=58)||decide (b.toNat=124)))):=by
   show _=_;rw[d,Jw s h2,lq,m,l,f,XK,Zy]
  have g:=hid f;clear d f h2;by_cases e1:b.toNat=58
  ·have j:((b.toNat:Int)==58)=true:=by simp;omega
   have c:Hid (o=p):=by show _=_;rw[h.out,decide_eq_true e1];simp
   clear e1;cases p;all_goals
    go_enter func117,ntmps117;go_wp2_with fail
    refine(jf.gZ _ _).mono ?_;rintro e i ⟨rfl,rfl⟩;rw[←g.out];go_wp2;go_ret;exact⟨aC c.symm,rfl⟩
  have j:((b.toNat:Int)==58)=false:=by simp;omega
  by_cases e2:b.toNat=124
  ·have q3:((b.toNat:Int)==124)=true:=by simp;omega
   have c:Hid (o=p):=by show _=_;rw[h.out,decide_eq_true e2];simp
   clear e1 e2;cases p;all_goals
    go_enter func117,ntmps117;go_wp2_with fail
    refine(jf.gZ _ _).mono ?_;rintro e i ⟨rfl,rfl⟩;rw[←g.out];go_wp2;go_ret;exact⟨aC c.symm,rfl⟩
  have q3:((b.toNat:Int)==124)=false:=by simp;omega
  have c:Hid (o=false):=by show _=_;rw[h.out,decide_eq_false e1,decide_eq_false e2];simp
  clear e1 e2;cases p;all_goals
   go_enter func117,ntmps117;go_wp2_with fail
   refine(jf.gZ _ _).mono ?_;rintro e i ⟨rfl,rfl⟩;rw[←g.out];go_wp2;go_ret;exact⟨aC c.symm,rfl⟩
 have k:((s.size:Int)==2)=false:=by simp;omega
 have c:Hid (o=false):=by show _=_;rw[d];exact Pj _ (by rw[show s.data.toList.length=s.size from Array.length_toList];exact h2)
 clear h2 d;go_enter func117,ntmps117;go_wp2;go_ret;exact⟨aC c.symm,rfl⟩
theorem yQ (s:ByteArray) (w:World):Calls prog 85 #[.string s] w fun e w'=>e=.returned (.bool (wJ s.data.toList))∧w=w':=by
 obtain⟨o,c⟩:∃o,o=wJ s.data.toList:=⟨_,rfl⟩;rw[←c];obtain⟨d,a⟩:∃d,d=lq s.data.toList:=⟨_,rfl⟩;have h:=hid a;cases d with
 |false=>
  have f:Hid (o=false):=by show _=_;rw[c];exact P9 _ a.symm
  clear a c;go_enter func85,ntmps85;go_wp2_with fail
  refine(jK _ _).mono ?_;rintro e i ⟨rfl,rfl⟩;rw[←h.out];go_wp2;go_ret;exact⟨aC f.symm,rfl⟩
 |true=>
  have j:s.size=2:=by
   have:=zG _ a.symm;rw[show s.data.toList.length=s.size from Array.length_toList]at this;exact this
  have m:1<s.size:=by omega
  obtain⟨b,l⟩:∃b,s[1]=b:=⟨_,rfl⟩;have f:Hid (o=decide (b.toNat=58)):=by
   show _=_;rw[c,←XK];rw[Jw s j]at a⊢;rw[l]at a⊢;exact Qa _ _ a.symm
  clear a c j;by_cases e1:b.toNat=58
  ·have k:((b.toNat:Int)==58)=true:=by simp;omega
   have g:Hid (o=true):=f.trans (decide_eq_true e1);clear e1;go_enter func85,ntmps85;go_wp2_with fail
   refine(jK _ _).mono ?_;rintro e i ⟨rfl,rfl⟩;rw[←h.out];go_wp2;go_ret;exact⟨aC g.symm,rfl⟩
  have k:((b.toNat:Int)==58)=false:=by simp;omega
  have g:Hid (o=false):=f.trans (decide_eq_false e1);clear e1;go_enter func85,ntmps85;go_wp2_with fail
  refine(jK _ _).mono ?_;rintro e i ⟨rfl,rfl⟩;rw[←h.out];go_wp2;go_ret;exact⟨aC g.symm,rfl⟩
theorem jQ (s:ByteArray) (w:World):Calls prog 116 #[.string s] w fun e w'=>e=.returned (.bool (wJ s.data.toList))∧w=w':=by
 obtain⟨o,c⟩:∃o,o=wJ s.data.toList:=⟨_,rfl⟩;rw[←c];obtain⟨d,a⟩:∃d,d=lq s.data.toList:=⟨_,rfl⟩;have h:=hid a;cases d with
 |false=>
  have f:Hid (o=false):=by show _=_;rw[c];exact P9 _ a.symm
  clear a c;go_enter func116,ntmps116;go_wp2_with fail
  refine(bQ _ _).mono ?_;rintro e i ⟨rfl,rfl⟩;rw[←h.out];go_wp2;go_ret;exact⟨aC f.symm,rfl⟩
 |true=>
  have j:s.size=2:=by
   have:=zG _ a.symm;rw[show s.data.toList.length=s.size from Array.length_toList]at this;exact this
  have m:1<s.size:=by omega
  obtain⟨b,l⟩:∃b,s[1]=b:=⟨_,rfl⟩;have f:Hid (o=decide (b.toNat=58)):=by
   show _=_;rw[c,←XK];rw[Jw s j]at a⊢;rw[l]at a⊢;exact Qa _ _ a.symm
  clear a c j;by_cases e1:b.toNat=58
  ·have k:((b.toNat:Int)==58)=true:=by simp;omega
   have g:Hid (o=true):=f.trans (decide_eq_true e1);clear e1;go_enter func116,ntmps116;go_wp2_with fail
   refine(bQ _ _).mono ?_;rintro e i ⟨rfl,rfl⟩;rw[←h.out];go_wp2;go_ret;exact⟨aC g.symm,rfl⟩
  have k:((b.toNat:Int)==58)=false:=by simp;omega
  have g:Hid (o=false):=f.trans (decide_eq_false e1);clear e1;go_enter func116,ntmps116;go_wp2_with fail
  refine(bQ _ _).mono ?_;rintro e i ⟨rfl,rfl⟩;rw[←h.out];go_wp2;go_ret;exact⟨aC g.symm,rfl⟩
end oQ
namespace JM
open Go.RowKit Base bf gB iI mg
theorem jP (s:ByteArray) (w:World) (m:s.size≤1073741824):Calls prog 118 #[.string s] w fun e w'=>e=.returned (.bool (qh s.data.toList))∧Below w.heap.size w w':=by
 obtain⟨o,g⟩:∃o,o=qh s.data.toList:=⟨_,rfl⟩;rw[←g];obtain⟨V,a⟩:∃V,V=ah (lower s.data.toList):=⟨_,rfl⟩;obtain⟨f,l⟩:∃o,o=decide (lower s.data.toList=[46,46]):=⟨_,rfl⟩;obtain⟨d,k⟩:∃o,o=decide (lower s.data.toList=[46,37,50,101]):=⟨_,rfl⟩;obtain⟨o3,j⟩:∃o,o=decide (lower s.data.toList=[37,50,101,46]):=⟨_,rfl⟩;obtain⟨c,i⟩:∃o,o=decide (lower s.data.toList=[37,50,101,37,50,101]):=⟨_,rfl⟩;have x:(V.toList==[46,46])=f:=by rw[a,dZ,l]
 have v:(V.toList==[46,37,50,101])=d:=by rw[a,dZ,k]
 have q3:(V.toList==[37,50,101,46])=o3:=by rw[a,dZ,j]
 have t:(V.toList==[37,50,101,37,50,101])=c:=by rw[a,dZ,i]
 have n:Hid (o=(f||d||o3||c)):=by show _=_;rw[g,l,k,j,i];rfl
 have HV:=hid a;clear g a l k j i;cases f<;>cases d<;>cases o3<;>cases c;all_goals
  have q:=hid (show o=_ from n);go_enter func118,ntmps118;go_wp2_with fail
  refine(jf.jM s _ m).mono ?_;rintro e r ⟨rfl,h⟩;rw[←HV.out];go_wp2;go_ret;exact⟨aC q.symm,h⟩
theorem ext_size (s:ByteArray) (a b:Nat):(s.extract a b).size≤s.size:=by
 rw[ByteArray.size_extract];omega
theorem lU (s:ByteArray) (w:World) (J:s.size≤1073741824):Calls prog 178 #[.string s] w fun e w'=>e=.returned (.bool (qh s.data.toList))∧Below w.heap.size w w':=by
 have i:s.data.toList.length=s.size:=Array.length_toList;obtain⟨o,j⟩:∃o,o=qh s.data.toList:=⟨_,rfl⟩;rw[←j];obtain⟨P,a⟩:∃P,P=Lib.hasPrefix s.data.toList [46]:=⟨_,rfl⟩;have x:=hid a;cases P with
 | true=>
  obtain⟨t,r⟩:∃t,s.data.toList=46::t:=by
   unfold Lib.hasPrefix at a
   match h:s.data.toList,a with
   |c::t,a=>
    simp at a;exact⟨t,by rw[a]⟩
  have L:1≤s.size:=by rw[←i,r];simp
  obtain⟨X,f⟩:∃X,X=s.extract 1 s.size:=⟨_,rfl⟩;have hx:s.extract 1 s.size=X:=f.symm;have l:X.data.toList=t:=by rw[f,eH.ext_drop s 1 s.size rfl,r];rfl
  have k:X.size≤maxLen:=by rw[f];have:=ext_size s 1 s.size;unfold maxLen;omega
  have y:Hid (o=rD X.data.toList):=by show _=_;rw[j,r,XB,l]
  have g:=hid k;clear a r f l j i k;go_enter func178,ntmps178;go_wp2_with fail
  refine(strings_HasPrefix s ⟨#[46]⟩ _).mono ?_;rintro e z ⟨rfl,rfl⟩;rw[←x.out];go_wp2_with fail
  refine(jF X _ g).mono ?_;rintro e G ⟨rfl,d⟩;rw[←y.out];go_wp2;go_ret;exact⟨rfl,d⟩
 | false=>
  by_cases h4:3<s.size
  ·obtain ⟨X,f⟩:∃X,X=s.extract 0 3:=⟨_,rfl⟩;obtain⟨Y,v⟩:∃Y,Y=s.extract 3 s.size:=⟨_,rfl⟩;have hx:s.extract 0 3=X:=f.symm;have I:s.extract 3 s.size=Y:=v.symm;have g:Hid (X.size≤maxLen):=by show _≤_;rw[f];have:=ext_size s 0 3;unfold maxLen;omega
   have E:Hid (Y.size≤maxLen):=by show _≤_;rw[v];have:=ext_size s 3 s.size;unfold maxLen;omega
   obtain⟨p,A⟩:∃p,p=rD X.data.toList:=⟨_,rfl⟩;obtain⟨q,hq⟩:∃q,q=rD Y.data.toList:=⟨_,rfl⟩;have y:Hid (o=(p&&q)):=by
    show _=_;rw[j,A,hq,f,v,eH.ext_take,eH.ext_drop s 3 s.size rfl];show qh s.data.toList=(rD (s.data.toList.take 3)&&rD (s.data.toList.drop 3))
    match h:s.data.toList,a with
    |[],_=>rw[h]at i;simp at i;omega
    |c::t,a=>
     have B:c≠46:=by
      rintro rfl;simp[Lib.hasPrefix]at a
     rw[GI c t B,decide_eq_true (by rw[←h,i];exact h4),Bool.true_and]
   have m:=hid A;have F:=hid hq;have D:(3:Int)<(s.size:Int):=by omega
   clear a f v j i A hq;cases p with
   |true=>
    go_enter func178,ntmps178;go_wp2_with fail
    refine(strings_HasPrefix s ⟨#[46]⟩ _).mono ?_;rintro e z ⟨rfl,rfl⟩;rw[←x.out];go_wp2_with fail
    refine(jF X _ g).mono ?_;rintro e G ⟨rfl,d⟩;rw[←m.out];go_wp2_with fail
    refine(jF Y _ E).mono ?_;rintro e H ⟨rfl,C⟩;rw[←F.out];have n:Hid (o=q):=by show _=_;rw[y.out,Bool.true_and]
    go_wp2;go_ret;exact⟨aC n.symm,bD d C⟩
   |false=>
    have n:Hid (o=false):=by show _=_;rw[y.out,Bool.false_and]
    go_enter func178,ntmps178;go_wp2_with fail
    refine(strings_HasPrefix s ⟨#[46]⟩ _).mono ?_;rintro e z ⟨rfl,rfl⟩;rw[←x.out];go_wp2_with fail
    refine(jF X _ g).mono ?_;rintro e G ⟨rfl,d⟩;rw[←m.out];go_wp2;go_ret;exact⟨aC n.symm,d⟩
  have n:Hid (o=false):=by
   show _=_;rw[j]
   match h:s.data.toList,a with
   |[],_=>rfl
   |c::t,a=>
    have B:c≠46:=by
     rintro rfl;simp[Lib.hasPrefix]at a
    rw[GI c t B,decide_eq_false (by rw[←h,i];exact h4),Bool.false_and]
  have D:¬(3:Int)<(s.size:Int):=by omega
  clear a j i;go_enter func178,ntmps178;go_wp2_with fail
  refine(strings_HasPrefix s ⟨#[46]⟩ _).mono ?_;rintro e z ⟨rfl,rfl⟩;rw[←x.out];go_wp2;go_ret;exact⟨aC n.symm,Below.refl _ _⟩
end JM
namespace JO
open Go.RowKit Base iI oQ
def Zz (c:UInt8):Bool:=decide (c=47)||decide (c=92)||decide (c=63)||decide (c=35)
theorem XY (c:UInt8):Zz c=decide (c.toNat=47∨c.toNat=92∨c.toNat=63∨c.toNat=35):=by
 have H:∀n:Fin 256,Zz (UInt8.ofNat n.val)=decide ((UInt8.ofNat n.val).toNat=47∨(UInt8.ofNat n.val).toNat=92∨(UInt8.ofNat n.val).toNat=63∨(UInt8.ofNat n.val).toNat=35):=by decide+kernel
 have:=H ⟨c.toNat,c.toNat_lt⟩;simpa using this
theorem Rk (c:UInt8):0≤Lib.indexByte [47,92,63,35] (c.toNat:Int).toNat.toUInt8↔Zz c=true:=by
 have H:∀n:Fin 256,0≤Lib.indexByte [47,92,63,35] ((n.val:Nat):Int).toNat.toUInt8↔Zz (UInt8.ofNat n.val)=true:=by decide+kernel
 have:=H ⟨c.toNat,c.toNat_lt⟩;simpa using this
theorem Gv (L:List UInt8) (h:L.length<2):pz L=false:=by
 match L,h with
 |[],_=>rfl
 |[_],_=>rfl
theorem OX (L:List UInt8) (h:L.length=2):pz L=lq (L.take 2):=by
 match L,h with
 |[_,_],_=>rfl
theorem J6 (s:ByteArray) (h:2<s.size):pz s.data.toList=(lq (s.data.toList.take 2)&&Zz (s[2])):=by
 have d:s.data.toList.length=s.size:=Array.length_toList;have e:s.data.toList[2]'(by rw[d];exact h)=s[2]:=rfl;rw[←e];generalize s.data.toList=L at d
 match L,d with
 |[],d=>simp at d;omega
 |[_],d=>simp at d;omega
 |[_,_],d=>simp at d;omega
 |a::b::c::t,_=>rfl
theorem D9 (s:ByteArray) (w:World) (F:s.size≤1073741824):Calls prog 86 #[.string s] w fun e w'=>e=.returned (.bool (pz s.data.toList))∧w=w':=by
 have k:s.data.toList.length=s.size:=Array.length_toList;obtain⟨o,g⟩:∃o,o=pz s.data.toList:=⟨_,rfl⟩;rw[←g];by_cases h2:s.size<2
 ·have j:Hid (o=false):=by show _=_;rw[g];exact Gv _ (by rw[k];exact h2)
  have A:(s.size:Int)<2:=by omega
  clear g k h2;go_enter func86,ntmps86;go_wp2;go_ret;exact⟨aC j.symm,rfl⟩
 have A:¬(s.size:Int)<2:=by omega
 have E:2≤s.size:=by omega
 obtain⟨X,m⟩:∃X,X=s.extract 0 2:=⟨_,rfl⟩;have hx:s.extract 0 2=X:=m.symm;have f:X.data.toList=s.data.toList.take 2:=by rw[m,eH.ext_take];rfl
 obtain⟨d,l⟩:∃d,d=lq X.data.toList:=⟨_,rfl⟩;have q:=hid l;by_cases h22:s.size=2
 ·have j:Hid (o=d):=by show _=_;rw[g,l,f];exact OX _ (by rw[k];exact h22)
  have q3:((s.size:Int)==2)=true:=by simp;omega
  clear g k h2 m f l h22;cases d;all_goals
   go_enter func86,ntmps86;go_wp2_with fail
   refine(jK _ _).mono ?_;rintro e r ⟨rfl,rfl⟩;rw[←q.out];go_wp2;go_ret;exact⟨aC j.symm,rfl⟩
 have q3:((s.size:Int)==2)=false:=by simp;omega
 have C:2<s.size:=by omega
 obtain⟨c,B⟩:∃c,s[2]=c:=⟨_,rfl⟩;obtain⟨i,hi⟩:∃i,i=Zz c:=⟨_,rfl⟩;have j:Hid (o=(d&&i)):=by show _=_;rw[g,l,f,hi,←B];exact J6 s C
 clear g k h2 m f l h22;cases d with
 |false=>
  have n:Hid (o=false):=by show _=_;rw[j.out,Bool.false_and]
  clear hi;go_enter func86,ntmps86;go_wp2_with fail
  refine(jK _ _).mono ?_;rintro e r ⟨rfl,rfl⟩;rw[←q.out];go_wp2;go_ret;exact⟨aC n.symm,rfl⟩
 | true=>
  have n:Hid (o=i):=by show _=_;rw[j.out,Bool.true_and]
  obtain⟨z,t⟩:∃z,z=Lib.indexByte [47,92,63,35] (c.toNat:Int).toNat.toUInt8:=⟨_,rfl⟩;have a:(0≤z)↔i=true:=by rw[t,hi];exact Rk c
  have v:=hid t;clear hi t;cases i with
  |true=>
   have y:=a.2 rfl;clear a;go_enter func86,ntmps86;go_wp2_with fail
   refine(jK _ _).mono ?_;rintro e r ⟨rfl,rfl⟩;rw[←q.out];go_wp2_with fail
   refine(strings_IndexByte ⟨#[47,92,63,35]⟩ _ _).mono ?_;rintro e x ⟨rfl,rfl⟩;rw[show(⟨#[47,92,63,35]⟩:ByteArray).data.toList=[47,92,63,35]from rfl,←v.out];go_wp2;go_ret;exact⟨aC n.symm,rfl⟩
  |false=>
   have y:z<0:=by
    rcases Int.lt_or_le z 0 with h|h
    ·exact h
    exact absurd (a.1 h) (by decide)
   have D:¬0≤z:=by omega
   clear a;go_enter func86,ntmps86;go_wp2_with fail
   refine(jK _ _).mono ?_;rintro e r ⟨rfl,rfl⟩;rw[←q.out];go_wp2_with fail
   refine(strings_IndexByte ⟨#[47,92,63,35]⟩ _ _).mono ?_;rintro e x ⟨rfl,rfl⟩;rw[show(⟨#[47,92,63,35]⟩:ByteArray).data.toList=[47,92,63,35]from rfl,←v.out];go_wp2;go_ret;exact⟨aC ((decide_eq_false (by omega)).trans n.symm),rfl⟩
theorem lH (s:ByteArray) (w:World) (F:s.size≤1073741824):Calls prog 115 #[.string s] w fun e w'=>e=.returned (.bool (pz s.data.toList))∧w=w':=by
 have r:s.data.toList.length=s.size:=Array.length_toList;obtain⟨o,j⟩:∃o,o=pz s.data.toList:=⟨_,rfl⟩;rw[←j];by_cases h2:s.size<2
 ·have q:Hid (o=false):=by show _=_;rw[j];exact Gv _ (by rw[r];exact h2)
  have A:(s.size:Int)<2:=by omega
  clear j r h2;go_enter func115,ntmps115;go_wp2;go_ret;exact⟨aC q.symm,rfl⟩
 have A:¬(s.size:Int)<2:=by omega
 have E:2≤s.size:=by omega
 obtain⟨X,x⟩:∃X,X=s.extract 0 2:=⟨_,rfl⟩;have hx:s.extract 0 2=X:=x.symm;have f:X.data.toList=s.data.toList.take 2:=by rw[x,eH.ext_take];rfl
 obtain⟨d,t⟩:∃d,d=lq X.data.toList:=⟨_,rfl⟩;have m:=hid t;by_cases h22:s.size=2
 ·have q:Hid (o=d):=by show _=_;rw[j,t,f];exact OX _ (by rw[r];exact h22)
  have q3:((s.size:Int)==2)=true:=by simp;omega
  clear j r h2 x f t h22;cases d;all_goals
   go_enter func115,ntmps115;go_wp2_with fail
   refine(bQ _ _).mono ?_;rintro e n ⟨rfl,rfl⟩;rw[←m.out];go_wp2;go_ret;exact⟨aC q.symm,rfl⟩
 have q3:((s.size:Int)==2)=false:=by simp;omega
 have D:2<s.size:=by omega
 obtain⟨c,C⟩:∃c,s[2]=c:=⟨_,rfl⟩;obtain⟨i,hi⟩:∃i,i=Zz c:=⟨_,rfl⟩;have q:Hid (o=(d&&i)):=by show _=_;rw[j,t,f,hi,←C];exact J6 s D
 clear j r h2 x f t h22;cases d with
 |false=>
  have l:Hid (o=false):=by show _=_;rw[q.out,Bool.false_and]
  clear hi;go_enter func115,ntmps115;go_wp2_with fail
  refine(bQ _ _).mono ?_;rintro e n ⟨rfl,rfl⟩;rw[←m.out];go_wp2;go_ret;exact⟨aC l.symm,rfl⟩
 |true=>
  have l:Hid (o=i):=by show _=_;rw[q.out,Bool.true_and]
  have k:c.toNat=47∨c.toNat=92∨c.toNat=63∨c.toNat=35∨(c.toNat≠47∧c.toNat≠92∧c.toNat≠63∧c.toNat≠35):=by omega
  have a:=XY c;rw[←hi]at a;clear hi;rcases k with h|h|h|h|⟨n1,n2,n3,n4⟩
  ·have v:((c.toNat:Int)==47)=true:=by simp;omega
   have g:Hid (o=true):=by show _=_;rw[l.out,a];simp;omega
   clear a h;go_enter func115,ntmps115;go_wp2_with fail
   refine(bQ _ _).mono ?_;rintro e n ⟨rfl,rfl⟩;rw[←m.out];go_wp2;go_ret;exact⟨aC g.symm,rfl⟩
  ·have v:((c.toNat:Int)==47)=false:=by simp;omega
   have y:((c.toNat:Int)==92)=true:=by simp;omega
   have g:Hid (o=true):=by show _=_;rw[l.out,a];simp;omega
   clear a h;go_enter func115,ntmps115;go_wp2_with fail
   refine(bQ _ _).mono ?_;rintro e n ⟨rfl,rfl⟩;rw[←m.out];go_wp2;go_ret;exact⟨aC g.symm,rfl⟩
  ·have v:((c.toNat:Int)==47)=false:=by simp;omega
   have y:((c.toNat:Int)==92)=false:=by simp;omega
   have z:((c.toNat:Int)==63)=true:=by simp;omega
   have g:Hid (o=true):=by show _=_;rw[l.out,a];simp;omega
   clear a h;go_enter func115,ntmps115;go_wp2_with fail
   refine(bQ _ _).mono ?_;rintro e n ⟨rfl,rfl⟩;rw[←m.out];go_wp2;go_ret;exact⟨aC g.symm,rfl⟩
  ·have v:((c.toNat:Int)==47)=false:=by simp;omega
   have y:((c.toNat:Int)==92)=false:=by simp;omega
   have z:((c.toNat:Int)==63)=false:=by simp;omega
   have B:((c.toNat:Int)==35)=true:=by simp;omega
   have g:Hid (o=true):=by show _=_;rw[l.out,a];simp;omega
   clear a h;go_enter func115,ntmps115;go_wp2_with fail
   refine(bQ _ _).mono ?_;rintro e n ⟨rfl,rfl⟩;rw[←m.out];go_wp2;go_ret;exact⟨aC g.symm,rfl⟩
  have v:((c.toNat:Int)==47)=false:=by simp;omega
  have y:((c.toNat:Int)==92)=false:=by simp;omega
  have z:((c.toNat:Int)==63)=false:=by simp;omega
  have B:((c.toNat:Int)==35)=false:=by simp;omega
  have g:Hid (o=false):=by show _=_;rw[l.out,a];simp;omega
  clear a n1 n2 n3 n4;go_enter func115,ntmps115;go_wp2_with fail
  refine(bQ _ _).mono ?_;rintro e n ⟨rfl,rfl⟩;rw[←m.out];go_wp2;go_ret;exact⟨aC g.symm,rfl⟩
end JO
namespace mD
open Go.RowKit Base iI oQ
def keep (file:Bool):List ByteArray→Bool
 |[]=>true
 |[x]=>file&&wJ x.data.toList
 |_=>false
def iW (file:Bool) (l:List ByteArray):List ByteArray:=if keep file l then l else l.take (l.length - 1)
theorem nI (file:Bool) (l:List ByteArray):(iW file l).length=if keep file l then l.length else l.length - 1:=by
 unfold iW;split
 ·rfl
 rw[List.length_take];omega
theorem rQ (file:Bool) (A:Option Addr) (n f:Nat) (l:List ByteArray) (w:World) (h:dV w A n (l.map Value.string)) (z:n≤f) (k:f≤maxLen):
  Calls prog 133 #[.bool file,.slice A n f] w fun e w'=>e=.returned (.slice A (if keep file l then n else n - 1) f)∧w=w':=by
 unfold maxLen at k;have c:l.length=n:=by rw[←h.1,List.length_map]
 obtain⟨m,d⟩:∃m,m=if keep file l then n else n - 1:=⟨_,rfl⟩
 rw[←d]
 match l,c with
 |[],c=>
  obtain rfl:n=0:=by simpa using c.symm
  obtain rfl:m=0:=by rw[d];rfl
  clear d c h;go_enter func133,ntmps133;go_wp2;go_ret;exact⟨rfl,rfl⟩
 | [x],c=>
  obtain rfl:n=1:=by simpa using c.symm
  obtain⟨g,i,rfl,B,a⟩:=h.spot (by omega);have q:=a 0 (by simp);rw[Nat.add_zero]at q;replace q:w.cell? ⟨g,i,none⟩=some (.string x):=q;cases file with
  |false=>
   obtain rfl:m=0:=by rw[d];rfl
   clear d c h a;go_enter func133,ntmps133;go_wp2;go_ret;exact⟨rfl,rfl⟩
  |true=>
   obtain⟨b,s⟩:∃b,b=wJ x.data.toList:=⟨_,rfl⟩;have j:Hid (m=if b then 1 else 0):=by
    show _=_;rw[d,s];simp[keep]
   have t:=hid s;clear d c h a s;cases b with
   |true=>
    obtain rfl:m=1:=j.out;go_enter func133,ntmps133;go_wp2_with fail
    refine(yQ x _).mono ?_;rintro e v ⟨rfl,rfl⟩;rw[←t.out];go_wp2;go_ret;exact⟨rfl,rfl⟩
   |false=>
    obtain rfl:m=0:=j.out;go_enter func133,ntmps133;go_wp2_with fail
    refine(yQ x _).mono ?_;rintro e v ⟨rfl,rfl⟩;rw[←t.out];go_wp2;go_ret;exact⟨rfl,rfl⟩
 |x::y::r,c=>
  have E:2≤n:=by rw[←c];simp
  have j:Hid (m=n - 1):=by show _=_;rw[d];rfl
  have D:((n:Int)==0)=false:=by simp;omega
  have C:((n:Int)==1)=false:=by simp;omega
  obtain⟨g,i,rfl,B,a⟩:=h.spot (by omega);have q3:((n:Int) - 1).toNat=m:=by have:=j.out;omega
  clear d c h a;cases file;all_goals
   go_enter func133,ntmps133;go_wp2;go_ret;exact⟨by first|rfl|simp[q3],rfl⟩
end mD
namespace JQ
open Go.RowKit Base bf iI oQ
def wr (first:Bool) (L:List UInt8):List UInt8:=if first&&lq L then L.take 1++[58]else aG.enc 4 L
theorem xA (first:Bool) (s:ByteArray) (w:World) (l:s.size≤1073741824):
  Calls prog 180 #[.bool first,.string s] w fun e w'=>e=.returned (.string (ah (wr first s.data.toList)))∧Below w.heap.size w w':=by
 obtain⟨d,a⟩:∃d,d=lq s.data.toList:=⟨_,rfl⟩;obtain⟨R,g⟩:∃R,R=wr first s.data.toList:=⟨_,rfl⟩;rw[←g];have m:=hid a;cases first with
 | true=>
  cases d with
  |true=>
   have r:s.size=2:=by
    have:=zG _ a.symm;rw[show s.data.toList.length=s.size from Array.length_toList]at this;exact this
   obtain⟨X,k⟩:∃X,X=s.extract 0 1:=⟨_,rfl⟩;have hx:s.extract 0 1=X:=k.symm;have i:X=ah (s.data.toList.take 1):=by rw[k,eH.ext_take]
   have j:R=s.data.toList.take 1++[58]:=by rw[g];unfold wr;rw[←a];rfl
   have x:∀w:World,(Op.stringOp .add X ⟨#[58]⟩).run prog w=.ok (.string (ah R)) w:=fun w=>by
    rw[i,j];exact iY _ ⟨#[58]⟩ w (by rw[ak,List.length_take];show _+1≤_;omega)
   have v:(1:Int)≤(s.size:Int):=by omega
   have t:1≤s.size:=by omega
   clear a g k i j r;go_enter func180,ntmps180;go_wp2_with fail
   refine(jK s _).mono ?_;rintro e q ⟨rfl,rfl⟩;rw[←m.out];go_wp2;go_ret;exact⟨rfl,Below.refl _ _⟩
  |false=>
   have h:Hid (R=aG.enc 4 s.data.toList):=by show _=_;rw[g];unfold wr;rw[←a];rfl
   have c:=fun(w:World) s=>run_bytes_of_string (P:=prog) w 9 50 5 s underlying9 underlying50 underlying5;clear a g;go_enter func180,ntmps180;go_wp2_with fail
   refine(jK s _).mono ?_;rintro e q ⟨rfl,rfl⟩;rw[←m.out];go_wp2_with fail
   clear c;refine(aG.gq 4 _ _ _ s.data.toList _ (jq s _ w _) l).mono ?_;rintro e n ⟨rfl,f⟩;rw[←h.out];go_wp2;go_ret;exact⟨rfl,bD (((Below.refl w.heap.size w).alloc (Nat.le_refl _) _).drew) f⟩
 |false=>
  have h:Hid (R=aG.enc 4 s.data.toList):=by show _=_;rw[g];rfl
  have c:=fun(w:World) s=>run_bytes_of_string (P:=prog) w 9 50 5 s underlying9 underlying50 underlying5;clear a g;go_enter func180,ntmps180;go_wp2_with fail
  clear c;refine(aG.gq 4 _ _ _ s.data.toList _ (jq s _ w _) l).mono ?_;rintro e n ⟨rfl,f⟩;rw[←h.out];go_wp2;go_ret;exact⟨rfl,bD (((Below.refl w.heap.size w).alloc (Nat.le_refl _) _).drew) f⟩
end JQ
namespace jR
open Go.RowKit Base bf iI mg JM mD JQ
theorem iT:(prog.info? 9).map (fun i=>(i.zero,i.size,i.bytes))=some (some (.string ByteArray.empty),1,16):=by kernel_rfl
theorem RH {w:World} {B:Nat} {e:TypeId} {A:Option Addr} {n a:Nat} {i:List Value} (h:w.ownsRow B e 1 (.slice A n a) n i) (m:Nat) (q:m≤n):w.ownsRow B e 1 (.slice A m a) m (i.take m):=by
 obtain⟨r,h⟩:=h;rw[Nat.mul_one]at r;refine⟨by rw[List.length_take];omega,?_⟩;rcases h with⟨c,v⟩|⟨g,k,f,c,s,hh,t,d,l,j⟩
 ·injection c with h1 h2 h3
  obtain rfl:m=0:=by omega
  exact .inl ⟨by rw[h1,h3],rfl⟩
 injection c with h1 h2 h3
 subst h3;refine .inr ⟨g,a,f,by rw[h1],s,hh,by omega,d,l,?_⟩;rw[Nat.mul_one]at j⊢;rw[←j,List.take_take,Nat.min_eq_left q]
def rW (file last:Bool) (l:List ByteArray) (L:List UInt8):List ByteArray:=
 if qh L then(if last then iW file l++[ah []]else iW file l)else if rD L then(if last then l++[ah []]else l)else l++[ah (wr (file&&l.isEmpty) L)]
def jY (B:Nat) (w:World) (l:List ByteArray) (e:Ending) (w':World):Prop:=∃v,e=.returned v∧w'.ownsRow B 9 1 v l.length (l.map Value.string)∧Below B w w'
theorem Md (file z:Bool) (B:Nat) (v:Value) (l:List ByteArray) (s:ByteArray) (w:World) (q:w.ownsRow B 9 1 v l.length (l.map Value.string)) (H:B≤w.heap.size) (hl:l.length≤1000000) (T:s.size≤1073741824):
  Calls prog 155 #[.bool file,.bool z,v,.string s] w (jY B w (rW file z l s.data.toList)):=by
 obtain⟨i0,hi,L,J,I⟩:=info_parts iT;obtain⟨A,a0,rfl,a1,a6,hR⟩:=aS q;obtain⟨n,F⟩:∃n,n=l.length:=⟨_,rfl⟩;rw[←F]at q hl a1 hR⊢;obtain⟨S,O⟩:∃S,S=rW file z l s.data.toList:=⟨_,rfl⟩;rw[←O];have HN:=hid F;obtain⟨d,N⟩:∃d,d=qh s.data.toList:=⟨_,rfl⟩;have HD:=hid N;cases d with
 |true=>
  obtain⟨m,hm⟩:∃m,m=if keep file l then n else n - 1:=⟨_,rfl⟩
  have a8:m≤n:=by rw[hm];split<;>omega
  have E:iW file l=l.take m:=by
   unfold iW;rw[hm];split
   ·rw[List.take_of_length_le (by omega)]
   ·rw[F]
  have a2:(l.take m).length=m:=by rw[List.length_take];omega
  have x:=RH q m a8;rw[←List.map_take]at x;have Q:=hid x;have HR:=hid hR;have HM:=hid hm;have a7:=hid a2;cases z with
  |false=>
   have t:Hid (S=l.take m):=by show _=_;rw[O];unfold rW;rw[←N,if_pos rfl,if_neg (by decide),E]
   clear q x hR hm E O N F a2;go_enter func155,ntmps155;go_wp2_with fail
   refine(lU s _ T).mono ?_;rintro e X ⟨rfl,h⟩;rw[←HD.out];go_wp2_with fail
   refine(rQ file A n a0 l _ (HR.below h) a1 a6).mono ?_;rintro e W ⟨rfl,rfl⟩;rw[←HM.out];have G:Hid (jY B w S (.returned (.slice A m a0)) X):=⟨_,rfl,by rw[t.out,a7.out];exact aZ Q h,h.mono H⟩;go_wp2;go_ret;exact G
  |true=>
   have t:Hid (S=l.take m++[ah []]):=by show _=_;rw[O];unfold rW;rw[←N,if_pos rfl,if_pos rfl,E]
   clear q x hR hm E O N F a2;go_enter func155,ntmps155;go_wp2_with fail
   refine(lU s _ T).mono ?_;rintro e X ⟨rfl,h⟩;rw[←HD.out];go_wp2_with fail
   refine(rQ file A n a0 l _ (HR.below h) a1 a6).mono ?_;rintro e W ⟨rfl,rfl⟩;rw[←HM.out];have c:=aZ Q h;have i:Below B w X:=h.mono H;have y:B≤X.heap.size:=Nat.le_trans H h.size;go_wp2_with (at_builtin;refine bJ rfl _ _ 23 rfl B 9 i0 (.string ByteArray.empty) 16 underlying23 hi L J I rfl _ m _ rfl c i y [.string (ah [])] 1 rfl rfl (by intro u D;simp at D;subst D;rfl) (by unfold maxLen;omega) (by omega) ?_)
   intro Y V a j;have G:Hid (jY B w S (.returned Y) V):=⟨_,rfl,by rw[t.out,List.length_append,List.map_append,a7.out,List.map_take];exact a,j⟩;clear c a i;go_wp2;go_ret;exact G
 | false=>
  obtain⟨g,hg⟩:∃g,g=rD s.data.toList:=⟨_,rfl⟩;have HG:=hid hg;have Z:s.size≤maxLen:=by unfold maxLen;omega
  have P:=hid Z;have C:=hid q;cases g with
  |true=>
   cases z with
   |false=>
    have t:Hid (S=l):=by show _=_;rw[O];unfold rW;rw[←N,if_neg (by decide),←hg,if_pos rfl,if_neg (by decide)]
    clear q hR O N hg F Z;go_enter func155,ntmps155;go_wp2_with fail
    refine(lU s _ T).mono ?_;rintro e X ⟨rfl,h⟩;rw[←HD.out];go_wp2_with fail
    refine(jF s _ P).mono ?_;rintro e W ⟨rfl,k⟩;rw[←HG.out];have G:Hid (jY B w S (.returned (.slice A n a0)) W):=⟨_,rfl,by rw[t.out,←HN.out];exact aZ (aZ C h) k,(bD h k).mono H⟩;go_wp2;go_ret;exact G
   |true=>
    have t:Hid (S=l++[ah []]):=by show _=_;rw[O];unfold rW;rw[←N,if_neg (by decide),←hg,if_pos rfl,if_pos rfl]
    clear q hR O N hg F Z;go_enter func155,ntmps155;go_wp2_with fail
    refine(lU s _ T).mono ?_;rintro e X ⟨rfl,h⟩;rw[←HD.out];go_wp2_with fail
    refine(jF s _ P).mono ?_;rintro e W ⟨rfl,k⟩;rw[←HG.out];have c:=aZ (aZ C h) k;have i:Below B w W:=(bD h k).mono H;have y:B≤W.heap.size:=Nat.le_trans H (Nat.le_trans h.size k.size);go_wp2_with (at_builtin;refine bJ rfl _ _ 23 rfl B 9 i0 (.string ByteArray.empty) 16 underlying23 hi L J I rfl _ n _ rfl c i y [.string (ah [])] 1 rfl rfl (by intro u D;simp at D;subst D;rfl) (by unfold maxLen;omega) (by omega) ?_)
    intro Y V a j;have G:Hid (jY B w S (.returned Y) V):=⟨_,rfl,by rw[t.out,List.length_append,List.map_append,←HN.out];exact a,j⟩;clear c a i;go_wp2;go_ret;exact G
  | false=>
   obtain⟨f,hf⟩:∃f,f=(file&&l.isEmpty):=⟨_,rfl⟩;obtain⟨R,a4⟩:∃R,R=ah (wr f s.data.toList):=⟨_,rfl⟩;have t:Hid (S=l++[R]):=by show _=_;rw[O];unfold rW;rw[←N,if_neg (by decide),←hg,if_neg (by decide),←hf,a4]
   have a5:=hid a4;have a3:(file=false∧f=false)∨(file=true∧n=0∧f=true)∨(file=true∧n≠0∧f=false):=by
    cases file with
    |false=>exact .inl ⟨rfl,by rw[hf];rfl⟩
    |true=>
     match l,F with
     |[],F=>exact .inr (.inl ⟨rfl,by simpa using F,by rw[hf];rfl⟩)
     |_::_,F=>exact .inr (.inr ⟨rfl,by simp at F;omega,by rw[hf];rfl⟩)
   clear q hR O N hg F Z hf a4;rcases a3 with⟨rfl,rfl⟩|⟨rfl,h0,rfl⟩|⟨rfl,h0,rfl⟩
   ·go_enter func155,ntmps155;go_wp2_with fail
    refine(lU s _ T).mono ?_;rintro e X ⟨rfl,h⟩;rw[←HD.out];go_wp2_with fail
    refine(jF s _ P).mono ?_;rintro e W ⟨rfl,k⟩;rw[←HG.out];go_wp2_with fail
    refine(xA _ s _ T).mono ?_;rintro e w5 ⟨rfl,r⟩;rw[←a5.out];have c:=aZ (aZ (aZ C h) k) r;have i:Below B w w5:=(bD (bD h k) r).mono H;have y:B≤w5.heap.size:=Nat.le_trans H (Nat.le_trans h.size (Nat.le_trans k.size r.size));go_wp2_with (at_builtin;refine bJ rfl _ _ 23 rfl B 9 i0 (.string ByteArray.empty) 16 underlying23 hi L J I rfl _ n _ rfl c i y [.string R] 1 rfl rfl (by intro u D;simp at D;subst D;rfl) (by unfold maxLen;omega) (by omega) ?_)
    intro Y V a j;have G:Hid (jY B w S (.returned Y) V):=⟨_,rfl,by rw[t.out,List.length_append,List.map_append,←HN.out];exact a,j⟩;clear c a i;go_wp2;go_ret;exact G
   ·have q0:((n:Int)==0)=true:=by simp;omega
    clear h0;go_enter func155,ntmps155;go_wp2_with fail
    refine(lU s _ T).mono ?_;rintro e X ⟨rfl,h⟩;rw[←HD.out];go_wp2_with fail
    refine(jF s _ P).mono ?_;rintro e W ⟨rfl,k⟩;rw[←HG.out];go_wp2_with fail
    refine(xA _ s _ T).mono ?_;rintro e w5 ⟨rfl,r⟩;rw[←a5.out];have c:=aZ (aZ (aZ C h) k) r;have i:Below B w w5:=(bD (bD h k) r).mono H;have y:B≤w5.heap.size:=Nat.le_trans H (Nat.le_trans h.size (Nat.le_trans k.size r.size));go_wp2_with (at_builtin;refine bJ rfl _ _ 23 rfl B 9 i0 (.string ByteArray.empty) 16 underlying23 hi L J I rfl _ n _ rfl c i y [.string R] 1 rfl rfl (by intro u D;simp at D;subst D;rfl) (by unfold maxLen;omega) (by omega) ?_)
    intro Y V a j;have G:Hid (jY B w S (.returned Y) V):=⟨_,rfl,by rw[t.out,List.length_append,List.map_append,←HN.out];exact a,j⟩;clear c a i;go_wp2;go_ret;exact G
   ·have q0:((n:Int)==0)=false:=by simp;omega
    clear h0;go_enter func155,ntmps155;go_wp2_with fail
    refine(lU s _ T).mono ?_;rintro e X ⟨rfl,h⟩;rw[←HD.out];go_wp2_with fail
    refine(jF s _ P).mono ?_;rintro e W ⟨rfl,k⟩;rw[←HG.out];go_wp2_with fail
    refine(xA _ s _ T).mono ?_;rintro e w5 ⟨rfl,r⟩;rw[←a5.out];have c:=aZ (aZ (aZ C h) k) r;have i:Below B w w5:=(bD (bD h k) r).mono H;have y:B≤w5.heap.size:=Nat.le_trans H (Nat.le_trans h.size (Nat.le_trans k.size r.size));go_wp2_with (at_builtin;refine bJ rfl _ _ 23 rfl B 9 i0 (.string ByteArray.empty) 16 underlying23 hi L J I rfl _ n _ rfl c i y [.string R] 1 rfl rfl (by intro u D;simp at D;subst D;rfl) (by unfold maxLen;omega) (by omega) ?_)
    intro Y V a j;have G:Hid (jY B w S (.returned Y) V):=⟨_,rfl,by rw[t.out,List.length_append,List.map_append,←HN.out];exact a,j⟩;clear c a i;go_wp2;go_ret;exact G
end jR
namespace ug
open Go.RowKit Base iw mD jR
theorem kK (l:List ByteArray):∀u ∈ l.map Value.string,u.oneCell'=true:=by
 intro u a;simp only[List.mem_map]at a;obtain⟨s,_,rfl⟩:=a;rfl
theorem uo (A:Option Addr) (n g:Nat) (l:List ByteArray) (w:World) (h:dV w A n (l.map Value.string)) (C:n≤1000000):
  Calls prog 103 #[.slice A n g] w (jY w.heap.size w l):=by
 have j:l.length=n:=by rw[←h.1,List.length_map]
 have v:=hid h;clear h;obtain⟨z,hi,q,m,k⟩:=info_parts iT;have t:=fun(W:World)=>Lib.run_eql_slice_nil (P:=prog) W 23 9 A n g 0 0 underlying23;cases A with
 | none=>
  have i:n=0:=by
   rcases Nat.eq_zero_or_pos n with i|i
   ·exact i
   ·obtain⟨_,_,e,_⟩:=v.spot i;cases e
  subst i;obtain rfl:l=[]:=List.eq_nil_of_length_eq_zero j;have r:Hid (jY w.heap.size w [] (.returned (.slice none 0 0)) w):=⟨_,rfl,World.ownsRow_nil _ _ _ _,Below.refl _ _⟩;clear j;go_enter func103,ntmps103;go_wp2;go_ret;exact r
 |some ad=>
  have c:(w.alloc (.cells #[] 9)).ownsRow w.heap.size 9 1 (.slice (some ⟨w.heap.size,0,none⟩) 0 0) 0 []:=World.ownsRow_made w #[] 0 (Nat.le_refl _) (by decide) rfl;have a:Below w.heap.size w (w.alloc (.cells #[] 9)):=(Below.refl _ _).alloc (Nat.le_refl _) _;have s:Hid (dV (w.alloc (.cells #[] 9)) (some ad) n (l.map Value.string)):=v.below a;have B:=hid j;clear j;go_enter func103,ntmps103;go_wp2_with (at_builtin;refine gX rfl _ _ 23 rfl w.heap.size 9 z (.string ByteArray.empty) 16 underlying23 hi q m k rfl _ 0 [] rfl c a a.size (some ad) n g (l.map Value.string) rfl s (kK _) (by unfold maxLen;omega) (by omega) ?_)
  intro y x d f;have r:Hid (jY w.heap.size w l (.returned y) x):=⟨_,rfl,by rw[B.out];simpa using d,f⟩;clear c a d;go_wp2;go_ret;exact r
theorem Jd {w:World} {A:Option Addr} {n:Nat} {l:List ByteArray} (file:Bool) (a:dV w A n (l.map Value.string)):dV w A (if keep file l then n else n - 1) ((iW file l).map Value.string):=by
 have d:l.length=n:=by rw[←a.1,List.length_map]
 unfold iW;cases e:keep file l with
 |true=>simpa using a
 |false=>
  rcases Nat.eq_zero_or_pos n with h0|h0
  ·obtain rfl:l=[]:=List.eq_nil_of_length_eq_zero (by omega);cases e
  obtain⟨g,c,rfl,_⟩:=a.spot h0;have:=a.upto (n - 1) (by omega);rw[if_neg (by decide),if_neg (by decide),List.map_take,d];exact this
theorem wZ (file:Bool) (A:Option Addr) (n a:Nat) (l:List ByteArray) (w:World) (j:dV w A n (l.map Value.string)) (f:n≤a) (h:a≤maxLen) (y:n≤1000000):
  Calls prog 88 #[.bool file,.slice A n a] w (jY w.heap.size w (iW file l)):=by
 have s:=hid (Jd file j);have t:=hid j;obtain⟨m,d⟩:∃m,m=if keep file l then n else n - 1:=⟨_,rfl⟩
 have g:m≤1000000:=by rw[d];split<;>omega
 have k:=hid d;clear j d;go_enter func88,ntmps88;go_wp2_with fail
 refine(rQ file A n a l _ t f h).mono ?_;rintro e x ⟨rfl,rfl⟩;rw[←k.out];go_wp2_with fail
 refine(uo A m a (iW file l) _ (by rw[k.out];exact s) g).mono ?_;rintro e q ⟨v,rfl,c,i⟩;have r:Hid (jY w.heap.size w (iW file l) (.returned v) q):=⟨v,rfl,c,i⟩;clear c;go_wp2;go_ret;exact r
end ug
