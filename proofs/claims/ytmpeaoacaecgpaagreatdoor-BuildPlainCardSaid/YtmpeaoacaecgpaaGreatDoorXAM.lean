/- Texts that belong together: WJ, J5, acK, ND, BuiA, mW, Ce, TokU, Zu, AggN. -/
import Derived.Test.YtmpeaoacaecgpaaGreatDoorXAL
import Derived.Test.YtmpeaoacaecgpaaGreatDoorXAH
import Derived.Laws.StructEq
import Derived.Test.YtmpeaoacaecgpaaGreatDoorXAI
import Derived.Test.YtmpeaoacaecgpaaGreatDoorXAE
import Derived.Test.YtmpeaoacaecgpaaGreatDoorShelf
import Derived.Test.YtmpeaoacaecgpaaGreatDoorXAK
import Derived.Test.YtmpeaoacaecgpaaGreatDoorXAA
import Derived.Test.YtmpeaoacaecgpaaGreatDoorXAC
import Derived.Test.YtmpeaoacaecgpaaGreatDoorXAD
import Derived.Laws.IdiomArrays
import Derived.OpenShut
import Derived.Lib.SmallJoins
set_option linter.unusedSimpArgs false
set_option linter.unusedVariables false
set_option maxRecDepth 100000
set_option maxHeartbeats 64000000
namespace Go.Proofs.YtmpeaoacaecgpaaGreatDoor.WJ
open Go.RowKit Base Base2 cO oO wu O5 gU jQ WU nP akq HstP Zo pO
theorem Ov (f:Nat→Nat):am8 (V8 f)=nP.prt f:=by
 unfold am8 nP.prt zs
 rfl
theorem akO (M:Nat):∀(ps:List (List UInt8)) (most acc n:Nat),ps≠[]→mZ most acc ps=some n→acc+most≤M→n<M
 |[],_,_,_,h,_,_=>absurd rfl h
 |[p],most,acc,n,_,h,hM=>by
  unfold mZ at h
  split at h
  ·split at h
   ·injection h with h;omega
   ·cases h
  ·cases h
 | p :: q :: r, most, acc, n, _, h, hM => by
  unfold mZ at h
  split at h
  ·rename_i v _
   split at h
   ·refine akO M (q::r) (most / 256) (acc+v*(most / 256)) n (by simp) h ?_
    have h1:v*(most / 256)≤255*(most / 256):=Nat.mul_le_mul_right _ (by omega)
    have h2:256*(most / 256)≤most:=Nat.mul_div_le most 256
    omega
   ·cases h
  ·cases h
theorem Ri {L:List UInt8} {n:Nat} (h:NR L=some n):n<4294967296:=by
 unfold NR at h
 split at h
 ·exact akO 4294967296 _ _ _ _ (qY _) h (by omega)
 cases h
theorem Sm (L:List UInt8):(Lib.trimSuffix L [93]).length≤L.length:=by
 unfold Lib.trimSuffix
 split
 ·rw[List.length_take];omega
 exact Nat.le_refl _
theorem agb (f:Nat→Nat):(nP.prt f).length≤100:=by
 unfold nP.prt
 have h1:=KQ (V8 f)
 have h2:=KQ ((V8 f).take (Bz (zs f)).1)
 have h3:=KQ ((V8 f).drop (Bz (zs f)).2)
 have h8:(V8 f).length=8:=rfl
 rw[List.length_take]at h2
 rw[List.length_drop]at h3
 split
 ·omega
 simp only[List.length_append,List.length_cons,List.length_nil]
 omega
theorem aeb (e:Bool):∀{ps:List (List UInt8)} {l:List Nat},iT e ps=some l→∀x ∈ l,x<65536
 |[],l,h=>by injection h with h;subst h;intro x hx;simp at hx
 | p ::r,l,h=>by
  rw[iT]at h
  split at h
  ·obtain⟨a,b,rfl⟩:=Yi h
   have:=SixF.Rl h
   intro x hx
   simp at hx
   rcases hx with rfl|rfl
   ·exact this.1
   ·exact this.2
  ·split at h
   ·cases h
   ·rename_i n hn
    split at h
    ·cases h
    ·rename_i x e2
     injection h with h
     subst h
     intro y hy
     rcases List.mem_cons.1 hy with rfl|hy
     ·exact amW hn
     ·exact aeb e e2 y hy
theorem six_lt {s:List UInt8} {V:List Nat} (h:six s=some V):∀x ∈ V,x<65536:=by
 have hside:∀(e:Bool) (ps:List (List UInt8)) (l:List Nat),gJ e ps=some l→∀x ∈ l,x<65536:=by
  intro e ps l h
  unfold gJ at h
  split at h
  ·injection h with h;subst h;intro x hx;simp at hx
  exact aeb e h
 unfold six at h
 split at h
 ·unfold wu.eight at h
  split at h
  ·rename_i a ha
   split at h
   ·injection h with h
    subst h
    rw[List.nil_append]
    exact aeb true ha
   cases h
  cases h
 unfold both at h
 split at h
 ·rename_i a b ha hb
  split at h
  ·injection h with h
   subst h
   intro x hx
   unfold fill at hx
   simp only[List.nil_append,List.mem_append,List.mem_replicate]at hx
   rcases hx with(hx|hx)|hx
   ·exact hside _ _ _ ha x hx
   ·omega
   exact hside _ _ _ hb x hx
  cases h
 cases h
theorem Yw {s:List UInt8} {V:List Nat} (h:six s=some V):∃f:Nat→Nat,V=V8 f∧∀i,f i<65536:=by
 refine⟨fun i=>V.getD i 0,Bv (six_len h),fun i=>?_⟩
 rcases Nat.lt_or_ge i V.length with hi|hi
 ·show V.getD i 0<_
  rw[List.getD_eq_getElem?_getD,List.getElem?_eq_getElem hi]
  exact six_lt h _ (List.getElem_mem hi)
 show V.getD i 0<_
 rw[List.getD_eq_getElem?_getD,List.getElem?_eq_none hi]
 simp
theorem ZI (s:ByteArray) (w:World) (hs:s.size≤1048576) (hL:oI w) (hM:Max w):Calls Tryz.prog 288 #[.string s] w fun e w'=>e=.returned (HV (hbr s.data.toList))∧Below w.heap.size w w':=by
 have HL:=hid hL
 have HM:=hid hM
 obtain⟨I,hI⟩:∃I:ByteArray,I=strOf (Lib.trimSuffix s.data.toList [93]):=⟨_,rfl⟩
 have hIs:I.size≤1048576:=by
  rw[hI,size_strOf]
  have:=Sm s.data.toList
  have:s.data.toList.length=s.size:=Array.length_toList
  omega
 have hcs:=fun w=>Tryz.strings_CutSuffix s ⟨#[93]⟩ w (by omega)
 rw[show(⟨#[93]⟩:ByteArray).data.toList=[93]from rfl,show(⟨(Lib.trimSuffix s.data.toList [93]).toArray⟩:ByteArray)=I from hI.symm]at hcs
 have hId:I.data.toList=Lib.trimSuffix s.data.toList [93]:=by rw[hI];rfl
 have hb:hbr s.data.toList=if Lib.hasSuffix s.data.toList [93]=true then addr I.data.toList else none:=by rw[hId];rfl
 obtain⟨H,hH⟩:∃H,H=HV (hbr s.data.toList):=⟨_,rfl⟩
 rw[←hH]
 rw[hb]at hH
 clear hI hId hb hL hM
 cases hsf:Lib.hasSuffix s.data.toList [93]with
 |false=>
  rw[hsf]at hcs hH
  have HE:Hid (H=.tuple #[.string (strOf []),.bool false]):=by show _=_;rw[hH];rfl
  have HC:=hid hcs
  clear hcs hH hsf
  go_enter Tryz.func288,Tryz.ntmps288
  go_wp2_with fail
  refine(HC.out _).mono ?_
  rintro e w1 ⟨rfl,hww⟩
  obtain rfl:w=w1:=hww.symm
  go_wp2
  go_ret2
  exact⟨by rw[HE.out];rfl,Below.refl _ _⟩
 | true=>
  rw[hsf]at hcs hH
  rw[if_pos rfl]at hH
  have HC:=hid hcs
  clear hcs hsf
  have hpa:=fun w hM=>parse_any I w hIs hM
  cases hv:six I.data.toList with
  |none=>
   have HE:Hid (H=.tuple #[.string (strOf []),.bool false]):=by show _=_;rw[hH];unfold addr;rw[hv];rfl
   rw[hv]at hpa
   obtain⟨f,hf⟩:∃f:Nat→Nat,V8 f=oJ:=⟨fun _=>0,rfl⟩
   have uQ:Hid (acQ none=.tuple #[.agg #[.int .u16 (f 0:Int),.int .u16 (f 1:Int),.int .u16 (f 2:Int),.int .u16 (f 3:Int),.int .u16 (f 4:Int),.int .u16 (f 5:Int),.int .u16 (f 6:Int),.int .u16 (f 7:Int)],.bool false]):=by
    show acQ none=.tuple #[.agg (aT (V8 f)).toArray,.bool false]
    rw[hf]
    rfl
   rw[uQ.out]at hpa
   have HP:=hid hpa
   clear hpa hv hH hIs hf
   go_enter Tryz.func288,Tryz.ntmps288
   go_wp2_with fail
   refine(HC.out _).mono ?_
   rintro e w1 ⟨rfl,hww⟩
   obtain rfl:w=w1:=hww.symm
   go_wp2_with fail
   refine(HP.out _ HM.out).mono ?_
   rintro e w2 ⟨rfl,hb2⟩
   have HB2:=hid hb2
   clear hb2
   go_wp2
   go_ret2
   exact⟨by rw[HE.out];rfl,HB2.out.alloc HB2.out.size _⟩
  |some V=>
   obtain⟨f,rfl,h6⟩:=Yw hv
   have hE:H=.tuple #[.string (strOf (91::(nP.prt f++[93]))),.bool true]:=by rw[hH];unfold addr;rw[hv,←Ov];rfl
   rw[hv]at hpa
   have uQ:Hid (acQ (some (V8 f))=.tuple #[.agg #[.int .u16 (f 0:Int),.int .u16 (f 1:Int),.int .u16 (f 2:Int),.int .u16 (f 3:Int),.int .u16 (f 4:Int),.int .u16 (f 5:Int),.int .u16 (f 6:Int),.int .u16 (f 7:Int)],.bool true]):=rfl
   rw[uQ.out]at hpa
   have HP:=hid hpa
   obtain⟨P,hP⟩:∃P,P=strOf (nP.prt f):=⟨_,rfl⟩
   have UA:Hid (∀w,oI w→Calls Tryz.prog 324 #[A8 f] w fun e w'=>e=.returned (.string P)∧Below w.heap.size w w'):=by
    show ∀w,_
    rw[hP]
    exact fun w hL=>nP.print_any f h6 w hL
   obtain⟨Y,hY⟩:∃Y,Y=strOf (91::nP.prt f):=⟨_,rfl⟩
   obtain⟨Z,hZ⟩:∃Z,Z=strOf (91::(nP.prt f++[93])):=⟨_,rfl⟩
   rw[←hZ]at hE
   have hpl:=agb f
   have a1:∀w:World,(Op.stringOp .add ⟨#[91]⟩ P).run Tryz.prog w=.ok (.string Y) w:=fun w=>by
    rw[hY,hP]
    exact str_add [91] _ w (by simp;omega)
   have a2:∀w:World,(Op.stringOp .add Y ⟨#[93]⟩).run Tryz.prog w=.ok (.string Z) w:=fun w=>by
    rw[hZ,hY]
    exact str_add (91::nP.prt f) [93] w (by simp;omega)
   have HE:=hid hE
   clear hpa hv hH hIs hE hP hY hZ hpl h6 uQ
   go_enter Tryz.func288,Tryz.ntmps288
   go_wp2_with fail
   refine(HC.out _).mono ?_
   rintro e w1 ⟨rfl,hww⟩
   obtain rfl:w=w1:=hww.symm
   go_wp2_with fail
   refine(HP.out _ HM.out).mono ?_
   rintro e w2 ⟨rfl,hb2⟩
   have HB2:=hid hb2
   clear hb2
   go_upto_region 5 with(fail)
   generalize hw3:w2.alloc _=w3
   have HB3:Hid (Below w.heap.size w w3):=by
    show Below _ _ _
    rw[←hw3]
    exact HB2.out.alloc HB2.out.size _
   have jI:Hid (Box w3 w2.heap.size 290 (V8 f)):=by
    show Box _ _ _ _
    rw[←hw3]
    exact Xo f
   clear hw3
   obtain⟨c0,c1,c2,c3,c4,c5,c6,c7⟩:=dK jI.out f rfl
   go_wp2_with fail
   clear c0 c1 c2 c3 c4 c5 c6 c7
   refine(UA.out _ (HL.out.below HB3.out)).mono ?_
   rintro e w4 ⟨rfl,hb4⟩
   have HB4:=hid (bel HB3.out hb4)
   clear hb4
   go_wp2
   go_ret2
   exact⟨by rw[HE.out];rfl,HB4.out⟩
end Go.Proofs.YtmpeaoacaecgpaaGreatDoor.WJ
namespace Go.Proofs.YtmpeaoacaecgpaaGreatDoor.J5
open Go.RowKit Base dI cO oO wu WU akq HstP WJ
theorem dn {p:UInt8→Prop} [∀c,Decidable (p c)] (h:∀n:Fin 256,p (UInt8.ofNat n.val)) (c:UInt8):p c:=by
 have:=h ⟨c.toNat,c.toNat_lt⟩
 simpa using this
theorem aaA {s:List UInt8} {sp:Bool} {R:List UInt8} (h:hst s sp=some R):R.length≤3*s.length+200:=by
 unfold hst at h
 split at h
 ·unfold hbr at h
  split at h
  ·unfold addr at h
   split at h
   ·cases h
   injection h with h
   subst h
   simp only[List.length_cons,List.length_append,List.length_nil]
   unfold am8
   rename_i V _
   have:=agb (fun i=>V.getD i 0)
   omega
  cases h
 split at h
 ·unfold SL at h
  split at h
  ·unfold XB at h
   split at h
   ·cases h
   split at h
   ·cases hp:NR (lower (fU.dec s))with
    |none=>rw[hp]at h;cases h
    |some n=>
     rw[hp]at h
     injection h with h
     subst h
     have:=Gl.pr_len n (Ri hp)
     omega
   injection h with h
   subst h
   have:=fU.ku s
   simp[lower]
   omega
  cases h
 unfold zA at h
 split at h
 ·injection h with h
  subst h
  have:=EscE.iW 0 s
  omega
 cases h
end Go.Proofs.YtmpeaoacaecgpaaGreatDoor.J5
namespace Go.Proofs.YtmpeaoacaecgpaaGreatDoor.acK
open Go.RowKit Base zD qh BI acU acr cO PthP PthE PthG PthJ UrlA HstP PrsP agU
theorem abk (x:UInt8) (t:List UInt8) (h:x.toNat≤127):rd (x::t)=((x.toNat:Int),1,true):=by
 simp only[rd]
 rw[if_pos (by omega)]
theorem ahi (x:UInt8) (t:List UInt8) (h:x.toNat≤127):dec (x::t)=(x.toNat:Int)::dec t:=by
 rw[iK,abk x t h]
 rfl
theorem E5 (x:UInt8) (b:List UInt8) (hx:x.toNat≤127):∀(m k:Nat) (l h r:Int) (t:List UInt8),128≤l→tail m k l h r (t++x::b)=tail m k l h r t
 |0,_,_,_,_,_,_=>by simp[tail]
 |m+1,k,l,h,r,[],hl=>by
  simp only[List.nil_append,tail]
  rw[if_pos (by omega)]
 |m+1,k,l,h,r,c::t,hl=>by
  simp only[List.cons_append,tail]
  split
  ·rfl
  ·exact E5 x b hx m (k+1) 128 191 _ t (by omega)
theorem lo_ge (c:Int) (h1:194≤c) (h2:c≤244):128≤lo c:=by unfold lo;(repeat' split)<;>omega
theorem rd_stop (y:UInt8) (t:List UInt8) (x:UInt8) (b:List UInt8) (hx:x.toNat≤127):rd (y::t++x::b)=rd (y::t):=by
 simp only[List.cons_append,rd]
 by_cases h1:(y.toNat:Int)≤127
 ·rw[if_pos h1,if_pos h1]
 rw[if_neg h1,if_neg h1]
 by_cases h2:(y.toNat:Int)≤193∨245≤(y.toNat:Int)
 ·rw[if_pos h2,if_pos h2]
 rw[if_neg h2,if_neg h2]
 have hl:=lo_ge (y.toNat:Int) (by omega) (by omega)
 split
 ·exact E5 x b hx _ _ _ _ _ _ hl
 split
 ·exact E5 x b hx _ _ _ _ _ _ hl
 exact E5 x b hx _ _ _ _ _ _ hl
theorem Qb (x:UInt8) (b:List UInt8) (hx:x.toNat≤127):∀(n:Nat) (a:List UInt8),a.length≤n→dec (a++x::b)=dec a++(x.toNat:Int)::dec b
 |_,[],_=>by rw[List.nil_append,ahi x b hx];rfl
 |0,_::_,h=>by simp at h
 |n+1,y::t,hl=>by
  have hs:=nJ y t
  have hd:(y::t++x::b).drop (rd (y::t)).2.1.toNat=(y::t).drop (rd (y::t)).2.1.toNat++x::b:=by
   rw[List.drop_append_of_le_length]
   simp only[List.length_cons];omega
  have e:dec (y::t++x::b)=(rd (y::t)).1::dec ((y::t).drop (rd (y::t)).2.1.toNat++x::b):=by
   rw[List.cons_append,iK,←List.cons_append,rd_stop y t x b hx,hd]
  rw[e,Qb x b hx n _ (by simp only[List.length_drop,List.length_cons]at hl⊢;omega),iK y t]
  rfl
theorem ahp (x:UInt8) (h:x.toNat≤127):Lib.encodeRune (x.toNat:Int)=[x]:=by
 rw[enc1 _ (by omega) (by omega),u_of]
def ED (L:List UInt8):List UInt8:=enc (dec L)
theorem rG (L:List UInt8):clean L=(ru (ED L)).filter fun c=> !brk c:=rfl
theorem xX (a:List UInt8) (x:UInt8) (b:List UInt8) (hx:x.toNat≤127):ED (a++x::b)=ED a++x::ED b:=by
 unfold ED
 rw[Qb x b hx _ a (Nat.le_refl _),iQ,fA,ahp x hx]
 rfl
theorem ajn:ED []=[]:=rfl
theorem oL:∀L:List UInt8,(∀c ∈ L,c.toNat≤127)→ED L=L
 |[],_=>rfl
 |x::t,h=>by
  have:=xX [] x t (h x (by simp))
  rw[List.nil_append,ajn,List.nil_append]at this
  rw[this,oL t (fun c hc=>h c (by simp[hc]))]
theorem iP (b:UInt8):∀L:List UInt8,(∀c ∈ L,c≠b)→fG b L=(L,[],false)
 |[],_=>rfl
 |c::L,h=>by rw[fG,if_neg (h c (by simp)),iP b L (fun d hd=>h d (by simp[hd]))]
theorem kW (b:UInt8):∀(L M:List UInt8),(∀c ∈ L,c≠b)→fG b (L++b::M)=(L,M,true)
 |[],M,_=>by rw[List.nil_append,fG,if_pos rfl]
 |c::L,M,h=>by rw[List.cons_append,fG,if_neg (h c (by simp)),kW b L M (fun d hd=>h d (by simp[hd]))]
end Go.Proofs.YtmpeaoacaecgpaaGreatDoor.acK
namespace Go.Proofs.YtmpeaoacaecgpaaGreatDoor.ND
open Go.RowKit Base dI cO zD EscE fU Hz pU qg sV acp Nw B64G ajm JY acK
def unr (c:UInt8):Bool:=letter c.toNat||digit c.toNat||[45,46,95,126].contains c
def e1 (c:UInt8):List UInt8:=if unr c=true then[c]else[37,jR (c.toNat / 16),jR (c.toNat%16)]
def mV (b:List UInt8):List UInt8:=b.flatMap e1
def CX:List UInt8:=59::Gt
def Em (letters:Bool) (b:List UInt8):List UInt8:=if letters=true then CX++44::e64 b else 44::mV b
def zf (letters:Bool) (ty sub:List UInt8) (ps:PL) (b:List UInt8):List UInt8:=dS ty sub ps++Em letters b
def made (letters:Bool) (ty sub:List UInt8) (ps:PL) (b:List UInt8):List UInt8:=vX++zf letters ty sub ps b
def YW (c:UInt8):Bool:=decide (32≤c.toNat∧c.toNat≤126∧c≠35∧c≠44∧c≠63)
def Uf (L:List UInt8):Bool:=L.all fun c=>decide (c≠35)
def Q7 (ps:PL):Bool:=ps.all fun p=>decide (p.1≠Gt)&&(Uf p.1&&p.2.all YW)
def kR (ty sub:List UInt8) (ps:PL):Bool:=fD ty sub ps&&(Uf (ty++sub)&&Q7 ps)
theorem Qd:∀b:List UInt8,dec (mV b)=b
 |[]=>lT
 |c::b=>by
  have e:mV (c::b)=e1 c++mV b:=by simp[mV]
  rw[e]
  unfold e1
  split
  ·rename_i h
   have hc:c≠37:=by rintro rfl;revert h;decide
   rw[List.cons_append,List.nil_append,kJ _ _ (zZ c _ hc),Qd b]
  ·show dec (37::jR (c.toNat / 16)::jR (c.toNat%16)::mV b)=_
   rw[oQ _ _ c (N9 c (mV b))]
   show c::dec (mV b)=_
   rw[Qd b]
theorem ak6:∀L:List UInt8,(∀c ∈ L,c≠37)→dec L=L
 |[],_=>lT
 |c::L,h=>by rw[kJ _ _ (zZ c _ (h c (by simp))),ak6 L fun d hd=>h d (by simp[hd])]
def Gd (c:UInt8):Prop:=33≤c.toNat∧c.toNat≤126∧c≠35∧c≠44∧c≠63
instance (c:UInt8):Decidable (Gd c):=by unfold Gd;infer_instance
theorem e1_good (c:UInt8):∀d ∈ e1 c,Gd d:=by
 have h:=dn (p:=fun c=>∀d ∈ e1 c,Gd d) (by decide+kernel) c
 exact h
theorem ahs (b:List UInt8):∀d ∈ mV b,Gd d:=by
 intro d hd
 obtain⟨c,_,h⟩:=List.mem_flatMap.1 hd
 exact e1_good c d h
theorem aad (b:List UInt8):∀d ∈ e64 b,Gd d∧d≠37:=by
 intro d hd
 rw[(qC b).1]at hd
 rcases List.mem_append.1 hd with h|h
 ·obtain⟨k,hk,rfl⟩:=Ij b d h
  have H:∀k:Fin 64,Gd (aU k.val)∧aU k.val≠37:=by decide+kernel
  exact H ⟨k,hk⟩
 rw[(List.mem_replicate.1 h).2]
 decide
theorem aiN (letters:Bool) (b:List UInt8):∃X R,Em letters b=X++44::R∧(∀d ∈ X,Gd d)∧∀d ∈ R,Gd d:=by
 unfold Em
 cases letters with
 |true=>exact⟨CX,e64 b,by simp,by decide,fun d hd=>(aad b d hd).1⟩
 |false=>exact⟨[],mV b,by simp,by simp,ahs b⟩
theorem tch_vch (c:UInt8) (h:FX c=true) (h2:c≠35):Gd c:=
 dn (p:=fun c=>FX c=true→c≠35→Gd c) (by decide+kernel) c h h2
theorem gd_vch {c:UInt8} (h:Gd c):YW c=true:=by
 unfold YW
 rw[decide_eq_true_iff]
 exact⟨by have:=h.1;omega,h.2⟩
theorem YC {L:List UInt8} (h:dP L=true) (h2:Uf L=true):∀c ∈ L,YW c=true:=fun c hc=>
 gd_vch (tch_vch c (mg h hc) (by simpa using List.all_eq_true.1 h2 c hc))
theorem anc {v:List UInt8} (h:v.all YW=true):∀c ∈ Au v,YW c=true:=by
 have hv:=List.all_eq_true.1 h
 unfold Au
 split
 ·exact hv
 intro c hc
 unfold qq qt at hc
 rcases List.mem_cons.1 hc with rfl|hc
 ·decide
 rcases List.mem_append.1 hc with hc|hc
 ·obtain⟨d,hd,hm⟩:=List.mem_flatMap.1 hc
  unfold qe at hm
  split at hm
  ·rcases List.mem_cons.1 hm with rfl|hm
   ·decide
   rw[List.mem_singleton.1 hm];exact hv d hd
  rw[List.mem_singleton.1 hm];exact hv d hd
 rw[List.mem_singleton.1 hc];decide
theorem af8:∀ps:PL,(∀p ∈ ps,dP p.1=true)→Q7 ps=true→∀c ∈ pps ps,YW c=true
 |[],_,_,c,hc=>by rw[Ot]at hc;cases hc
 | p ::ps,ht,h,c,hc=>by
  unfold Q7 at h
  rw[List.all_cons,Bool.and_eq_true,Bool.and_eq_true,Bool.and_eq_true]at h
  rw[Jl]at hc
  rcases List.mem_append.1 hc with hc|hc
  ·unfold Q9 at hc
   rcases List.mem_cons.1 hc with rfl|hc
   ·decide
   ·rcases List.mem_append.1 hc with hc|hc
    ·exact YC (ht p (by simp)) h.1.2.1 c hc
    ·rcases List.mem_cons.1 hc with rfl|hc
     ·decide
     ·exact anc h.1.2.2 c hc
  ·exact af8 ps (fun q hq=>ht q (by simp[hq])) h.2 c hc
theorem G8 {ty sub:List UInt8} {ps:PL} (h:fD ty sub ps=true):dP ty=true∧dP sub=true∧∀p ∈ ps,dP p.1=true:=by
 unfold fD at h
 rw[Bool.and_eq_true,Bool.and_eq_true]at h
 refine⟨(nK h.1).1,(nK h.2.1).1,fun p hp=>?_⟩
 obtain⟨k,hk,rfl⟩:=List.getElem_of_mem hp
 have:=D6 h.2.2 k hk
 unfold yU at this
 rw[List.getElem?_eq_getElem hk]at this
 simp only[Bool.and_eq_true]at this
 exact(nK this.1).1
theorem VR {ty sub:List UInt8} {ps:PL} (h:kR ty sub ps=true):∀c ∈ dS ty sub ps,YW c=true:=by
 unfold kR at h
 rw[Bool.and_eq_true,Bool.and_eq_true]at h
 obtain⟨h1,h2,h3⟩:=G8 h.1
 have hn:Uf ty=true∧Uf sub=true:=by
  have:=h.2.1
  unfold Uf at this
  rw[List.all_append,Bool.and_eq_true]at this
  exact this
 intro c hc
 unfold dS ess at hc
 rcases List.mem_append.1 hc with hc|hc
 ·rcases List.mem_append.1 hc with hc|hc
  ·exact YC h1 hn.1 c hc
  rcases List.mem_cons.1 hc with rfl|hc
  ·decide
  exact YC h2 hn.2 c hc
 exact af8 ps h3 h.2.2 c hc
theorem Mc {c:UInt8} (h:YW c=true):32≤c.toNat∧c.toNat≤126∧c≠35∧c≠44∧c≠63:=by unfold YW at h;exact decide_eq_true_iff.1 h
theorem VQ {ty sub:List UInt8} {ps:PL} (h:fD ty sub ps=true):(∃A,dS ty sub ps=A++[34])∨∃A s z,dS ty sub ps=A++s::z∧(s=47∨s=61)∧dP z=true:=by
 obtain⟨h1,h2,h3⟩:=G8 h
 rcases List.eq_nil_or_concat ps with rfl|⟨qs,p,rfl⟩
 ·refine Or.inr ⟨ty,47,sub,?_,Or.inl rfl,h2⟩
  unfold dS ess
  rw[Ot,List.append_nil]
 have e:dS ty sub (qs++[p])=(dS ty sub qs++59::p.1)++61::Au p.2:=by
  unfold dS
  rw[Rh]
  unfold Q9
  simp
 rw[List.concat_eq_append,e]
 unfold Au
 split
 ·rename_i hv
  exact Or.inr ⟨_,61,p.2,rfl,Or.inr rfl,hv⟩
 refine Or.inl ⟨dS ty sub qs++59::p.1++61::34::qt p.2,?_⟩
 unfold qq
 simp
theorem Nb {ty sub:List UInt8} {ps:PL} (h:fD ty sub ps=true):∃c t,dS ty sub ps=c::t∧FX c=true:=by
 obtain⟨h1,-,-⟩:=G8 h
 obtain⟨c,t,rfl⟩:∃c t,ty=c::t:=by
  cases ty with
  |nil=>exact absurd rfl (En h1)
  |cons c t=>exact⟨c,t,rfl⟩
 exact⟨c,_,rfl,mg h1 (by simp)⟩
theorem amo (c:UInt8) (h:low c ∈ Gt):FX c=true∧c≠34∧c≠47∧c≠61:=by
 have:=dn (p:=fun c=>low c ∈ Gt→FX c=true∧c≠34∧c≠47∧c≠61) (by decide+kernel) c h
 exact this
theorem afK {H:List UInt8} (h:YT H=true):6≤H.length∧(∀c ∈ H.drop (H.length - 6),low c ∈ Gt)∧Lib.hasSuffix (ahd H) [59]=true:=by
 unfold YT at h
 rw[Bool.and_eq_true,Bool.and_eq_true,decide_eq_true_iff,decide_eq_true_iff]at h
 refine⟨h.1,fun c hc=>?_,h.2.2⟩
 rw[←h.2.1]
 exact List.mem_map_of_mem hc
theorem suf1 (L:List UInt8) (d c:UInt8):Lib.hasSuffix (L++[d]) [c]=decide (d=c):=by
 rw[Bool.eq_iff_iff]
 unfold Lib.hasSuffix
 rw[List.isSuffixOf_iff_suffix,decide_eq_true_iff]
 constructor
 ·rintro⟨t,e⟩
  exact(List.append_inj' e rfl).2|>fun h=>(List.cons.inj h).1.symm
 rintro rfl
 exact⟨L,rfl⟩
theorem ae5 (A:List UInt8) (d:UInt8) (h1:d≠32) (h2:d≠59):Lib.hasSuffix (Lib.trimRightS (A++[d]) [32]) [59]=false:=by
 have:Lib.trimRightS (A++[d]) [32]=A++[d]:=by
  show YU [32] (A++[d])=_
  rw[Eo,if_neg (by simpa using h1)]
 rw[this,suf1]
 exact decide_eq_false h2
theorem ahN (A:List UInt8):YT (A++[34])=false:=by
 rw[Bool.eq_false_iff]
 intro h
 obtain⟨h1,h2,-⟩:=afK h
 rw[List.length_append]at h1
 have hle:(A++[34]).length - 6≤A.length:=by
  have e:(A++[34]).length=A.length+1:=by simp
  omega
 have hm:(34:UInt8) ∈ (A++[34]).drop ((A++[34]).length - 6):=by
  rw[List.drop_append_of_le_length hle]
  exact List.mem_append_right _ (List.mem_singleton.2 rfl)
 exact(amo 34 (h2 34 hm)).2.1 rfl
theorem isB_sep (A z:List UInt8) (s:UInt8) (hs:s=47∨s=61) (hz:dP z=true):YT (A++s::z)=false:=by
 rw[Bool.eq_false_iff]
 intro h
 obtain⟨h1,h2,h3⟩:=afK h
 have hl:(A++s::z).length=A.length+(z.length+1):=by simp
 by_cases h6:6≤z.length
 ·unfold ahd at h3
  have ht:(A++s::z).take ((A++s::z).length - 6)=A++s::z.take (z.length - 6):=by
   rw[hl,show A.length+(z.length+1) - 6=A.length+(z.length - 6+1)by omega,List.take_length_add_append,List.take_succ_cons]
  rw[ht]at h3
  rcases List.eq_nil_or_concat (z.take (z.length - 6))with e|⟨N,d,e⟩
  ·rw[e,ae5 A s (by rcases hs with rfl|rfl<;>decide) (by rcases hs with rfl|rfl<;>decide)]at h3
   cases h3
  rw[List.concat_eq_append]at e
  have hd:FX d=true:=mg hz (List.mem_of_mem_take (i:=z.length - 6) (by rw[e];simp))
  have hd2:=nM d hd
  have hd3:d≠32:=fun e=>hd2.1 (by rw[e];decide)
  rw[e,show A++s::(N++[d])=(A++s::N)++[d]by simp,ae5 _ d hd3 hd2.2.2.2.1]at h3
  cases h3
 have hm:s ∈ (A++s::z).drop ((A++s::z).length - 6):=by
  rw[List.drop_append_of_le_length (by rw[hl];omega)]
  simp
 have:=amo s (h2 s hm)
 rcases hs with rfl|rfl
 ·exact this.2.2.1 rfl
 exact this.2.2.2 rfl
theorem ahM {ty sub:List UInt8} {ps:PL} (h:fD ty sub ps=true):YT (dS ty sub ps)=false:=by
 rcases VQ h with⟨A,e⟩|⟨A,s,z,e,hs,hz⟩
 ·rw[e];exact ahN A
 rw[e];exact isB_sep A z s hs hz
theorem afJ (P:List UInt8):YT (P++CX)=true∧Us (P++CX)=P:=by
 have hl:(P++CX).length - 6=(P++[59]).length:=by simp[CX,Gt]
 have e:P++CX=(P++[59])++Gt:=by simp[CX]
 have ha:ahd (P++CX)=P++[59]:=by
  unfold ahd
  rw[hl,e,List.take_left]
  show YU [32] (P++[59])=_
  rw[Eo,if_neg (by decide)]
 constructor
 ·unfold YT
  rw[ha,suf1,hl,e,List.drop_left,decide_eq_true (by simp[Gt]),decide_eq_true (by decide)]
  rfl
 unfold Us
 rw[ha]
 unfold Lib.trimSuffix
 rw[suf1,decide_eq_true rfl,if_pos rfl]
 simp
theorem abS (C L:List UInt8) (h1:∀c t,L=c::t→C.contains c=false) (h2:∀M c,L=M++[c]→C.contains c=false):Lib.trimS L C=L:=by
 rw[Sv]
 have e1:tlS C L=L:=by
  cases L with
  |nil=>rfl
  |cons c t=>rw[Si,h1 c t rfl];rfl
 rw[e1]
 rcases List.eq_nil_or_concat L with rfl|⟨M,c,rfl⟩
 ·rfl
 rw[List.concat_eq_append,Eo,h2 M c (List.concat_eq_append)]
 rfl
theorem anM (c:UInt8) (h:FX c=true):ws.contains c=false:=dn (p:=fun c=>FX c=true→ws.contains c=false) (by decide+kernel) c h
theorem ads {A L M:List UInt8} {c d:UInt8} (e:A++[d]=M++[c]):d=c:=by
 have:=List.append_inj_right' e rfl
 exact(List.cons.inj this).1
theorem aij (letters:Bool) {ty sub:List UInt8} {ps:PL} (b:List UInt8) (h:kR ty sub ps=true):proc (zf letters ty sub ps b)=some (⟨ty,sub,ps⟩,b):=by
 have hr:fD ty sub ps=true:=by unfold kR at h;rw[Bool.and_eq_true]at h;exact h.1
 have hv:=VR h
 obtain⟨c,t,hb,hc⟩:=Nb hr
 obtain⟨P,hP⟩:∃P,P=dS ty sub ps:=⟨_,rfl⟩
 rw[←hP]at hv hb
 have hP44:∀x ∈ P,x≠44:=fun x hx=>(Mc (hv x hx)).2.2.2.1
 have hty:typ P=⟨ty,sub,ps⟩:=by
  have:Es P=P:=by
   unfold Es
   rw[hb]
   have:Lib.hasPrefix (c::t) [59]=false:=by
    have:=(nM c hc).2.2.2.1
    unfold Lib.hasPrefix
    simp[List.isPrefixOf,Ne.symm this]
   rw[this]
   rfl
  unfold typ
  rw[this,hP,GR hr]
  rfl
 have hcw:=anM c hc
 cases letters with
 | false=>
  have e:zf false ty sub ps b=P++44::mV b:=by rw[hP];rfl
  have et:Lib.trimS P ws=P:=by
   refine abS ws P (fun x y e=>?_) (fun M x e=>?_)
   ·rw[hb]at e
    rw[←(List.cons.inj e).1]
    exact hcw
   rcases VQ hr with⟨A,e2⟩|⟨A,s,z,e2,hs,hz⟩
   ·rw[←hP]at e2
    rw[e2]at e
    rw[←ads (A:=A) (L:=[]) e]
    decide
   rw[←hP]at e2
   rcases List.eq_nil_or_concat z with rfl|⟨N,d,rfl⟩
   ·exact absurd rfl (En hz)
   rw[List.concat_eq_append]at e2 hz
   rw[e2,show A++s::(N++[d])=(A++s::N)++[d]by simp]at e
   rw[←ads (A:=A++s::N) (L:=[]) e]
   exact anM d (mg hz (by simp))
  unfold proc
  rw[e,kW 44 P (mV b) hP44,if_pos rfl]
  simp only
  rw[et,hP,ahM hr,←hP,hty,Qd]
  rfl
 | true=>
  have e:zf true ty sub ps b=(P++CX)++44::e64 b:=by rw[hP];simp[zf,Em]
  have hx:∀x ∈ P++CX,x≠44:=by
   intro x hx
   rcases List.mem_append.1 hx with hx|hx
   ·exact hP44 x hx
   exact(by decide:∀x ∈ CX,x≠44) x hx
  have et:Lib.trimS (P++CX) ws=P++CX:=by
   refine abS ws _ (fun x y e=>?_) (fun M x e=>?_)
   ·rw[hb]at e
    rw[←(List.cons.inj e).1]
    exact hcw
   rw[show P++CX=(P++[59,98,97,115,101,54])++[52]by simp[CX,Gt]]at e
   rw[←ads (A:=P++[59,98,97,115,101,54]) (L:=[]) e]
   decide
  have hd:dec (e64 b)=e64 b:=ak6 _ fun x hx=>(aad b x hx).2
  obtain⟨k1,k2⟩:=back b (e64 b) (txt_e64 b)
  unfold proc
  rw[e,kW 44 _ (e64 b) hx,if_pos rfl]
  simp only
  rw[et,(afJ P).1,(afJ P).2,if_pos rfl,hd,k1,if_pos rfl,k2,hty]
def uM (rest:List UInt8):PrsP.U:={PrsP.U0 with au:=DATA,port:= -1,opq:=true,txt:=rest}
theorem aiy (letters:Bool) {ty sub:List UInt8} {ps:PL} (b:List UInt8) (h:kR ty sub ps=true):(∀c ∈ zf letters ty sub ps b,32≤c.toNat∧c.toNat≤126∧c≠35∧c≠63)∧∃M d,zf letters ty sub ps b=M++[d]∧d≠32:=by
 obtain⟨X,R,e,hX,hR⟩:=aiN letters b
 have hv:=VR h
 unfold zf
 rw[e]
 constructor
 ·intro c hc
  rcases List.mem_append.1 hc with hc|hc
  ·have:=Mc (hv c hc)
   exact⟨this.1,this.2.1,this.2.2.1,this.2.2.2.2⟩
  rcases List.mem_append.1 hc with hc|hc
  ·have:=hX c hc
   exact⟨by have:=this.1;omega,this.2.1,this.2.2.1,this.2.2.2.2⟩
  rcases List.mem_cons.1 hc with rfl|hc
  ·decide
  have:=hR c hc
  exact⟨by have:=this.1;omega,this.2.1,this.2.2.1,this.2.2.2.2⟩
 rcases List.eq_nil_or_concat R with rfl|⟨N,d,rfl⟩
 ·exact⟨dS ty sub ps++X,44,by simp,by decide⟩
 refine⟨dS ty sub ps++X++44::N,d,by simp,?_⟩
 rintro rfl
 have:=hR 32 (by simp)
 exact absurd this.1 (by decide)
theorem adf {T:List UInt8} (h:∀c ∈ T,32≤c.toNat∧c.toNat≤126) (h1:∃c t,T=c::t∧c≠32) (h2:∃M d,T=M++[d]∧d≠32):PrsP.clean T=T:=by
 have hl:∀c ∈ T,c≠32→PrsP.fO c=false:=by
  intro c hc hn
  have:=(h c hc).1
  unfold PrsP.fO
  rw[decide_eq_false_iff_not]
  intro h3
  exact hn (UInt8.toNat_inj.1 (by show c.toNat=32;omega))
 have e:ED T=T:=oL T fun c hc=>by have:=(h c hc).2;omega
 have et:PrsP.ru T=T:=by
  obtain⟨c,t,e1,hc⟩:=h1
  obtain⟨M,d,e2,hd⟩:=h2
  have a1:T.dropWhile PrsP.fO=T:=by rw[e1,List.dropWhile_cons_of_neg (by rw[hl c (by rw[e1];simp) hc];simp)]
  have a2:T.reverse.dropWhile PrsP.fO=T.reverse:=by
   rw[e2,List.reverse_append]
   show(d::M.reverse).dropWhile PrsP.fO=_
   rw[List.dropWhile_cons_of_neg (by rw[hl d (by rw[e2];simp) hd];simp)]
   rfl
  unfold PrsP.ru
  rw[a1,a2,List.reverse_reverse]
 rw[rG,e,et,List.filter_eq_self.2 fun c hc=>?_]
 have:=(h c hc).1
 unfold PrsP.brk
 have h9:c≠9:=by rintro rfl;revert this;decide
 have h10:c≠10:=by rintro rfl;revert this;decide
 have h13:c≠13:=by rintro rfl;revert this;decide
 simp[h9,h10,h13]
theorem inS0 (c:UInt8) (h:32≤c.toNat∧c.toNat≤126):ji 0 c.toNat=false:=dn (p:=fun c=>32≤c.toNat∧c.toNat≤126→ji 0 c.toNat=false) (by decide+kernel) c h
theorem abZ {R:List UInt8} (h:∀c ∈ R,32≤c.toNat∧c.toNat≤126∧c≠35∧c≠63) (h1:∃c t,R=c::t∧c≠47) (h2:∃M d,R=M++[d]∧d≠32):PrsP.url (vX++R) none=some (uM R):=by
 have hT:∀c ∈ vX++R,32≤c.toNat∧c.toNat≤126∧c≠35∧c≠63:=by
  intro c hc
  rcases List.mem_append.1 hc with hc|hc
  ·exact(by decide:∀c ∈ vX,32≤c.toNat∧c.toNat≤126∧c≠35∧c≠63) c hc
  exact h c hc
 have ec:PrsP.clean (vX++R)=vX++R:=by
  obtain⟨M,d,e,hd⟩:=h2
  exact adf (fun c hc=>⟨(hT c hc).1,(hT c hc).2.1⟩) ⟨100,_,rfl,by decide⟩ ⟨vX++M,d,by rw[e];simp,hd⟩
 have ea:PrsP.apart (vX++R)=⟨DATA,R,[],[],false,false⟩:=by
  unfold PrsP.apart
  rw[iP 35 _ fun c hc=>(hT c hc).2.2.1]
  simp only
  rw[iP 63 _ fun c hc=>(hT c hc).2.2.2]
  simp only
  rw[show vX++R=DATA++58::R from rfl,kW 58 DATA R (by decide)]
  rw[show(true&&PrsP.lI DATA)=true from by decide,if_pos rfl]
  rfl
 obtain⟨c,t,e,hc⟩:=h1
 have p2:Lib.hasPrefix R [47,47]=false:=by
  rw[e]
  unfold Lib.hasPrefix
  simp[List.isPrefixOf,Ne.symm hc]
 have p1:Lib.hasPrefix R [47]=false:=by
  rw[e]
  unfold Lib.hasPrefix
  simp[List.isPrefixOf,Ne.symm hc]
 have eo:PrsP.opq false R=R:=by
  unfold PrsP.opq
  rw[lV 0 R fun c hc=>inS0 c ⟨(h c hc).1,(h c hc).2.1⟩]
  simp
 unfold PrsP.url
 rw[ec,ea]
 unfold PrsP.resolve PrsP.plain
 dsimp only
 rw[if_neg (show ¬DATA=PrsP.FILE by decide),if_neg (show ¬UrlA.special DATA=true by decide),if_pos (show DATA≠[]by decide)]
 rw[p2,p1]
 simp only[Bool.false_eq_true,if_false,Bool.or_self,Option.map_some]
 rw[eo]
 rfl
theorem ab1 (letters:Bool) {ty sub:List UInt8} {ps:PL} (b:List UInt8) (h:kR ty sub ps=true):PrsP.url (made letters ty sub ps b) none=some (uM (zf letters ty sub ps b)):=by
 obtain⟨g1,g2⟩:=aiy letters b h
 have hr:fD ty sub ps=true:=by unfold kR at h;rw[Bool.and_eq_true]at h;exact h.1
 obtain⟨c,t,hb,hc⟩:=Nb hr
 refine abZ g1 ⟨c,t++Em letters b,by unfold zf;rw[hb];rfl,(nM c hc).2.2.1⟩ g2
end Go.Proofs.YtmpeaoacaecgpaaGreatDoor.ND
namespace Go.Proofs.YtmpeaoacaecgpaaGreatDoor.BuiA
open Go.RowKit Base dI cO zD ND
open Go.Proofs.YtmpeaoacaecgpaaGreatDoor.EscE (jR zV LX)
theorem alO (b:UInt8) (L:List UInt8):decide (0≤Lib.indexByte L b)=L.contains b:=by
 have hge:=Lib.indexByte_ge L b
 by_cases h:Lib.indexByte L b= -1
 ·have hn:=Lib.indexByte_none h
  rw[decide_eq_false (by omega)]
  cases e:L.contains b with
  |false=>rfl
  |true=>
   have hm:b ∈ L:=by simpa using e
   obtain⟨j,hj,he⟩:=List.getElem_of_mem hm
   exact absurd (List.getElem?_eq_some_iff.2 ⟨hj,he⟩) (hn j)
 obtain⟨o,ho⟩:∃o:Nat,Lib.indexByte L b=o:=⟨(Lib.indexByte L b).toNat,by omega⟩
 have hs:=(Lib.indexByte_some ho).1
 rw[decide_eq_true (by omega)]
 obtain⟨hj,he⟩:=List.getElem?_eq_some_iff.1 hs
 symm
 simpa using(show b ∈ L by rw[←he];exact List.getElem_mem _)
theorem EG (L:List UInt8) (c:UInt8):mV (L++[c])=mV L++e1 c:=by simp[mV]
theorem ali (c:UInt8):1≤(e1 c).length∧(e1 c).length≤3:=by unfold e1;split<;>simp
theorem Qg (L:List UInt8):(mV L).length≤3*L.length:=by
 induction L with
 |nil=>simp[mV]
 |cons c L ih=>
  have h:=ali c
  have e:mV (c::L)=e1 c++mV L:=by simp[mV]
  rw[e,List.length_append,List.length_cons]
  omega
attribute [local go_sem ↓] Go.wp_at_zero Go.wp_at_succ
theorem wM (A:Option Addr) (n cap:Nat) (L:List UInt8) (w:World) (h:aY w A n (ah L)) (hm:n≤1073741824):
  Calls Tryz.prog 189 #[.slice A n cap] w fun e w'=>e=.returned (.string (strOf (mV L)))∧Below w.heap.size w w':=by
 have hl:L.length=n:=by rw[←aI];exact h.1
 have HL:=hid hl
 clear hl
 obtain⟨i0,hi,hz0,hz1,hz2⟩:=info_parts iR
 have HH:=hid h
 clear h
 go_enter Tryz.func189,Tryz.ntmps189
 go_wp2_with (at_make;refine wpList_make_own _ rfl _ _ 45 rfl w.heap.size 5 i0 (.int .u8 0) 1 Tryz.underlying45 hi hz0 hz1 .i64 .i64 _ n rfl rfl rfl (by rw[hz2];omega) (by unfold maxLen;omega) (Nat.le_refl _) ?_)
 intro w1 hown1 hg1
 have gW:Below w.heap.size w w1:=(Below.refl _ _).grown hg1 (Nat.le_refl _) (by intro k h;cases h)
 clear hg1
 go_wp2
 go_loopw [3,5,11] (fun v _ vk wr=>∃(j:Nat),j≤n∧vk=.int .i64 j∧wr.ownsRow w.heap.size 5 1 v (mV (L.take j)).length (ah (mV (L.take j)))∧Below w.heap.size w wr) (fun _ _ vk _=>n - (intOf vk).toNat)
 case atStart=>exact⟨0,Nat.zero_le _,rfl,hown1,gW⟩
 case round=>
  clear hown1 gW
  obtain⟨j,hj,rfl,hown,hbel⟩:=hrel
  by_cases hlt:j<n
  ·obtain ⟨b, off, rfl, hb, _⟩ := (HH.out).spot (by omega)
   obtain⟨c,hx⟩:∃c,c=L[j]'(by rw[HL.out];exact hlt):=⟨_,rfl⟩
   have hcell:wr.cell? ⟨b,off+j,none⟩=some (.int .u8 (c.toNat:Int)):=by
    rw[hx,←HH.out.byte j (by rw[HL.out];exact hlt)]
    exact hbel.cell (p:=⟨b,off+j,none⟩) hb
   have HS:Hid (L.take (j+1)=L.take j++[c]):=by
    rw[hx]
    exact List.take_succ_eq_append_getElem (by rw[HL.out];exact hlt)
   clear hx
   have hle:=Qg (L.take j)
   have hle2:(L.take j).length≤j:=List.length_take_le _ _
   obtain⟨m,hmm⟩:∃m,m=(mV (L.take j)).length:=⟨_,rfl⟩
   rw[←hmm]at hle hown
   have HM:=hid hmm
   clear hmm
   have hc0:(c.toNat:Int)<256:=by have:=c.toNat_lt;omega
   obtain⟨a,ha⟩:∃a,a=letter c.toNat:=⟨_,rfl⟩
   obtain⟨d,hd⟩:∃d,d=digit c.toNat:=⟨_,rfl⟩
   obtain⟨x,hx⟩:∃x,x=([45,46,95,126]:List UInt8).contains c:=⟨_,rfl⟩
   have sQ:Hid (∀w:World,Calls Tryz.prog 215 #[.int .u8 (c.toNat:Int)] w fun e w'=>e=.returned (.bool a)∧w=w'):=fun w=>by rw[ha];exact dN _ w
   have Tv:Hid (∀w:World,Calls Tryz.prog 216 #[.int .u8 (c.toNat:Int)] w fun e w'=>e=.returned (.bool d)∧w=w'):=fun w=>by rw[hd];exact fE _ w
   have YN:Hid (∀w:World,Calls Tryz.prog 217 #[.string ⟨#[45,46,95,126]⟩,.int .u8 (c.toNat:Int)] w fun e w'=>∃z:Int,e=.returned (.int .i64 z)∧decide (0≤z)=x∧w'=w):=fun w=>by
    refine(Tryz.strings_IndexByte ⟨#[45,46,95,126]⟩ _ w).mono ?_
    rintro e w' ⟨rfl,rfl⟩
    refine⟨_,rfl,?_,rfl⟩
    rw[show((c.toNat:Int).toNat.toUInt8)=c by simp,alO,hx]
   have hun:e1 c=if (a||d||x)=true then[c]else[37,jR (c.toNat / 16),jR (c.toNat%16)]:=by rw[ha,hd,hx];rfl
   have HUN:=hid hun
   clear ha hd hx hun
   cases a with
   | true=>
    have HI:Hid (e1 c=[c]):=HUN.out
    go_wp2_with fail
    refine(sQ.out _).mono ?_
    rintro e w2 ⟨rfl,rfl⟩
    go_wp2_with (at_builtin;refine aQ rfl _ _ 45 rfl w.heap.size 5 i0 (.int .u8 0) 1 Tryz.underlying45 hi hz0 hz1 hz2 rfl _ m _ rfl hown hbel hbel.size [.int .u8 (c.toNat:Int)] 1 rfl rfl (by intro u hu;simp at hu;subst hu;rfl) (by unfold maxLen;omega) (by omega) ?_)
    intro v' w2 hown2 dZ
    clear hown hbel
    go_wp2
    go_roundw
    case rel=>exact⟨j+1,by omega,by go_num,by
      have e1:e1 c=[c]:=HI.out
      rw[HS.out,EG,e1,List.length_append,aS,←HM.out]
      exact hown2,dZ⟩
    case measure=>simp[intOf];omega
   | false=>
    go_wp2_with fail
    refine(sQ.out _).mono ?_
    rintro e w2 ⟨rfl,rfl⟩
    cases d with
    | true=>
     have HI:Hid (e1 c=[c]):=HUN.out
     go_wp2_with fail
     refine(Tv.out _).mono ?_
     rintro e w2 ⟨rfl,rfl⟩
     go_wp2_with (at_builtin;refine aQ rfl _ _ 45 rfl w.heap.size 5 i0 (.int .u8 0) 1 Tryz.underlying45 hi hz0 hz1 hz2 rfl _ m _ rfl hown hbel hbel.size [.int .u8 (c.toNat:Int)] 1 rfl rfl (by intro u hu;simp at hu;subst hu;rfl) (by unfold maxLen;omega) (by omega) ?_)
     intro v' w2 hown2 dZ
     clear hown hbel
     go_wp2
     go_roundw
     case rel=>exact⟨j+1,by omega,by go_num,by
       have e1:e1 c=[c]:=HI.out
       rw[HS.out,EG,e1,List.length_append,aS,←HM.out]
       exact hown2,dZ⟩
     case measure=>simp[intOf];omega
    | false=>
     go_wp2_with fail
     refine(Tv.out _).mono ?_
     rintro e w2 ⟨rfl,rfl⟩
     go_wp2_with fail
     refine(YN.out _).mono ?_
     rintro e w2 ⟨z,rfl,hz,hw2⟩
     subst hw2
     cases x with
     | true=>
      have HI:Hid (e1 c=[c]):=HUN.out
      have zz1:0≤z:=by simpa using hz
      have zz2:¬z<0:=by omega
      go_wp2_with (at_builtin;refine aQ rfl _ _ 45 rfl w.heap.size 5 i0 (.int .u8 0) 1 Tryz.underlying45 hi hz0 hz1 hz2 rfl _ m _ rfl hown hbel hbel.size [.int .u8 (c.toNat:Int)] 1 rfl rfl (by intro u hu;simp at hu;subst hu;rfl) (by unfold maxLen;omega) (by omega) ?_)
      intro v' w2 hown2 dZ
      clear hown hbel
      go_wp2
      go_roundw
      case rel=>exact⟨j+1,by omega,by go_num,by
        have e1:e1 c=[c]:=HI.out
        rw[HS.out,EG,e1,List.length_append,aS,←HM.out]
        exact hown2,dZ⟩
      case measure=>simp[intOf];omega
     | false=>
      have HI:Hid (e1 c=[37,jR (c.toNat / 16),jR (c.toNat%16)]):=HUN.out
      have zz2:¬0≤z:=by simpa using hz
      have zz1:z<0:=by omega
      clear hz
      go_wp2
      have q1:(0:Int)≤(c.toNat:Int) / 16:=by omega
      have q2:(c.toNat:Int) / 16<16:=by omega
      have q3:(0:Int)≤(c.toNat:Int)%16:=by omega
      have q4:(c.toNat:Int)%16<16:=by omega
      have q5:=PE c
      have q6:∀h,(⟨#[48,49,50,51,52,53,54,55,56,57,65,66,67,68,69,70]⟩:ByteArray)[((c.toNat:Int) / 16).toNat]'h=jR (c.toNat / 16):=fun h=>zV _ h
      have q7:∀h,(⟨#[48,49,50,51,52,53,54,55,56,57,65,66,67,68,69,70]⟩:ByteArray)[((c.toNat:Int)%16).toNat]'h=jR (c.toNat%16):=fun h=>zV _ h
      go_region_held3 (fun _=>True) (trivial) ((refine RS (by rfl) _ _ 45 (by rfl) w.heap.size 5 i0 (.int .u8 0) 1 Tryz.underlying45 hi hz0 hz1 hz2 (by rfl) _ m _ (by rfl) hown hbel hbel.size [.int .u8 37,.int .u8 ((jR (c.toNat / 16)).toNat:Int),.int .u8 ((jR (c.toNat%16)).toNat:Int)] 3 (by rfl) (by decide) (by rfl) (LX _ _ _) (by unfold maxLen;omega) (by omega) ⟨(Below.refl _ _).drew,fun _=>rfl,by simp⟩ ?_;intro v' w2 hown2 dZ))
      all_goals
       clear hown hbel q1 q2 q3 q4 q5 q6 q7
       go_wp2
       go_roundw
       case rel=>exact⟨j+1,by omega,by go_num,by
         have e1:e1 c=[37,jR (c.toNat / 16),jR (c.toNat%16)]:=HI.out
         rw[HS.out,EG,e1,List.length_append,aS,←HM.out]
         exact hown2,dZ⟩
       case measure=>simp[intOf];omega
  ·obtain rfl:j=n:=by omega
   have HE:Hid (L.take j=L):=by
    rw[←HL.out];exact List.take_length
   rw[HE.out]at hown
   obtain⟨A',c',rfl,_,_,hrd⟩:=aJ hown
   have hst:=aF 45 9 5 Tryz.underlying45 Tryz.underlying5 Tryz.underlying9 _ c' hrd
   go_wp2
   go_ret
   exact⟨rfl,hbel⟩
end Go.Proofs.YtmpeaoacaecgpaaGreatDoor.BuiA
namespace Go.Proofs.YtmpeaoacaecgpaaGreatDoor.mW
open Go.RowKit Base Base2 PrsP
def cells (u:U) (p:Value):Array Value:=#[.string (strOf u.au),.string (strOf u.usr),.string (strOf u.pwd),.string (strOf u.hst),.bool u.hh,.int .i64 u.port,.bool u.opq,.string (strOf u.txt),p,.bool u.hq,.bool u.hf,.string (strOf u.dY),.string (strOf u.fB)]
def UB (w:World) (g:Nat) (u:U) (p:Value):Prop:=w.heap[g]?=some (.cells (cells u p) 25 (0,0))
variable {w w':World} {g:Nat} {u:U} {p:Value}
theorem UB.lt (h:UB w g u p):g<w.heap.size:=(Array.getElem?_eq_some_iff.1 h).1
theorem UB.below (h:UB w g u p) (hb:Below w.heap.size w w'):UB w' g u p:=(hb.block g h.lt).trans h
theorem UB.facts (h:UB w g u p):w.cell? ⟨g,0,none⟩=some (.string (strOf u.au))∧w.cell? ⟨g,1,none⟩=some (.string (strOf u.usr))∧w.cell? ⟨g,2,none⟩=some (.string (strOf u.pwd))∧w.cell? ⟨g,3,none⟩=some (.string (strOf u.hst))∧w.cell? ⟨g,4,none⟩=some (.bool u.hh)∧w.cell? ⟨g,5,none⟩=some (.int .i64 u.port)∧w.cell? ⟨g,6,none⟩=some (.bool u.opq)∧w.cell? ⟨g,7,none⟩=some (.string (strOf u.txt))∧w.cell? ⟨g,8,none⟩=some p∧w.cell? ⟨g,9,none⟩=some (.bool u.hq)∧w.cell? ⟨g,10,none⟩=some (.bool u.hf)∧w.cell? ⟨g,11,none⟩=some (.string (strOf u.dY))∧w.cell? ⟨g,12,none⟩=some (.string (strOf u.fB)):=
 ⟨cell_of_row w g 0 _ _ _ h,cell_of_row w g 1 _ _ _ h,cell_of_row w g 2 _ _ _ h,cell_of_row w g 3 _ _ _ h,cell_of_row w g 4 _ _ _ h,cell_of_row w g 5 _ _ _ h,cell_of_row w g 6 _ _ _ h,cell_of_row w g 7 _ _ _ h,cell_of_row w g 8 _ _ _ h,cell_of_row w g 9 _ _ _ h,cell_of_row w g 10 _ _ _ h,cell_of_row w g 11 _ _ _ h,cell_of_row w g 12 _ _ _ h⟩
theorem UB.thaw (h:UB w g u p):w.frozen? ⟨g,0,none⟩=false∧w.frozen? ⟨g,1,none⟩=false∧w.frozen? ⟨g,2,none⟩=false∧w.frozen? ⟨g,3,none⟩=false∧w.frozen? ⟨g,4,none⟩=false∧w.frozen? ⟨g,5,none⟩=false∧w.frozen? ⟨g,6,none⟩=false∧w.frozen? ⟨g,7,none⟩=false∧w.frozen? ⟨g,8,none⟩=false∧w.frozen? ⟨g,9,none⟩=false∧w.frozen? ⟨g,10,none⟩=false∧w.frozen? ⟨g,11,none⟩=false∧w.frozen? ⟨g,12,none⟩=false:=
 ⟨frozen_of_row w g 0 _ _ h,frozen_of_row w g 1 _ _ h,frozen_of_row w g 2 _ _ h,frozen_of_row w g 3 _ _ h,frozen_of_row w g 4 _ _ h,frozen_of_row w g 5 _ _ h,frozen_of_row w g 6 _ _ h,frozen_of_row w g 7 _ _ h,frozen_of_row w g 8 _ _ h,frozen_of_row w g 9 _ _ h,frozen_of_row w g 10 _ _ h,frozen_of_row w g 11 _ _ h,frozen_of_row w g 12 _ _ h⟩
theorem UB.usr (h:UB w g u p) (s:List UInt8):UB (w.setCell ⟨g,1,none⟩ (.string (strOf s))) g {u with usr:=s} p:=heap_setCell_same w g 1 _ _ _ h
theorem UB.pwd (h:UB w g u p) (s:List UInt8):UB (w.setCell ⟨g,2,none⟩ (.string (strOf s))) g {u with pwd:=s} p:=heap_setCell_same w g 2 _ _ _ h
theorem UB.hst (h:UB w g u p) (s:List UInt8):UB (w.setCell ⟨g,3,none⟩ (.string (strOf s))) g {u with hst:=s} p:=heap_setCell_same w g 3 _ _ _ h
theorem UB.port (h:UB w g u p) (z:Int):UB (w.setCell ⟨g,5,none⟩ (.int .i64 z)) g {u with port:=z} p:=heap_setCell_same w g 5 _ _ _ h
theorem UB.opq (h:UB w g u p) (b:Bool):UB (w.setCell ⟨g,6,none⟩ (.bool b)) g {u with opq:=b} p:=heap_setCell_same w g 6 _ _ _ h
theorem UB.txt (h:UB w g u p) (s:List UInt8):UB (w.setCell ⟨g,7,none⟩ (.string (strOf s))) g {u with txt:=s} p:=heap_setCell_same w g 7 _ _ _ h
theorem UB.path (h:UB w g u p) (q:Value):UB (w.setCell ⟨g,8,none⟩ q) g u q:=heap_setCell_same w g 8 _ _ _ h
theorem UB.hq (h:UB w g u p) (b:Bool):UB (w.setCell ⟨g,9,none⟩ (.bool b)) g {u with hq:=b} p:=heap_setCell_same w g 9 _ _ _ h
theorem UB.hf (h:UB w g u p) (b:Bool):UB (w.setCell ⟨g,10,none⟩ (.bool b)) g {u with hf:=b} p:=heap_setCell_same w g 10 _ _ _ h
theorem UB.dY (h:UB w g u p) (s:List UInt8):UB (w.setCell ⟨g,11,none⟩ (.string (strOf s))) g {u with dY:=s} p:=heap_setCell_same w g 11 _ _ _ h
theorem UB.fB (h:UB w g u p) (s:List UInt8):UB (w.setCell ⟨g,12,none⟩ (.string (strOf s))) g {u with fB:=s} p:=heap_setCell_same w g 12 _ _ _ h
theorem dR.below {u:U} {A:Option Addr} {n c:Nat} (h:dR w u A n c) (hb:Below w.heap.size w w'):dR w' u A n c:=⟨h.1.below hb,h.2⟩
theorem bW {B:Nat} {v:Value} {u:U} (h:w.ownsRow B 9 1 v u.aO.length (u.aO.map Value.string)):∃A c,v=.slice A u.aO.length c∧dR w u A u.aO.length c:=by
 obtain⟨A,c,e,h1,h2,h3⟩:=aJ h
 exact⟨A,c,e,h3,h1,h2⟩
theorem UB.load (h:UB w g u p):(loadVar 25 ⟨g,0,none⟩).run Tryz.prog w=.ok (.agg (cells u p)) w:=
 run_loadVar_row w g _ _ (cells u p) (0,0) _ h Tryz.underlying25 rfl (by kernel_rfl)
theorem UB.set (h:UB w g u p) {k i:Nat} (x:Value) (hk:g≠k):UB (w.setCell ⟨k,i,none⟩ x) g u p:=by
 unfold UB
 rw[heap_setCell_other _ _ _ _ hk]
 exact h
theorem res2 {fn:Func} {a b:Tmp} (h:fn.results=#[.cell a 25,.tmp b]) (hU:UB w g u p) (ok:Bool) (tmps:Array Value) (h2:tmps.getD a undef=.pointer (some ⟨g,0,none⟩)) (h3:tmps.getD b undef=.bool ok):
  (results fn tmps).run Tryz.prog w=.ok (.tuple #[.agg (cells u p),.bool ok]) w:=by
 have hp':tmps[a]?.getD undef=.pointer (some ⟨g,0,none⟩):=by simpa using h2
 have hq':tmps[b]?.getD undef=.bool ok:=by simpa using h3
 simp[results,h,hp',hq',asAddr,hU.load]
theorem res1 {fn:Func} {a:Tmp} (h:fn.results=#[.cell a 25]) (hU:UB w g u p) (tmps:Array Value) (h2:tmps.getD a undef=.pointer (some ⟨g,0,none⟩)):
  (results fn tmps).run Tryz.prog w=.ok (.agg (cells u p)) w:=
 results_cell_row h tmps w g _ _ _ _ h2 hU Tryz.underlying25 rfl (by kernel_rfl)
theorem UB.row {v:U} {q:Value} (h:UB w g v q) (u:U) (p:Value):UB (w.setRow g (cells u p)) g u p:=setRow_heap w g (cells v q) (cells u p) _ (0,0) h
theorem aC {ops:Array Oper} {rest:List Oper} {o:Oper} {a:Act} {Q:Exit→Act→World→Prop} {v:U} {q:Value} (hU:UB w g v q) (u:U) (A:Option Addr) (n c:Nat) (x y:Operand) (ho:o.op=.store 25 x y) (hgd:o.guard=none)
  (hx:a.eval x=.pointer (some ⟨g,0,none⟩)) (hy:a.eval y=.agg (cells u (.slice A n c)))
  (h:wpList Tryz.prog ops Q rest (a.put o.dst undef) (w.setRow g (cells u (.slice A n c)))):wpList Tryz.prog ops Q (o::rest) a w:=
 wpList_store_row hgd 25 x y ho g (cells u (.slice A n c)) hx hy 25 (cells v q) hU (by kernel_rfl) rfl (by simp[cells,Value.oneCell']) h
theorem laid1 (w:World) (a:Array Value) (T:TypeId):(w.alloc (.cells a T)).heap[w.heap.size]?=some (.cells a T (0,0))∧Below w.heap.size w (w.alloc (.cells a T)):=
 ⟨heap_alloc_new w _,(Below.refl _ _).alloc (Nat.le_refl _) _⟩
theorem laid2 (w:World) (a b:Array Value) (T S:TypeId):((w.alloc (.cells a T)).alloc (.cells b S)).heap[w.heap.size]?=some (.cells a T (0,0))∧((w.alloc (.cells a T)).alloc (.cells b S)).heap[w.heap.size+1]?=some (.cells b S (0,0))∧Below w.heap.size w ((w.alloc (.cells a T)).alloc (.cells b S)):=by
 obtain⟨h1,h2⟩:=laid1 w a T
 have h3:=laid1 (w.alloc (.cells a T)) b S
 have hs:(w.alloc (.cells a T)).heap.size=w.heap.size+1:=by simp
 rw[hs]at h3
 exact⟨(h3.2.block _ (by omega)).trans h1,h3.1,h2.trans (h3.2.mono (by omega))⟩
theorem aml (w:World) (a b c:Array Value) (T S R:TypeId):(((w.alloc (.cells a T)).alloc (.cells b S)).alloc (.cells c R)).heap[w.heap.size]?=some (.cells a T (0,0))∧(((w.alloc (.cells a T)).alloc (.cells b S)).alloc (.cells c R)).heap[w.heap.size+1]?=some (.cells b S (0,0))∧(((w.alloc (.cells a T)).alloc (.cells b S)).alloc (.cells c R)).heap[w.heap.size+1+1]?=some (.cells c R (0,0))∧Below w.heap.size w (((w.alloc (.cells a T)).alloc (.cells b S)).alloc (.cells c R)):=by
 obtain⟨h1,h2,h4⟩:=laid2 w a b T S
 have h3:=laid1 ((w.alloc (.cells a T)).alloc (.cells b S)) c R
 have hs:((w.alloc (.cells a T)).alloc (.cells b S)).heap.size=w.heap.size+1+1:=by simp
 rw[hs]at h3
 exact⟨(h3.2.block _ (by omega)).trans h1,(h3.2.block _ (by omega)).trans h2,h3.1,h4.trans (h3.2.mono (by omega))⟩
end Go.Proofs.YtmpeaoacaecgpaaGreatDoor.mW
namespace Go.Proofs.YtmpeaoacaecgpaaGreatDoor.Ce
open Go.RowKit Base Base2 cO pU Zz rC qg oG ajm JY
theorem below_setRow {B g:Nat} {w0 w:World} (h:Below B w0 w) (hg:B≤g) (ds:Array Value):Below B w0 (w.setRow g ds):=by
 refine⟨h.os,h.tape,h.output,?_,fun k hk=>(setRow_other w g k ds (by omega)).trans (h.block k hk)⟩
 simpa[World.setRow]using h.size
theorem aK (L:List UInt8):(strOf L).toList=L:=by rw[Lib.toList_data];rfl
theorem dl (s:ByteArray):s.data.toList.length=s.size:=Array.length_toList
def Z3 (T:TypeId) (w:World) (g:Nat):Prop:=B3 T w g (.string ⟨#[]⟩) (.string ⟨#[]⟩) (.slice none 0 0)
theorem Ru {w:World} {g b:Nat} (hne:b≠g) (ds:Array Value) (k:Nat):(w.setRow g ds).cell? ⟨b,k,none⟩=w.cell? ⟨b,k,none⟩:=by
 simp only[World.cell?,setRow_other w g b ds hne]
theorem Ou {w:World} {A:Option Addr} {n p:Nat} {l:List (ByteArray×ByteArray)} {T:TypeId} (hne:∀q ∈ l,q.1.data.toList≠[]) {a':Option Addr} {b' c':Nat} (h:zH w A n l) (hz:B3 T w p (.string ⟨#[]⟩) (.string ⟨#[]⟩) (.slice a' b' c')) (ds:Array Value):zH (w.setRow p ds) A n l:=by
 refine⟨h.1,fun j hj=>?_⟩
 obtain⟨g,off,e,hlt,h1,h2⟩:=h.2 j hj
 have hgp:g≠p:=by
  rintro rfl
  have hc:=cell_of_row w g (off+j*2) _ _ _ hz
  rw[h1]at hc
  have hn:=hne l[j] (List.getElem_mem hj)
  generalize off+j*2=i at hc
  match i,hc with
  |0,hc=>
   simp at hc
   exact hn (by rw[hc])
  |1,hc=>
   simp at hc
   exact hn (by rw[hc])
  |2,hc=>simp at hc
  |_+3,hc=>simp at hc
 exact⟨g,off,e,by simpa[World.setRow]using hlt,(Ru hgp ds _).trans h1,(Ru hgp ds _).trans h2⟩
theorem Gs {T:TypeId} {w:World} {g:Nat} {a b c:Value} (h:B3 T w g a b c) (x y z:Value):B3 T (w.setRow g #[x,y,z]) g x y z:=setRow_heap w g #[a,b,c] #[x,y,z] _ (0,0) h
theorem vU {w:World} {g:Nat} {ops:Array Oper} {rest:List Oper} {o:Oper} {a:Act} {Q:Exit→Act→World→Prop} {p q r:Value} (hU:B3 44 w g p q r) (S1 S2:ByteArray) (A:Option Addr) (n c:Nat) (x y:Operand) (ho:o.op=.store 44 x y) (hgd:o.guard=none)
  (hx:a.eval x=.pointer (some ⟨g,0,none⟩)) (hy:a.eval y=.agg #[.string S1,.string S2,.slice A n c])
  (h:wpList Tryz.prog ops Q rest (a.put o.dst undef) (w.setRow g #[.string S1,.string S2,.slice A n c])):wpList Tryz.prog ops Q (o::rest) a w:=
 wpList_store_row hgd 44 x y ho g #[.string S1,.string S2,.slice A n c] hx hy 44 #[p,q,r] hU (by kernel_rfl) rfl (by simp[Value.oneCell']) h
def MtA (M:MT) (e:Ending) (w':World):Prop:=∃A c,e=.returned (.agg #[.string (strOf M.ty),.string (strOf M.sub),.slice A M.ps.length c])∧M.ps.length≤c∧c≤maxLen∧zH w' A M.ps.length (nY M.ps)
theorem anl {fn:Func} {a:Tmp} (hf:fn.results=#[.cell a 44]) {w:World} {g:Nat} {p q r:Value} (hU:B3 44 w g p q r) (tmps:Array Value) (h2:tmps.getD a undef=.pointer (some ⟨g,0,none⟩)):
  (results fn tmps).run Tryz.prog w=.ok (.agg #[p,q,r]) w:=
 results_cell_row hf tmps w g _ _ _ _ h2 hU Tryz.underlying44 rfl (by
  rw[show(Tryz.prog.info? 44).map (·.size)=some 3 by kernel_rfl]
  rfl)
theorem Jp {w:World} {A:Option Addr} {n p:Nat} {L:List UInt8} {T:TypeId} (h:aY w A n (ah L)) (hz:Z3 T w p) (ds:Array Value):aY (w.setRow p ds) A n (ah L):=by
 refine⟨h.1,fun j hj=>?_⟩
 obtain⟨g,off,e,hlt,h1⟩:=h.2 j hj
 have hgp:g≠p:=by
  rintro rfl
  have hc:=cell_of_row w g (off+j) _ _ _ hz
  rw[h1]at hc
  have hv:∃z:Int,(ah L)[j]=.int .u8 z:=⟨((L[j]'(by simpa[ah]using hj)).toNat:Int),by simp[ah]⟩
  obtain⟨z,hv⟩:=hv
  rw[hv]at hc
  generalize off+j=i at hc
  match i,hc with
  |0,hc=>simp at hc
  |1,hc=>simp at hc
  |2,hc=>simp at hc
  |_+3,hc=>simp at hc
 exact⟨g,off,e,by simpa[World.setRow]using hlt,(Ru hgp ds _).trans h1⟩
theorem QM (M:MT) (h:sV.fD M.ty M.sub M.ps=true):∀q ∈ nY M.ps,q.1.data.toList≠[]:=by
 intro q hq
 unfold nY at hq
 obtain⟨p,hp,rfl⟩:=List.mem_map.1 hq
 obtain⟨k,hk,rfl⟩:=List.getElem_of_mem hp
 unfold sV.fD at h
 rw[Bool.and_eq_true,Bool.and_eq_true]at h
 have:=sV.D6 h.2.2 k hk
 unfold sV.yU at this
 rw[List.getElem?_eq_getElem hk]at this
 simp only[Bool.and_eq_true]at this
 exact sV.En (sV.nK this.1).1
theorem adt:sV.fD fall.ty fall.sub fall.ps=true:=by decide
theorem LZ (H:List UInt8):sV.fD (typ H).ty (typ H).sub (typ H).ps=true:=by
 unfold typ
 cases h:mime (Es H)with
 |none=>exact adt
 |some M=>exact sV.adZ h
theorem aeJ (s:ByteArray) (w:World) (hs:s.size≤100000000):Calls Tryz.prog 73 #[.string s] w fun e w'=>(∃X,e=.returned (.tuple #[.string X,.bool (YT s.data.toList)])∧(YT s.data.toList=true→X=strOf (Us s.data.toList)))∧Below w.heap.size w w':=by
 obtain⟨ob,hob⟩:∃x,x=YT s.data.toList:=⟨_,rfl⟩
 obtain⟨ox,hox⟩:∃x,x=strOf (Us s.data.toList):=⟨_,rfl⟩
 rw[←hob,←hox]
 by_cases h6:s.size<6
 ·have HO:Hid (ob=false):=by
   show _=_
   rw[hob]
   unfold YT
   rw[decide_eq_false (by rw[dl];omega)]
   rfl
  have hi:(s.size:Int) - 6<0:=by omega
  clear hob hox
  go_enter Tryz.func73,Tryz.ntmps73
  go_wp2
  go_ret2
  exact⟨⟨_,by rw[HO.out];first|done|rfl,fun h=>by rw[HO.out]at h;cases h⟩,Below.refl _ _⟩
 obtain⟨k,hk⟩:∃k,s.size=k+6:=⟨s.size - 6,by omega⟩
 have hsz:(s.size:Int) - 6=(k:Int):=by omega
 have hk0:¬(k:Int)<0:=by omega
 have hk1:(k:Int)≤(s.size:Int):=by omega
 have hk2:k≤s.size:=by omega
 have hx:=ext_from s k s.size rfl
 have hy:=ext_to s k
 obtain⟨D,hD⟩:∃D,D=strOf (s.data.toList.drop k):=⟨_,rfl⟩
 obtain⟨H,hH⟩:∃H,H=strOf (s.data.toList.take k):=⟨_,rfl⟩
 obtain⟨X,hX⟩:∃X,X=strOf (lower (s.data.toList.drop k)):=⟨_,rfl⟩
 obtain⟨V,hV⟩:∃V,V=ahd s.data.toList:=⟨_,rfl⟩
 have hVl:V.length≤s.size:=by rw[hV];have:=ae6 s.data.toList;rw[dl]at this;exact this
 have hVe:Lib.trimRightS (s.data.toList.take k) [32]=V:=by rw[hV];unfold ahd;rw[dl,show s.size - 6=k by omega]
 have HLO:Hid (∀w:World,Calls Tryz.prog 112 #[.string D] w fun e w'=>e=.returned (.string X)∧Below w.heap.size w w'):=fun w=>by
  rw[hX,hD]
  exact gI _ w (by rw[size_strOf,List.length_drop,dl];unfold maxLen;omega)
 have HTR:Hid (∀w:World,Calls Tryz.prog 172 #[.string H,.string ⟨#[32]⟩] w fun e w'=>e=.returned (.string (strOf V))∧Below w.heap.size w w'):=fun w=>by
  have h:=Tryz.strings_TrimRight_set H ⟨#[32]⟩ w (by rw[hH,size_strOf,List.length_take,dl];omega) (by decide) (ascii_of_all (by decide))
  rw[show H.data.toList=s.data.toList.take k by rw[hH];rfl,show(⟨#[32]⟩:ByteArray).data.toList=[32]from rfl,hVe]at h
  exact h
 have Y5:Hid (∀w:World,Calls Tryz.prog 171 #[.string (strOf V),.string ⟨#[59]⟩] w fun e w'=>e=.returned (.tuple #[.string (strOf (Lib.trimSuffix V [59])),.bool (Lib.hasSuffix V [59])])∧w'=w):=fun w=>
  Tryz.strings_CutSuffix (strOf V) ⟨#[59]⟩ w (by rw[size_strOf];omega)
 obtain⟨R,hR⟩:∃R,R=Lib.trimSuffix V [59]:=⟨_,rfl⟩
 obtain⟨sb,hsb⟩:∃x,x=Lib.hasSuffix V [59]:=⟨_,rfl⟩
 rw[←hR,←hsb]at Y5
 have hB:YT s.data.toList=(decide (lower (s.data.toList.drop k)=Gt)&&sb):=by
  unfold YT
  rw[dl,decide_eq_true (by omega),show s.size - 6=k by omega,←hV,←hsb]
  rfl
 have hxo:ox=strOf R:=by rw[hox,hR,hV];rfl
 rw[←hD]at hx
 rw[←hH]at hy
 by_cases hb:lower (s.data.toList.drop k)=Gt
 ·have q1:(X.toList==[98,97,115,101,54,52])=true:=by rw[hX,aK,hb];rfl
  have q2:X.toList=[98,97,115,101,54,52]:=by rw[hX,aK,hb];rfl
  have HO:Hid (ob=sb∧ox=strOf R):=⟨by rw[hob,hB,hb,decide_eq_true rfl];rfl,hxo⟩
  clear hob hox hD hH hX hV hVl hVe hR hsb hB hxo hb h6 hk
  go_enter Tryz.func73,Tryz.ntmps73
  go_wp2_with fail
  refine(HLO.out _).mono ?_
  rintro e w1 ⟨rfl,hb1⟩
  have HB1:=hid hb1
  clear hb1
  go_wp2_with fail
  refine(HTR.out _).mono ?_
  rintro e w2 ⟨rfl,hb2⟩
  have HB2:=hid (bel HB1.out hb2)
  clear hb2
  go_wp2_with fail
  refine(Y5.out _).mono ?_
  rintro e w3 ⟨rfl,hw3⟩
  subst hw3
  go_wp2
  go_ret2
  exact⟨⟨_,by rw[HO.out.1];first|done|rfl,fun _=>HO.out.2.symm⟩,HB2.out⟩
 have q1:(X.toList==[98,97,115,101,54,52])=false:=by rw[hX,aK,beq_eq_false_iff_ne];exact hb
 have q2:¬X.toList=[98,97,115,101,54,52]:=by rw[hX,aK];exact hb
 have HO:Hid (ob=false):=by show _=_;rw[hob,hB,decide_eq_false hb];rfl
 clear hob hox hD hH hX hV hVl hVe hR hsb hB hxo hb h6 hk
 go_enter Tryz.func73,Tryz.ntmps73
 go_wp2_with fail
 refine(HLO.out _).mono ?_
 rintro e w1 ⟨rfl,hb1⟩
 have HB1:=hid hb1
 clear hb1
 go_wp2
 go_ret2
 exact⟨⟨_,by rw[HO.out];first|done|rfl,fun h=>by rw[HO.out]at h;cases h⟩,HB1.out⟩
theorem IC (w:World):Calls Tryz.prog 30 #[] w fun e w'=>MtA fall e w'∧Below w.heap.size w w':=by
 go_enter Tryz.func30,Tryz.ntmps30
 go_wp2
 obtain⟨h1,h2,h3⟩:=mW.laid2 w #[.string ⟨#[116,101,120,116]⟩,.string ⟨#[112,108,97,105,110]⟩,.slice (some ⟨w.heap.size+1,0,none⟩) 1 1] #[.string ⟨#[99,104,97,114,115,101,116]⟩,.string ⟨#[85,83,45,65,83,67,73,73]⟩] 44 98
 have hlt:=(Array.getElem?_eq_some_iff.1 h2).1
 refine bodyPost_ret (anl rfl h1 _ rfl) rfl ⟨⟨some ⟨w.heap.size+1,0,none⟩,1,rfl,Nat.le_refl _,by decide,rfl,fun j hj=>?_⟩,h3⟩
 obtain rfl:j=0:=by simp[nY,fall]at hj;omega
 exact⟨w.heap.size+1,0,rfl,hlt,cell_of_row _ (w.heap.size+1) 0 _ _ _ h2,cell_of_row _ (w.heap.size+1) 1 _ _ _ h2⟩
theorem aeI (s:ByteArray) (w:World) (hs:s.size≤1000000):Calls Tryz.prog 75 #[.string s] w fun e w'=>MtA (typ s.data.toList) e w'∧Below w.heap.size w w':=by
 obtain⟨M,hM⟩:∃M,M=typ s.data.toList:=⟨_,rfl⟩
 have Za:=hid (QM M (by rw[hM];exact LZ _))
 rw[←hM]
 obtain⟨o,ho⟩:∃o,o=mime (Es s.data.toList):=⟨_,rfl⟩
 have HMO:Hid (M=o.getD fall):=by show _=_;rw[hM,ho];rfl
 obtain⟨X,hX⟩:∃X,X=strOf (Es s.data.toList):=⟨_,rfl⟩
 have TB:Hid (∀w:World,Calls Tryz.prog 176 #[.string X] w fun e w'=>MtR o e w'∧Below w.heap.size w w'):=fun w=>by
  have h:=oG.parse_any X w (by rw[hX,size_strOf];have:=aiX s.data.toList;rw[dl]at this;omega)
  rw[show X.data.toList=Es s.data.toList by rw[hX];rfl,←ho]at h
  exact h
 obtain⟨pb,hpb⟩:∃x,x=Lib.hasPrefix s.data.toList [59]:=⟨_,rfl⟩
 have HHP:Hid (∀w:World,Calls Tryz.prog 103 #[.string s,.string ⟨#[59]⟩] w fun e w'=>e=.returned (.bool pb)∧w'=w):=fun w=>by rw[hpb];exact Tryz.strings_HasPrefix s ⟨#[59]⟩ w
 have HXT:Hid (pb=true→X=strOf (tp++s.data.toList)):=by
  show _→_
  intro h
  rw[hX]
  unfold Es
  rw[←hpb,if_pos h]
 have HXF:Hid (pb=false→X=s):=by
  show _→_
  intro h
  rw[hX]
  unfold Es
  rw[←hpb,h,if_neg (by decide),aG]
 have MC:=hid hs
 clear hM ho hX hpb hs
 go_enter Tryz.func75,Tryz.ntmps75
 go_upto_region 1 with(fail)
 generalize hw:World.alloc w _=w1
 have h1:Z3 44 w1 w.heap.size∧Below w.heap.size w w1:=by
  subst hw
  exact⟨heap_alloc_new _ _,(Below.refl _ _).alloc (Nat.le_refl _) _⟩
 clear hw
 have kP:=hid h1.1
 have HB1:=hid h1.2
 clear h1
 go_wp2_with fail
 refine(HHP.out _).mono ?_
 rintro e wx ⟨rfl,hwx⟩
 obtain rfl:w1=wx:=by first|exact hwx|exact hwx.symm
 clear hwx
 cases pb
 focus
  obtain rfl:X=s:=HXF.out rfl
  clear HXT HXF
  go_wp2_with fail
 rotate_left
 focus
  have a1:∀w:World,(Op.stringOp .add ⟨#[116,101,120,116,47,112,108,97,105,110]⟩ s).run Tryz.prog w=.ok (.string X) w:=fun w=>by
   rw[HXT.out rfl]
   exact dL ⟨#[116,101,120,116,47,112,108,97,105,110]⟩ s w (by have:=MC.out;show 10+s.size≤_;omega)
  clear HXT HXF
  go_wp2_with fail
  clear a1
 rotate_left
 all_goals
  refine(TB.out _).mono ?_
  rintro e w2 ⟨⟨A,c,rfl,k1,k2,k3⟩,hb2⟩
  have gY:Hid (Z3 44 w2 w.heap.size):=B3.below kP.out hb2
  have HB2:=hid (bel HB1.out hb2)
  have HP2:=hid k3
  clear kP HB1 hb2 k3
  cases o with
  |none=>
   have HM:Hid (M=fall):=HMO.out
   clear HMO HP2
   go_upto_region 4 with(fail)
   generalize bI:World.alloc w2 _=w3
   have hb3:Below w2.heap.size w2 w3:=by rw[←bI];exact(Below.refl _ _).alloc (Nat.le_refl _) _
   have jI:Hid (Z3 44 w3 w.heap.size):=B3.below gY.out hb3
   have HB3:=hid (bel HB2.out hb3)
   clear bI gY HB2 hb3
   go_wp2_with fail
   refine(IC _).mono ?_
   rintro e w4 ⟨⟨A4,c4,rfl,j1,j2,j3⟩,hb4⟩
   have JQ:Hid (Z3 44 w4 w.heap.size):=B3.below jI.out hb4
   have HB4:=hid (bel HB3.out hb4)
   have HP4:=hid j3
   clear jI HB3 hb4 j3
   go_wp2_with (refine vU JQ.out (strOf fall.ty) (strOf fall.sub) A4 fall.ps.length c4 (.tmp 2) (.tmp 16) rfl rfl rfl rfl ?_)
   try simp only[Exit.inBlock,Exit.then]
   exact bodyPost_ret (w:=World.setRow w4 w.heap.size #[.string (strOf fall.ty),.string (strOf fall.sub),.slice A4 fall.ps.length c4]) (anl rfl (Gs JQ.out _ _ _) _ rfl) rfl ⟨by rw[HM.out];exact⟨A4,c4,rfl,j1,j2,Ou (by rw[←HM.out];exact Za.out) HP4.out JQ.out _⟩,below_setRow HB4.out (Nat.le_refl _) _⟩
  |some N=>
   obtain rfl:M=N:=HMO.out
   clear HMO
   go_upto_region 4 with(fail)
   generalize bI:World.alloc w2 _=w3
   have hxa:B3 44 w3 w2.heap.size (.string (strOf M.ty)) (.string (strOf M.sub)) (.slice A M.ps.length c):=by rw[←bI];exact heap_alloc_new _ _
   have hb3:Below w2.heap.size w2 w3:=by rw[←bI];exact(Below.refl _ _).alloc (Nat.le_refl _) _
   have jI:Hid (Z3 44 w3 w.heap.size):=B3.below gY.out hb3
   have HB3:=hid (bel HB2.out hb3)
   have Zb:Hid (zH w3 A M.ps.length (nY M.ps)):=zH.below HP2.out hb3
   clear bI gY HB2 HP2 hb3
   obtain⟨d0,d1,d2⟩:=hxa.facts
   go_wp2_with (refine vU jI.out (strOf M.ty) (strOf M.sub) A M.ps.length c (.tmp 2) (.tmp 15) rfl rfl rfl rfl ?_)
   try simp only[Exit.inBlock,Exit.then]
   exact bodyPost_ret (w:=World.setRow w3 w.heap.size #[.string (strOf M.ty),.string (strOf M.sub),.slice A M.ps.length c]) (anl rfl (Gs jI.out _ _ _) _ rfl) rfl ⟨⟨A,c,rfl,k1,k2,Ou Za.out Zb.out jI.out _⟩,below_setRow HB3.out (Nat.le_refl _) _⟩
end Go.Proofs.YtmpeaoacaecgpaaGreatDoor.Ce
namespace Go.Proofs.YtmpeaoacaecgpaaGreatDoor.TokU
open Go.RowKit Base Base2 pU WZ Gn Zz qh CV
theorem Ym (s:ByteArray) (w:World) (hs:s.size≤1073741824):
  Calls Tryz.prog 182 #[.string s] w fun e w'=>e=.returned (.bool (quotable s.data.toList))∧Below w.heap.size w w':=by
 have hl:s.data.toList.length=s.size:=Array.length_toList
 have HL:=hid hl
 clear hl
 have hcv:=fun(w:World) s=>run_bytes_of_string (P:=Tryz.prog) w 9 45 5 s Tryz.underlying9 Tryz.underlying45 Tryz.underlying5
 have Gh:Hid (s.size≤grownCap w s.size 0 5):=grownCap_ge w s.size 0 5
 go_enter Tryz.func182,Tryz.ntmps182
 go_wp2_with fail
 refine(RefD.decode_any _ s.size _ s.data.toList _ (fV s _ w 5) hs Gh.out).mono ?_
 rintro e w2 ⟨v,rfl,hown,hb2⟩
 have hbel:Below w.heap.size w w2:=((Below.refl _ _).alloc (Nat.le_refl _) _).drew.trans (hb2.mono (by simp))
 clear hb2 hcv Gh
 obtain⟨n,hn⟩:∃n,n=(dec s.data.toList).length:=⟨_,rfl⟩
 have hn2:n≤1073741824:=by rw[hn];have:=akn.ku s.data.toList;have:=HL.out;omega
 rw[←hn]at hown
 have HN:=hid hn
 clear hn
 obtain⟨A,cap,rfl,hc,_,hr⟩:=aJ hown
 have HR:=hid hr
 clear hown hr
 go_wp2_with fail
 go_loop [10] (fun vk=>∃k:Nat,k≤n∧vk=.int .i64 k∧Hid ((dec s.data.toList).all qch=((dec s.data.toList).drop k).all qch)) (fun vk=>n - (intOf vk).toNat)
 case atStart=>exact⟨0,Nat.zero_le _,rfl,rfl⟩
 case round=>
  obtain⟨k,hk,rfl,HQ⟩:=hrel
  by_cases hlt:k<n
  ·have hlt':k<(dec s.data.toList).length:=by rw[←HN.out];exact hlt
   obtain⟨r,hrr⟩:∃r,r=(dec s.data.toList)[k]:=⟨_,rfl⟩
   obtain⟨b,off,rfl,hb,_⟩:=HR.out.spot (by omega)
   have hcell:=HR.out.int k hlt'
   rw[←hrr]at hcell
   have HD:Hid ((dec s.data.toList).drop k=r::(dec s.data.toList).drop (k+1)):=by
    show _=_
    rw[List.drop_eq_getElem_cons hlt',hrr]
   clear hrr
   by_cases hq:r=9∨32≤r∧r≤126∨128≤r∧r≤255
   ·have HQ2:Hid ((dec s.data.toList).all qch=((dec s.data.toList).drop (k+1)).all qch):=by
     show _=_
     rw[HQ.out,HD.out,List.all_cons,show qch r=true by unfold qch;rw[decide_eq_true_iff];exact hq,Bool.true_and]
    rcases hq with h|⟨h1,h2⟩|⟨h1,h2⟩
    ·subst h
     go_wp2
     go_round
     case rel=>exact⟨k+1,by omega,by go_num,HQ2⟩
     case measure=>simp[intOf];omega
    ·have e1:(r==127)=false:=by simp;omega
     by_cases h9:r=9
     ·omega
     have e2:(r !=9)=true:=by simp;omega
     go_wp2
     go_round
     case rel=>exact⟨k+1,by omega,by go_num,HQ2⟩
     case measure=>simp[intOf];omega
    ·have e1:(r==127)=false:=by simp;omega
     have e2:(r !=9)=true:=by simp;omega
     go_wp2
     go_round
     case rel=>exact⟨k+1,by omega,by go_num,HQ2⟩
     case measure=>simp[intOf];omega
   ·have HF:Hid (quotable s.data.toList=false):=by
     show _=_
     rw[quotable,HQ.out,HD.out,List.all_cons,show qch r=false by unfold qch;rw[decide_eq_false_iff_not];exact hq,Bool.false_and,Bool.and_false]
    have e2:(r !=9)=true:=by simp;omega
    have hcase:r<32∨(r==127)=true∧¬r<32∨(r==127)=false∧¬r<32∧255<r:=by
     by_cases h127:r=127
     ·exact .inr (.inl ⟨by simp[h127],by omega⟩)
     ·by_cases h32:r<32
      ·exact .inl h32
      ·exact .inr (.inr ⟨by simp[h127],h32,by omega⟩)
    clear hq
    rcases hcase with h|⟨h,h'⟩|⟨h,h',h''⟩
    all_goals
     go_wp2
     all_goals
      go_ret
      rw[HF.out]
      exact⟨rfl,hbel⟩
  ·obtain rfl:k=n:=by omega
   have HF:Hid (quotable s.data.toList=val s.data.toList):=by
    show _=_
    rw[quotable,HQ.out,HN.out,List.drop_length]
    simp
   have hcv:=fun(w:World) s=>run_bytes_of_string (P:=Tryz.prog) w 9 45 5 s Tryz.underlying9 Tryz.underlying45 Tryz.underlying5
   have Gh:Hid (s.size≤grownCap w2 s.size 0 5):=grownCap_ge w2 s.size 0 5
   go_wp2_with fail
   refine(akn.fF _ s.size _ s.data.toList _ (fV s _ w2 5) hs Gh.out).mono ?_
   rintro e w3 ⟨rfl,hb3⟩
   rw[←HF.out]
   clear hcv
   go_wp2_with fail
   go_ret
   exact⟨rfl,((hbel.alloc hbel.size _).drew).trans (hb3.mono (by have:=hbel.size;simp;omega))⟩
end Go.Proofs.YtmpeaoacaecgpaaGreatDoor.TokU
namespace Go.Proofs.YtmpeaoacaecgpaaGreatDoor.Zu
open Go.RowKit Base Base2 cO pU qg OW NG OX oG rC
def KH:List (ByteArray×ByteArray)→List UInt8→Option ByteArray
 |[],_=>none
 |p::r,n=>if p.1.data.toList=n then some p.2 else KH r n
def ajt (o:Option ByteArray):Value:=match o with
 |none=>.tuple #[.string ⟨#[]⟩,.bool false]
 |some x=>.tuple #[.string x,.bool true]
theorem Vk (l:List (ByteArray×ByteArray)) (n:List UInt8):(KH l n).isSome=l.any fun p=>p.1.data.toList==n:=by
 induction l with
 |nil=>rfl
 |cons p r ih=>
  unfold KH
  by_cases h:p.1.data.toList=n
  ·simp[h]
  rw[if_neg h,ih]
  simp[h]
theorem aes (A:Option Addr) (n cap:Nat) (l:List (ByteArray×ByteArray)) (name:ByteArray) (w:World) (hr:zH w A n l) (hc:n≤cap) (hm:n≤1073741824):
  Calls Tryz.prog 181 #[.slice A n cap,.string name] w fun e w'=>e=.returned (ajt (KH l name.data.toList))∧Below w.heap.size w w':=by
 have hl:l.length=n:=hr.1
 have HL:=hid hl
 have HR:=hid hr
 obtain⟨G,hG⟩:∃G,G=ajt (KH l name.data.toList):=⟨_,rfl⟩
 rw[←hG]
 have HG:=hid hG
 clear hr hG hl
 go_enter Tryz.func181,Tryz.ntmps181
 go_wp2
 go_loopw [6,9] (fun _ vk wr=>∃k:Nat,k≤n∧vk=.int .i64 (k:Int)∧Hid (Below w.heap.size w wr)∧Hid (G=ajt (KH (l.drop k) name.data.toList))) (fun _ vk _=>n - (intOf vk).toNat)
 case atStart=>exact⟨0,Nat.zero_le _,rfl,Below.refl _ _,HG.out⟩
 case round =>
  obtain⟨k,hk,rfl,HB,HK⟩:=hrel
  by_cases hlt:k<n
  ·have hkl:k<l.length:=by rw[HL.out];exact hlt
   obtain⟨b,off,rfl,hb,h1,h2⟩:=(HR.out.under HB.out (Nat.le_refl _)).2 k hkl
   have hd:l.drop k=l[k]::l.drop (k+1):=List.drop_eq_getElem_cons hkl
   obtain⟨s1,hs1⟩:∃s,s=l[k].1:=⟨_,rfl⟩
   obtain⟨s2,hs2⟩:∃s,s=l[k].2:=⟨_,rfl⟩
   rw[←hs1]at h1
   rw[←hs2]at h2
   have hki:(k:Int)<(n:Int):=by omega
   by_cases he:s1.data.toList=name.data.toList
   ·have HE:Hid (G=.tuple #[.string s2,.bool true]):=by
     show _=_
     rw[HK.out,hd]
     unfold KH
     rw[←hs1,←hs2,if_pos he]
     rfl
    have hq:(s1.toList==name.toList)=true:=by rw[Lib.toList_data,Lib.toList_data,he];simp
    have hq2:s1.toList=name.toList:=by rw[Lib.toList_data,Lib.toList_data,he]
    clear hd hs1 hs2 hb hkl he hq2
    go_wp2
    go_ret2
    exact⟨by rw[HE.out];rfl,HB.out⟩
   ·have HE:Hid (G=ajt (KH (l.drop (k+1)) name.data.toList)):=by
     show _=_
     rw[HK.out,hd]
     conv=>lhs;unfold KH
     rw[←hs1,if_neg he]
    have hq:(s1.toList==name.toList)=false:=by rw[Lib.toList_data,Lib.toList_data,beq_eq_false_iff_ne];exact he
    have hq2:¬s1.toList=name.toList:=by rw[Lib.toList_data,Lib.toList_data];exact he
    clear hd hs1 hs2 hb hkl he
    go_wp2
    go_roundw
    case rel=>exact⟨k+1,by omega,by go_num,HB.out,HE.out⟩
    case measure=>simp[intOf];omega
  ·have HE:Hid (G=.tuple #[.string ⟨#[]⟩,.bool false]):=by
    show _=_
    rw[HK.out,List.drop_eq_nil_of_le (by rw[HL.out];omega)]
    rfl
   go_wp2
   go_ret2
   exact⟨by rw[HE.out];rfl,HB.out⟩
end Go.Proofs.YtmpeaoacaecgpaaGreatDoor.Zu
namespace Go.Proofs.YtmpeaoacaecgpaaGreatDoor.AggN
open Go.Joins Go.Deep Go.ChangeShapes Go.WideShapes Go.ChangeAt Go.RowKit Base
variable {P:Program} {w:World} {H:Type} {enc:TypeId×Value→H} {base:Nat} {held:Bool} {spare:Nat→Bool}
theorem weightsAll_mem {P:Program} {e:TypeId}:∀{l:List (DataW H)} {d:DataW H},d ∈ l→∀k ∈ d.weights P e,k ∈ DataW.weightsAll P e l
 |_::_,_,.head _,k,hk=>by unfold DataW.weightsAll;exact List.mem_append_left _ hk
 |_::_,_,.tail _ h,k,hk=>by unfold DataW.weightsAll;exact List.mem_append_right _ (weightsAll_mem h k hk)
end Go.Proofs.YtmpeaoacaecgpaaGreatDoor.AggN
