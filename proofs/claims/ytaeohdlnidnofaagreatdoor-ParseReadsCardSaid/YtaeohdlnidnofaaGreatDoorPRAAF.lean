/- Lemmas. -/
import Derived.Test.YtaeohdlnidnofaaGreatDoorPRAAE
set_option linter.unusedSimpArgs false
set_option linter.unusedVariables false
set_option maxRecDepth 100000
set_option maxHeartbeats 64000000
namespace Go.Proofs.YtaeohdlnidnofaaGreatDoor
open Tryz
namespace XD
open Go.RowKit Base dJ lS qm Ee Bv fE XC aaC
theorem jv {w:World} {g:Nat} {L:List Nat} (h:Box w g 187 L) (e:L.length=8) (ok:Bool) (a:Array Value) (i:a.getD 2 undef=.pointer (some ⟨g,0,none⟩)) (f:a.getD 3 undef=.bool ok):
  (results f221 a).run prog w=.ok (.tuple #[.agg (aZ L).toArray,.bool ok]) w:=by
 have d:a[2]?.getD undef=.pointer (some ⟨g,0,none⟩):=by simpa using i
 have c:a[3]?.getD undef=.bool ok:=by simpa using f
 simp[results,results221,d,c,asAddr,ZQ h e]
def Gv:Option Nat→Int
 |none=> -1
 |some g=>(g:Int)
def place (g:Option Nat) (n k:Nat):Nat:=match g with
 |none=>k
 |some x=>if x≤k then 8 - n+k else k
def wP (L:List Nat) (g:Option Nat):Nat→List Nat
 |0=>l9
 |k+1=>(wP L g k).set (place g L.length k) (L.getD k 0)
theorem oK (L:List Nat) (g:Option Nat) (k:Nat):(wP L g k).length=8:=by
 induction k with
 |zero=>rfl
 |succ k ih=>rw[wP,List.length_set,ih]
theorem VD {L:List Nat} (h:L.length=8):wP L none L.length=L:=by
 match L,h with
 |[a,b,c,d,e,f,g,i],_=>rfl
theorem VE {L : List Nat} {g : Nat} (h : g ≤ L.length) (j : L.length ≤ 7) : wP L (some g) L.length = fill (L.take g) (L.drop g) := by
 match L,j,h with
 | [], _, h => obtain rfl:g=0:=by simpa using h
               rfl
 |[a],_,h=>rcases(show g=0∨g=1 by simp at h;omega)with rfl|rfl<;>rfl
 |[a,b],_,h=>rcases(show g=0∨g=1∨g=2 by simp at h;omega)with rfl|rfl|rfl<;>rfl
 |[a,b,c],_,h=>rcases(show g=0∨g=1∨g=2∨g=3 by simp at h;omega)with rfl|rfl|rfl|rfl<;>rfl
 |[a,b,c,d],_,h=>rcases(show g=0∨g=1∨g=2∨g=3∨g=4 by simp at h;omega)with rfl|rfl|rfl|rfl|rfl<;>rfl
 |[a,b,c,d,e],_,h=>rcases(show g=0∨g=1∨g=2∨g=3∨g=4∨g=5 by simp at h;omega)with rfl|rfl|rfl|rfl|rfl|rfl<;>rfl
 |[a,b,c,d,e,f],_,h=>rcases(show g=0∨g=1∨g=2∨g=3∨g=4∨g=5∨g=6 by simp at h;omega)with rfl|rfl|rfl|rfl|rfl|rfl|rfl<;>rfl
 |[a,b,c,d,e,f,i],_,h=>rcases(show g=0∨g=1∨g=2∨g=3∨g=4∨g=5∨g=6∨g=7 by simp at h;omega)with rfl|rfl|rfl|rfl|rfl|rfl|rfl|rfl<;>rfl
theorem FC {t:List UInt8} {a b:Nat} (h:kF t=some [a,b]):a<65536∧b<65536:=by
 have c:∀(ps:List (List UInt8)) (l:List Nat),smalls ps=some l→∀x ∈ l,x≤255:=by
  intro ps;induction ps with
  |nil=>intro l h;injection h with h;subst h;intro x hx;simp at hx
  |cons p r ih=>
   intro l h;rw[smalls]at h;split at h
   ·rename_i n y h1 h2;injection h with h
    subst h;intro x hx;rcases List.mem_cons.1 hx with rfl|hx
    ·exact MO h1
    exact ih y h2 x hx
   cases h
 unfold kF at h;cases e:smalls (cO t)with
 |none=>rw[e]at h;cases h
 |some l=>
  rw[e]at h;replace h:two l=some [a,b]:=h;unfold two at h;split at h
  ·rename_i x1 x2 x3 x4;injection h with h
   injection h with h1 h
   injection h with h2 _
   have i:=c _ _ e x1 (by simp);have g:=c _ _ e x2 (by simp);have f:=c _ _ e x3 (by simp);have d:=c _ _ e x4 (by simp);omega
  cases h
theorem kP (l:List UInt8) (a:Nat) (c:UInt8) (h:l[a]?=some c):l.drop a=c::l.drop (a+1):=by
 obtain⟨e,d⟩:=List.getElem?_eq_some_iff.1 h;rw[←d];exact List.drop_eq_getElem_cons e
theorem jm (s:ByteArray) (w:World) (hs:s.size≤1048576):Calls prog 221 #[.string s] w fun e w'=>e=.returned (Gt (six s.data.toList))∧Below w.heap.size w w':=by
 rw[←XP];obtain⟨i0,hi,f8,e9,e8⟩:=info_parts Ls;have hl:s.data.toList.length=s.size:=Array.length_toList;have X:=hid hl;obtain⟨D,hD⟩:∃D,D=doc s.data.toList:=⟨_,rfl⟩;rw[←hD];have HD:=hid hD;clear hD hl;go_enter func221,ntmps221;go_upto_region 3 with(fail)
 generalize hw1:(w.alloc _).alloc _=w1;have r:Hid (Below w.heap.size w w1):=by
  show Below _ _ _;rw[←hw1];exact((Below.refl _ _).alloc (Nat.le_refl _) _).alloc (by simp) _
 have HA:Hid (Box w1 w.heap.size 187 l9):=by
  show Box _ _ _ _;rw[←hw1];unfold Box;rw[heap_alloc_old _ _ (by simp)];exact heap_alloc_new _ _
 have HN:Hid (Box w1 (w.heap.size+1) 187 l9):=by
  show Box _ _ _ _;rw[←hw1];unfold Box;have:=heap_alloc_new (w.alloc (.cells (aZ l9).toArray 187)) (.cells (aZ l9).toArray 187);rw[show(w.alloc (.cells (aZ l9).toArray 187)).heap.size=w.heap.size+1 by simp]at this;exact this
 clear hw1
 go_cut [6,7] (fun va vg wx=>va=.int .i64 0∧vg=.int .i64 (-1)∧wx=w1)
 case first=>
  go_wp2
  go_meet
  exact⟨rfl,rfl,rfl⟩
 case rest =>
  obtain⟨rfl,rfl,rfl⟩:=hcut
  apply_assumption
  refine wp_seq_k fun K3 hK3=>?_
  go_cut [6,7]from 16 to 31 (fun va vg wx=>∃(a:Nat) (g:Option Nat),va=.int .i64 (a:Int)∧vg=.int .i64 (Gv g)∧wx=wc∧a≤s.size∧(g=none∨g=some 0)∧Hid (D=R (dB (s.data.toList.drop a)) [] g))
  case first =>
   by_cases h0:s.size=0
   ·have d3:Hid (D=R (dB (s.data.toList.drop 0)) [] none):=by
     show _=_;rw[HD.out,List.drop_zero,show s.data.toList=[]from List.eq_nil_of_length_eq_zero (by rw[X.out,h0])];rfl
    have k5:¬(0:Int)<(s.size:Int):=by omega
    clear h0;go_wp2
    go_meet
    exact⟨0,none,rfl,rfl,rfl,by omega,.inl rfl,d3⟩
   have k5:(0:Int)<(s.size:Int):=by omega
   have i8:0<s.size:=by omega
   obtain⟨c,hc⟩:∃c,s[0]=c:=⟨_,rfl⟩;have HG:Hid (s.data.toList[0]?=some c):=by
    have W:s.data.toList[0]'(by rw[X.out];exact i8)=c:=hc;show _=_;rw[List.getElem?_eq_getElem (by rw[X.out];exact i8),W]
   clear h0;by_cases h58:c=58
   ·have b0:((c.toNat:Int)==58)=true:=by rw[h58];rfl
    by_cases h2:s.size<2
    ·have F:Hid (D=none):=by
      show _=_;rw[HD.out,←List.drop_zero (l:=s.data.toList),kP _ 0 c HG.out,h58,List.drop_eq_nil_of_le (by rw[X.out];omega)];rfl
     have Q:Hid (Below wc.heap.size wc wc):=Below.refl _ _;have k4:(s.size:Int)<2:=by omega
     clear h58;have O:Hid (fin D=none):=by
      show _=_;rw[F.out];rfl
     have t:=hid (fH O);have f:=hid (HA.below Q);have v:=hid (HN.below Q);obtain⟨c0,c1,c2,c3,c4,c5,c6,c7⟩:=dn v (fun _=>0) rfl;obtain⟨a0,a1,a2,a3,a4,a5,a6,a7⟩:=dn f (fun _=>0) rfl;obtain⟨f0,f1,f2,f3,f4,f5,f6,f7⟩:=gq f;go_wp2;exact bodyPost_ret (w:=pV _ w.heap.size (fun _=>0)) (jv (L:=l9) (fZ f (fun _=>0)) rfl false _ rfl rfl) rfl ⟨by rw[t.out],dD (r.trans (Q.mono r.size)) (Nat.le_refl _) _⟩
    have k4:¬(s.size:Int)<2:=by omega
    have i7:1<s.size:=by omega
    obtain⟨d,hd⟩:∃d,s[1]=d:=⟨_,rfl⟩;have k9:Hid (s.data.toList[1]?=some d):=by
     have W:s.data.toList[1]'(by rw[X.out];exact i7)=d:=hd;show _=_;rw[List.getElem?_eq_getElem (by rw[X.out];exact i7),W]
    have j4:Hid (s.data.toList=58::d::s.data.toList.drop 2):=by
     show _=_
     conv=>lhs;rw[←List.drop_zero (l:=s.data.toList),kP _ 0 c HG.out,h58,kP _ 1 d k9.out]
    by_cases hd58:d=58
    ·have d8:((d.toNat:Int)==58)=true:=by rw[hd58];rfl
     have d3:Hid (D=R (dB (s.data.toList.drop 2)) [] (some 0)):=by
      show _=_;rw[HD.out,j4.out,hd58];rfl
     clear h58 hd58;go_wp2
     go_meet
     exact⟨2,some 0,rfl,rfl,rfl,by omega,.inr rfl,d3⟩
    have d8:((d.toNat:Int)==58)=false:=by
     rw[beq_eq_false_iff_ne];intro e;exact hd58 (UInt8.toNat_inj.1 (by show _=58;omega))
    have F:Hid (D=none):=by
     show _=_;rw[HD.out,j4.out];unfold doc;simp only[if_true];rw[if_neg hd58]
    have Q:Hid (Below wc.heap.size wc wc):=Below.refl _ _;clear h58 hd58;have O:Hid (fin D=none):=by
     show _=_;rw[F.out];rfl
    have t:=hid (fH O);have f:=hid (HA.below Q);have v:=hid (HN.below Q);obtain⟨c0,c1,c2,c3,c4,c5,c6,c7⟩:=dn v (fun _=>0) rfl;obtain⟨a0,a1,a2,a3,a4,a5,a6,a7⟩:=dn f (fun _=>0) rfl;obtain⟨f0,f1,f2,f3,f4,f5,f6,f7⟩:=gq f;go_wp2;exact bodyPost_ret (w:=pV _ w.heap.size (fun _=>0)) (jv (L:=l9) (fZ f (fun _=>0)) rfl false _ rfl rfl) rfl ⟨by rw[t.out],dD (r.trans (Q.mono r.size)) (Nat.le_refl _) _⟩
   have b0:((c.toNat:Int)==58)=false:=by
    rw[beq_eq_false_iff_ne];intro e;exact h58 (UInt8.toNat_inj.1 (by show _=58;omega))
   have d3:Hid (D=R (dB (s.data.toList.drop 0)) [] none):=by
    show _=_;rw[HD.out,List.drop_zero]
    conv=>lhs;rw[←List.drop_zero (l:=s.data.toList),kP _ 0 c HG.out]
    unfold doc;simp only[];rw[if_neg h58,←kP _ 0 c HG.out,List.drop_zero]
   clear h58;go_wp2
   go_meet
   exact⟨0,none,rfl,rfl,rfl,by omega,.inl rfl,d3⟩
  case rest =>
   obtain⟨a0,g0,rfl,rfl,rfl,k1,f9,k6⟩:=hcut;have l0:=hid f9;clear f9
   go_upto_block 0 with(fail)
   go_cut [5,6,7,8,9,10,11,12]from 33 to 125 (fun vl _ vg _ _ _ _ _ wx=>∃(L:List Nat) (g:Option Nat),vg=.int .i64 (Gv g)∧Hid (wx.ownsRow wc.heap.size 3 1 vl L.length (fQ L))∧Hid (Below wc.heap.size wc wx)∧Hid (D=some (L,g))∧L.length≤8∧Hid (∀x ∈ L,x<65536)∧Hid (∀x,g=some x→x≤L.length))
   case first=>
    go_wp2;go_loopw [5,6,7,8,9,10,11,12] (fun vl va vg _ _ _ _ _ wr=>∃(a:Nat) (L:List Nat) (g:Option Nat),va=.int .i64 (a:Int)∧vg=.int .i64 (Gv g)∧a≤s.size∧Hid (wr.ownsRow wc.heap.size 3 1 vl L.length (fQ L))∧Hid (Below wc.heap.size wc wr)∧Hid (D=R (dB (s.data.toList.drop a)) L g)∧L.length≤8∧Hid (∀x ∈ L,x<65536)∧Hid (∀x,g=some x→x≤L.length)) (fun _ va _ _ _ _ _ _ _=>s.size - (intOf va).toNat)
    case atStart=>exact⟨a0,[],g0,rfl,rfl,k1,World.ownsRow_nil _ _ _ _,Below.refl _ _,k6,by simp,by intro x hx;simp at hx,by intro x hx;rcases l0 with h|h<;>rw[h]at hx<;>cases hx;simp⟩
    case round=>
     obtain⟨a,L,g,rfl,rfl,ha,HO,j,HW,b9,Z,a8⟩:=hrel;obtain⟨m,hm⟩:∃m,m=L.length:=⟨_,rfl⟩;rw[←hm]at HO b9;have E:=hid hm;clear hm;obtain⟨G,hG⟩:∃G,G=Gv g:=⟨_,rfl⟩;rw[←hG];have b6:=hid hG;clear hG;obtain⟨AL,cL,rfl,h6,b8,d6⟩:=aS HO;clear d6 b8;by_cases hlt:a<s.size
     ·have m7:(a:Int)<(s.size:Int):=by omega
      have i9:Hid (s.data.toList.drop a≠[]):=by
       intro h;have h2:=congrArg List.length h;rw[List.length_drop,X.out]at h2;simp at h2;omega
      by_cases hm8:m=8
      ·have F:Hid (D=none):=by show _=_;rw[HW.out];exact aaw i9 (by rw[←E.out,hm8]) g
       have h4:((m:Int)==8)=true:=by simp;omega
       have h3:(m:Int)=8:=by omega
       clear hm8;have O:Hid (fin D=none):=by
        show _=_;rw[F.out];rfl
       have t:=hid (fH O);have f:=hid (HA.below j);have v:=hid (HN.below j);obtain⟨c0,c1,c2,c3,c4,c5,c6,c7⟩:=dn v (fun _=>0) rfl;obtain⟨a0,a1,a2,a3,a4,a5,a6,a7⟩:=dn f (fun _=>0) rfl;obtain⟨f0,f1,f2,f3,f4,f5,f6,f7⟩:=gq f;go_wp2;exact bodyPost_ret (w:=pV _ w.heap.size (fun _=>0)) (jv (L:=l9) (fZ f (fun _=>0)) rfl false _ rfl rfl) rfl ⟨by rw[t.out],dD (r.trans (j.mono r.size)) (Nat.le_refl _) _⟩
      have h4:((m:Int)==8)=false:=by simp;omega
      have h3:¬(m:Int)=8:=by omega
      have b5:Hid (L.length≠8):=by show _≠_;rw[←E.out];exact hm8
      have m4:m≤7:=by omega
      obtain⟨c,hc⟩:∃c,s[a]=c:=⟨_,rfl⟩;have HG:Hid (s.data.toList[a]?=some c):=by
       have W:s.data.toList[a]'(by rw[X.out];exact hlt)=c:=hc;show _=_;rw[List.getElem?_eq_getElem (by rw[X.out];exact hlt),W]
      have g6:Hid (s.data.toList.drop a=c::s.data.toList.drop (a+1)):=kP _ a c HG;clear hm8 b9;by_cases h58:c=58
      ·have b0:((c.toNat:Int)==58)=true:=by rw[h58];rfl
       have i5:(c.toNat:Int)=58:=by rw[h58];rfl
       cases g with
       |some gx=>
        have F:Hid (D=none):=by show _=_;rw[HW.out,g6.out,h58];exact Ud _ b5 gx
        have hG:0≤G:=by rw[b6.out];exact Int.natCast_nonneg gx
        clear h58;have O:Hid (fin D=none):=by
         show _=_;rw[F.out];rfl
        have t:=hid (fH O);have f:=hid (HA.below j);have v:=hid (HN.below j);obtain⟨c0,c1,c2,c3,c4,c5,c6,c7⟩:=dn v (fun _=>0) rfl;obtain⟨a0,a1,a2,a3,a4,a5,a6,a7⟩:=dn f (fun _=>0) rfl;obtain⟨f0,f1,f2,f3,f4,f5,f6,f7⟩:=gq f;go_wp2;exact bodyPost_ret (w:=pV _ w.heap.size (fun _=>0)) (jv (L:=l9) (fZ f (fun _=>0)) rfl false _ rfl rfl) rfl ⟨by rw[t.out],dD (r.trans (j.mono r.size)) (Nat.le_refl _) _⟩
       |none=>
        have g4:Hid (D=R (dB (s.data.toList.drop (a+1))) L (some m)):=by show _=_;rw[HW.out,g6.out,h58,E.out];exact Xz _ b5
        have hG:¬0≤G:=by rw[b6.out];show ¬(0:Int)≤-1;omega
        have P:Hid (∀x,some m=some x→x≤L.length):=by intro x hx;injection hx with hx;rw[←hx,E.out];exact Nat.le_refl _
        clear h58;go_wp2;go_roundw
        case rel=>exact⟨a+1,L,some m,by go_num,rfl,by omega,by show World.ownsRow _ _ _ _ _ _ _;rw[←E.out];exact HO,j,g4,by rw[←E.out];omega,Z,P⟩
        case measure=>simp[intOf];omega
      have b0:((c.toNat:Int)==58)=false:=by
       rw[beq_eq_false_iff_ne];intro e;exact h58 (UInt8.toNat_inj.1 (by show _=58;omega))
      have i5:¬(c.toNat:Int)=58:=by simpa using b0
      have H0:Hid ((s.data.toList.drop a)[0]?≠some 58):=by
       intro h;rw[g6.out]at h;injection h with h
       exact h58 h
      clear h58;go_wp2_with fail
      refine(XC.dI s a _ ha (by omega)).mono ?_;rintro e w2 ⟨⟨I,b3,rfl⟩,j5⟩;subst j5;have HP:=hid b3;obtain⟨n,hn⟩:∃n,n=val 16 ((s.data.toList.drop a).take I):=⟨_,rfl⟩;have l3:n<65536:=by rw[hn];exact Zx b3
      have l4:=b3.four;have m3:a+I≤s.size:=by have:=b3.len;rw[List.length_drop,X.out]at this;omega
      rw[←hn];have j3:=hid hn;clear hn;have N:=HO.out;have C:=j.out;by_cases hin:a+I<s.size
      ·have i1 : (a : Int) + (I : Int) < (s.size : Int) := by omega
       obtain⟨d,hd⟩:∃d,s[a+I]=d:=⟨_,rfl⟩;have e2:Hid ((s.data.toList.drop a)[I]?=some d):=by
        have W:s.data.toList[a+I]'(by rw[X.out];exact hin)=d:=hd;show _=_;rw[zM,List.getElem?_eq_getElem (by rw[X.out];exact hin),W]
       by_cases h46:d=46
       ·have e5:((d.toNat:Int)==46)=true:=by rw[h46];rfl
        have i6:(d.toNat:Int)=46:=by rw[h46];rfl
        have e0:Hid (D=match kF (s.data.toList.drop a)with
          |some x=>if L.length≤6 then some (L++x,g)else none
          |none=>none):=by
         show _=_;rw[HW.out];exact aay HP (by rw[e2.out,h46]) b5 g
        have j2:Hid (I=0→kF (s.data.toList.drop a)=none):=by
         intro h;refine V6 ?_;have:=e2.out;rw[h,h46]at this;exact this
        obtain⟨T1,k2⟩:∃T1,s.extract a s.size=T1:=⟨_,rfl⟩;have j0:Hid (T1.data.toList=s.data.toList.drop a):=by show _=_;rw[←k2,xM]
        have g9:T1.size≤1073741824:=by rw[dN j0.out,List.length_drop,X.out];omega
        obtain⟨q,hq⟩:∃q,q=kF (s.data.toList.drop a):=⟨_,rfl⟩;have HQ:Hid (q=kF T1.data.toList):=by show _=_;rw[j0.out];exact hq
        rw[←hq]at e0 j2;clear h46 hq;go_wp2_with fail
        refine(UY T1 _ g9).mono ?_;rw[←HQ.out];rintro e w5 ⟨rfl,g2⟩;have T:=bf N g2;have J:Below wc.heap.size wc w5:=C.trans (g2.mono C.size);have H:=hid J;clear g2 N C;cases q with
        | none=>
         have F:Hid (D=none):=e0.out;have HF:Hid (FV none=.tuple #[.int .i64 0,.int .i64 0,.bool false]):=rfl;rw[HF.out];clear T J;by_cases d7:I=0
         ·have e4:((I:Int)==0)=true:=by simp;omega
          clear d7;have O:Hid (fin D=none):=by
           show _=_;rw[F.out];rfl
          have t:=hid (fH O);have f:=hid (HA.below H);have v:=hid (HN.below H);obtain⟨c0,c1,c2,c3,c4,c5,c6,c7⟩:=dn v (fun _=>0) rfl;obtain⟨a0,a1,a2,a3,a4,a5,a6,a7⟩:=dn f (fun _=>0) rfl;obtain⟨f0,f1,f2,f3,f4,f5,f6,f7⟩:=gq f;go_wp2;exact bodyPost_ret (w:=pV _ w.heap.size (fun _=>0)) (jv (L:=l9) (fZ f (fun _=>0)) rfl false _ rfl rfl) rfl ⟨by rw[t.out],dD (r.trans (H.mono r.size)) (Nat.le_refl _) _⟩
         have e4:((I:Int)==0)=false:=by simp;omega
         clear d7;have O:Hid (fin D=none):=by
          show _=_;rw[F.out];rfl
         have t:=hid (fH O);have f:=hid (HA.below H);have v:=hid (HN.below H);obtain⟨c0,c1,c2,c3,c4,c5,c6,c7⟩:=dn v (fun _=>0) rfl;obtain⟨a0,a1,a2,a3,a4,a5,a6,a7⟩:=dn f (fun _=>0) rfl;obtain⟨f0,f1,f2,f3,f4,f5,f6,f7⟩:=gq f;go_wp2;exact bodyPost_ret (w:=pV _ w.heap.size (fun _=>0)) (jv (L:=l9) (fZ f (fun _=>0)) rfl false _ rfl rfl) rfl ⟨by rw[t.out],dD (r.trans (H.mono r.size)) (Nat.le_refl _) _⟩
        | some qx=>
         obtain⟨x,y,rfl⟩:=Ju (HQ.symm);have HF:Hid (FV (some [x,y])=.tuple #[.int .i64 (x:Int),.int .i64 (y:Int),.bool true]):=rfl;rw[HF.out];have d7:I≠0:=fun h=>by have:=j2 h;cases this
         have e4:((I:Int)==0)=false:=by simp;omega
         obtain⟨b7,l1⟩:=FC (HQ.symm);clear d7;by_cases hm6:m≤6
         ·have h5:¬(6:Int)<(m:Int):=by omega
          have d2:Hid (D=some (L++[x,y],g)):=by show _=_;rw[e0.out];simp only[];rw[if_pos (by rw[←E.out];exact hm6)]
          have Y:Hid (∀z ∈ L++[x,y],z<65536):=by
           intro z hz;rcases List.mem_append.1 hz with h|h
           ·exact Z z h
           simp at h;omega
          have P:Hid (∀z,g=some z→z≤(L++[x,y]).length):=by
           intro z hz;have:=a8 z hz;rw[List.length_append];omega
          go_wp2_with (at_builtin;refine bI rfl _ _ 213 rfl wc.heap.size 3 i0 (.int .i64 0) 8 underlying213 hi f8 e9 e8 rfl _ m _ rfl T J J.size [.int .i64 (x:Int),.int .i64 (y:Int)] 2 rfl rfl (by intro u hu;simp at hu;rcases hu with rfl|rfl<;>rfl) (by unfold maxLen;omega) (by omega) ?_)
          intro v7 w7 A B;have d1:Hid (w7.ownsRow wc.heap.size 3 1 v7 (L++[x,y]).length (fQ (L++[x,y]))):=by
           show World.ownsRow _ _ _ _ _ _ _;rw[List.length_append,←E.out,lW];exact A
          have d4:=hid B;clear T J A B;go_wp2
          go_meet
          exact⟨L++[x,y],g,by rw[b6.out],d1,d4,d2,by rw[List.length_append,←E.out];show m+2≤8;omega,Y,P⟩
         have h5:(6:Int)<(m:Int):=by omega
         have F:Hid (D=none):=by show _=_;rw[e0.out];simp only[];rw[if_neg (by rw[←E.out];exact hm6)]
         clear T J;have O:Hid (fin D=none):=by
          show _=_;rw[F.out];rfl
         have t:=hid (fH O);have f:=hid (HA.below H);have v:=hid (HN.below H);obtain⟨c0,c1,c2,c3,c4,c5,c6,c7⟩:=dn v (fun _=>0) rfl;obtain⟨a0,a1,a2,a3,a4,a5,a6,a7⟩:=dn f (fun _=>0) rfl;obtain⟨f0,f1,f2,f3,f4,f5,f6,f7⟩:=gq f;go_wp2;exact bodyPost_ret (w:=pV _ w.heap.size (fun _=>0)) (jv (L:=l9) (fZ f (fun _=>0)) rfl false _ rfl rfl) rfl ⟨by rw[t.out],dD (r.trans (H.mono r.size)) (Nat.le_refl _) _⟩
       have e5:((d.toNat:Int)==46)=false:=by
        rw[beq_eq_false_iff_ne];intro e;exact h46 (UInt8.toNat_inj.1 (by show _=46;omega))
       have i6:¬(d.toNat:Int)=46:=by simpa using e5
       by_cases hd58:d=58
       ·have d8:((d.toNat:Int)==58)=true:=by rw[hd58];rfl
        have k0:(d.toNat:Int)=58:=by rw[hd58];rfl
        have j1:Hid (D=if (s.data.toList.drop a).drop (I+1)=[]then none else R (dB ((s.data.toList.drop a).drop (I+1))) (L++[n]) g):=by
         show _=_;rw[HW.out,j3.out];exact XA HP H0 (by rw[e2.out,hd58]) b5 g
        clear h46 hd58;by_cases hlast:a+I+1=s.size
        ·have F:Hid (D=none):=by
          show _=_;rw[j1.out,if_pos];rw[List.drop_drop];exact List.drop_eq_nil_of_le (by rw[X.out];omega)
         have j7:((a:Int)+(I:Int)+1==(s.size:Int))=true:=by simp;omega
         have j6:(a:Int)+(I:Int)+1=(s.size:Int):=by omega
         clear N C hlast;have O:Hid (fin D=none):=by
          show _=_;rw[F.out];rfl
         have t:=hid (fH O);have f:=hid (HA.below j);have v:=hid (HN.below j);obtain⟨c0,c1,c2,c3,c4,c5,c6,c7⟩:=dn v (fun _=>0) rfl;obtain⟨a0,a1,a2,a3,a4,a5,a6,a7⟩:=dn f (fun _=>0) rfl;obtain⟨f0,f1,f2,f3,f4,f5,f6,f7⟩:=gq f;go_wp2;exact bodyPost_ret (w:=pV _ w.heap.size (fun _=>0)) (jv (L:=l9) (fZ f (fun _=>0)) rfl false _ rfl rfl) rfl ⟨by rw[t.out],dD (r.trans (j.mono r.size)) (Nat.le_refl _) _⟩
        have j7:((a:Int)+(I:Int)+1==(s.size:Int))=false:=by simp;omega
        have j6:¬(a:Int)+(I:Int)+1=(s.size:Int):=by omega
        have g4:Hid (D=R (dB (s.data.toList.drop (a+I+1))) (L++[n]) g):=by
         show _=_;rw[j1.out,if_neg,List.drop_drop,show a+(I+1)=a+I+1 by omega];rw[List.drop_drop];intro h;have h2:=congrArg List.length h;rw[List.length_drop,X.out]at h2;simp at h2;omega
        have Y:Hid (∀x ∈ L++[n],x<65536):=by
         intro x hx;rcases List.mem_append.1 hx with h|h
         ·exact Z x h
         simp at h;omega
        have P:Hid (∀x,g=some x→x≤(L++[n]).length):=by
         intro x hx;have:=a8 x hx;rw[List.length_append];omega
        go_wp2_with (at_builtin;refine bI rfl _ _ 213 rfl wc.heap.size 3 i0 (.int .i64 0) 8 underlying213 hi f8 e9 e8 rfl _ m _ rfl N C C.size [.int .i64 (n:Int)] 1 rfl rfl (by intro u hu;simp at hu;subst hu;rfl) (by unfold maxLen;omega) (by omega) ?_)
        intro v7 w7 A B;have d1:Hid (w7.ownsRow wc.heap.size 3 1 v7 (L++[n]).length (fQ (L++[n]))):=by
         show World.ownsRow _ _ _ _ _ _ _;rw[List.length_append,←E.out,lW];exact A
        have d4:=hid B;clear N C A B;go_wp2;go_roundw
        case rel=>exact⟨a+I+1,L++[n],g,by go_num,by rw[b6.out],by omega,d1,d4,g4,by rw[List.length_append,←E.out];show m+1≤8;omega,Y,P⟩
        case measure=>simp[intOf];omega
       have d8:((d.toNat:Int)==58)=false:=by
        rw[beq_eq_false_iff_ne];intro e;exact hd58 (UInt8.toNat_inj.1 (by show _=58;omega))
       have k0:¬(d.toNat:Int)=58:=by simpa using d8
       have F:Hid (D=none):=by show _=_;rw[HW.out];exact acU HP e2 hd58 h46 b5 g
       clear h46 hd58 N C;have O:Hid (fin D=none):=by
        show _=_;rw[F.out];rfl
       have t:=hid (fH O);have f:=hid (HA.below j);have v:=hid (HN.below j);obtain⟨c0,c1,c2,c3,c4,c5,c6,c7⟩:=dn v (fun _=>0) rfl;obtain⟨a0,a1,a2,a3,a4,a5,a6,a7⟩:=dn f (fun _=>0) rfl;obtain⟨f0,f1,f2,f3,f4,f5,f6,f7⟩:=gq f;go_wp2;exact bodyPost_ret (w:=pV _ w.heap.size (fun _=>0)) (jv (L:=l9) (fZ f (fun _=>0)) rfl false _ rfl rfl) rfl ⟨by rw[t.out],dD (r.trans (j.mono r.size)) (Nat.le_refl _) _⟩
      have i1:¬(a:Int)+(I:Int)<(s.size:Int):=by omega
      have d2:Hid (D=R (dB (s.data.toList.drop s.size)) (L++[n]) g):=by
       show _=_;rw[HW.out,aax HP.out i9.out (by rw[zM];exact List.getElem?_eq_none (by rw[X.out];omega)) b5.out g,←j3.out,List.drop_eq_nil_of_le (by rw[X.out];exact Nat.le_refl _),ZB]
      have i4:a+I=s.size:=by omega
      have e6:Hid ((a:Int)+(I:Int)=(s.size:Int)):=by show _=_;omega
      clear i4;have Y:Hid (∀x ∈ L++[n],x<65536):=by
       intro x hx;rcases List.mem_append.1 hx with h|h
       ·exact Z x h
       simp at h;omega
      have P:Hid (∀x,g=some x→x≤(L++[n]).length):=by
       intro x hx;have:=a8 x hx;rw[List.length_append];omega
      go_wp2_with (at_builtin;refine bI rfl _ _ 213 rfl wc.heap.size 3 i0 (.int .i64 0) 8 underlying213 hi f8 e9 e8 rfl _ m _ rfl N C C.size [.int .i64 (n:Int)] 1 rfl rfl (by intro u hu;simp at hu;subst hu;rfl) (by unfold maxLen;omega) (by omega) ?_)
      intro v7 w7 A B;have d1:Hid (w7.ownsRow wc.heap.size 3 1 v7 (L++[n]).length (fQ (L++[n]))):=by
       show World.ownsRow _ _ _ _ _ _ _;rw[List.length_append,←E.out,lW];exact A
      have d4:=hid B;clear N C A B;go_wp2;go_roundw
      case rel=>exact⟨s.size,L++[n],g,by first|exact int_eq e6|go_num,by rw[b6.out],Nat.le_refl _,d1,d4,d2,by rw[List.length_append,←E.out];show m+1≤8;omega,Y,P⟩
      case measure=>(have:=e6.out;simp[intOf];omega)
     obtain rfl:a=s.size:=by omega
     have d2:Hid (D=some (L,g)):=by
      show _=_;rw[HW.out,List.drop_eq_nil_of_le (by rw[X.out];exact Nat.le_refl _),ZB]
     go_wp2
     go_meet
     exact⟨L,g,by rw[b6.out],by show World.ownsRow _ _ _ _ _ _ _;rw[←E.out];exact HO,j,d2,by rw[←E.out];exact b9,Z,a8⟩
   case rest=>
    obtain⟨L,g,rfl,HO,j,e3,b9,Z,a8⟩:=hcut;obtain⟨n,hn⟩:∃n,n=L.length:=⟨_,rfl⟩;rw[←hn]at HO b9;have E:=hid hn;clear hn;obtain⟨AL,cL,rfl,h6,b8,d6⟩:=aS HO;have HR:=hid d6;clear d6 b8;cases g with
    | none=>
     have j8:Gv none= -1:=rfl;by_cases h8:n=8
     ·subst h8;go_upto_region 33 with(fail)
      generalize hw3:wc.alloc _=w3;have g3:Hid (Box w3 wc.heap.size 187 (wP L none 0)):=by
       show Box _ _ _ _;rw[←hw3];exact heap_alloc_new _ _
      have g8:Hid (Below wc.heap.size wc w3):=by
       show Below _ _ _;rw[←hw3];exact(Below.refl _ _).alloc (Nat.le_refl _) _
      clear hw3;go_wp2;go_loopw [14,15,145] (fun _ _ vk wr=>∃k:Nat,k≤8∧vk=.int .i64 (k:Int)∧Hid (Box wr wc.heap.size 187 (wP L none k))∧Hid (Below wc.heap.size w3 wr)) (fun _ _ vk _=>8 - (intOf vk).toNat)
      case atStart=>exact⟨0,by omega,rfl,g3,Below.refl _ _⟩
      case round=>
       obtain⟨k,hk,rfl,HX,HB⟩:=hrel;have a9:Hid (Below wc.heap.size wc wr):=g8.trans HB;by_cases hlt:k<8
       ·obtain⟨b,e7,rfl,_,_⟩:=HR.spot (by omega);obtain⟨x,hx⟩:∃x,L[k]'(by rw[←E.out];exact hlt)=x:=⟨_,rfl⟩;have W:wr.cell? ⟨b,e7+k,none⟩=some (.int .i64 (x:Int)):=by
         obtain⟨b',o',e1,_,g1⟩:=(HR.below a9).2 k (by rw[yF,←E.out];exact hlt);cases e1;rw[g1,EX L k (by rw[←E.out];exact hlt),hx]
        have b7:x<65536:=by rw[←hx];exact Z _ (List.getElem_mem _)
        have d9:Hid (L.getD k 0=x):=by
         show _=_;rw[List.getD_eq_getElem?_getD,List.getElem?_eq_getElem (by rw[←E.out];exact hlt),hx];rfl
        have l6:IntKind.u16.wrap (x:Int)=(x:Int):=by simp[IntKind.wrap,IntKind.signed,IntKind.bits];omega
        clear b7;clear hx;have d0:Hid (place none L.length k=k):=rfl;have i3:=HX.cell k (by rw[oK];omega);have i2:=HX.frozen k;have c8:Hid (Box (wr.setCell ⟨wc.heap.size,k,none⟩ (.int .u16 (x:Int))) wc.heap.size 187 (wP L none (k+1))):=by
         show Box _ _ _ _;rw[wP,d0.out,d9.out];exact HX.set k x
        have d5:Hid (Below wc.heap.size w3 (wr.setCell ⟨wc.heap.size,k,none⟩ (.int .u16 (x:Int)))):=HB.setCell (Nat.le_refl _) _;go_wp2;go_roundw
        case rel=>exact⟨k+1,by omega,by go_num,c8,d5⟩
        case measure=>simp[intOf];omega
       obtain rfl:k=8:=by omega
       obtain⟨V,hV⟩:∃V,V=wP L none 8:=⟨_,rfl⟩;have c9:Hid (V.length=8):=by show _=_;rw[hV,oK]
       have O:Hid (fin D=some V):=by have h9:=VD (L:=L) E.symm;rw[←E.out]at h9;show _=_;rw[e3.out,zV,if_pos E.out.symm,hV,h9]
       rw[←hV]at HX;clear hV;have t:=hid (tV O);have g7:Hid (Below w.heap.size w wr):=(r.trans (j.mono r.size)).trans (a9.mono (by have h1:=r.size;have h2:=j.size;omega));have f:=hid ((HA.below j).below a9);obtain⟨c0,c1,c2,c3,c4,c5,c6,c7⟩:=dn HX (fun i=>V.getD i 0) (vK c9);obtain⟨a0,a1,a2,a3,a4,a5,a6,a7⟩:=dn f (fun _=>0) rfl;obtain⟨f0,f1,f2,f3,f4,f5,f6,f7⟩:=gq f;go_wp2;exact bodyPost_ret (w:=pV _ w.heap.size (fun i=>V.getD i 0)) (jv (fZ f (fun i=>V.getD i 0)) rfl true _ rfl rfl) rfl ⟨(congrArg (fun z=>Ending.returned (.tuple #[.agg (aZ z).toArray,.bool true])) (vK c9).symm).trans (by rw[t.out]),dD g7 (Nat.le_refl _) _⟩
     have m9:((n:Int)==8)=false:=by simp;omega
     have m8:¬(n:Int)=8:=by omega
     have k7:=hid h8;clear h8;have O:Hid (fin D=none):=by
      show _=_;rw[e3.out,zV,if_neg (by rw[←E.out];exact k7.out)]
     have t:=hid (fH O);have f:=hid (HA.below j);have v:=hid (HN.below j);obtain⟨c0,c1,c2,c3,c4,c5,c6,c7⟩:=dn v (fun _=>0) rfl;obtain⟨a0,a1,a2,a3,a4,a5,a6,a7⟩:=dn f (fun _=>0) rfl;obtain⟨f0,f1,f2,f3,f4,f5,f6,f7⟩:=gq f;go_wp2;exact bodyPost_ret (w:=pV _ w.heap.size (fun _=>0)) (jv (L:=l9) (fZ f (fun _=>0)) rfl false _ rfl rfl) rfl ⟨by rw[t.out],dD (r.trans (j.mono r.size)) (Nat.le_refl _) _⟩
    | some gx =>
     have j8:Gv (some gx)=(gx:Int):=rfl;have f9:¬(gx:Int)<0:=by omega
     have m6:gx≤n:=by rw[E.out];exact a8 gx rfl
     by_cases h7:n≤7
     ·have k3 : ¬ (7 : Int) < (n : Int) := by omega
      go_upto_region 33 with(fail)
      generalize hw3:wc.alloc _=w3;have g3:Hid (Box w3 wc.heap.size 187 (wP L (some gx) 0)):=by
       show Box _ _ _ _;rw[←hw3];exact heap_alloc_new _ _
      have g8:Hid (Below wc.heap.size wc w3):=by
       show Below _ _ _;rw[←hw3];exact(Below.refl _ _).alloc (Nat.le_refl _) _
      clear hw3;go_wp2;go_loopw [14,15,145] (fun _ _ vk wr=>∃k:Nat,k≤n∧vk=.int .i64 (k:Int)∧Hid (Box wr wc.heap.size 187 (wP L (some gx) k))∧Hid (Below wc.heap.size w3 wr)) (fun _ _ vk _=>n - (intOf vk).toNat)
      case atStart=>exact⟨0,by omega,rfl,g3,Below.refl _ _⟩
      case round =>
       obtain⟨k,hk,rfl,HX,HB⟩:=hrel;have a9:Hid (Below wc.heap.size wc wr):=g8.trans HB;by_cases hlt:k<n
       ·obtain ⟨b,e7,rfl,_,_⟩:=HR.spot (by omega);obtain⟨x,hx⟩:∃x,L[k]'(by rw[←E.out];exact hlt)=x:=⟨_,rfl⟩;have W:wr.cell? ⟨b,e7+k,none⟩=some (.int .i64 (x:Int)):=by
         obtain⟨b',o',e1,_,g1⟩:=(HR.below a9).2 k (by rw[yF,←E.out];exact hlt);cases e1;rw[g1,EX L k (by rw[←E.out];exact hlt),hx]
        have b7:x<65536:=by rw[←hx];exact Z _ (List.getElem_mem _)
        have d9:Hid (L.getD k 0=x):=by
         show _=_;rw[List.getD_eq_getElem?_getD,List.getElem?_eq_getElem (by rw[←E.out];exact hlt),hx];rfl
        have l5:(x:Int)<65536:=by omega
        have m5:k<8:=by omega
        clear hx;by_cases hgk:gx≤k
        ·have j9:(gx:Int)≤(k:Int):=by omega
         obtain⟨p,hp⟩:∃p,p=8 - n+k:=⟨_,rfl⟩;have m1:p<8:=by omega
         have l8:(8:Int) - (n:Int)+(k:Int)=(p:Int):=by omega
         have m2:(n:Int)≤8:=by omega
         have l2:(p:Int)<8:=by omega
         have b3:=hid hp;have g5:=hid hgk;clear hp hgk;have d0:Hid (place (some gx) L.length k=p):=by show _=_;unfold place;simp only[];rw[if_pos g5.out,←E.out];exact b3.symm
         have i3:=HX.cell p (by rw[oK];omega);have i2:=HX.frozen p;have c8:Hid (Box (wr.setCell ⟨wc.heap.size,p,none⟩ (.int .u16 (x:Int))) wc.heap.size 187 (wP L (some gx) (k+1))):=by
          show Box _ _ _ _;rw[wP,d0.out,d9.out];exact HX.set p x
         have d5:Hid (Below wc.heap.size w3 (wr.setCell ⟨wc.heap.size,p,none⟩ (.int .u16 (x:Int)))):=HB.setCell (Nat.le_refl _) _;go_wp2;go_roundw
         case rel=>exact⟨k+1,by omega,by go_num,c8,d5⟩
         case measure=>simp[intOf];omega
        have j9:¬(gx:Int)≤(k:Int):=by omega
        have g5:=hid hgk;clear hgk;have d0:Hid (place (some gx) L.length k=k):=by show _=_;unfold place;simp only[];rw[if_neg g5.out]
        have i3:=HX.cell k (by rw[oK];omega);have i2:=HX.frozen k;have c8:Hid (Box (wr.setCell ⟨wc.heap.size,k,none⟩ (.int .u16 (x:Int))) wc.heap.size 187 (wP L (some gx) (k+1))):=by
         show Box _ _ _ _;rw[wP,d0.out,d9.out];exact HX.set k x
        have d5:Hid (Below wc.heap.size w3 (wr.setCell ⟨wc.heap.size,k,none⟩ (.int .u16 (x:Int)))):=HB.setCell (Nat.le_refl _) _;go_wp2;go_roundw
        case rel=>exact⟨k+1,by omega,by go_num,c8,d5⟩
        case measure=>simp[intOf];omega
       obtain rfl:k=n:=by omega
       obtain⟨V,hV⟩:∃V,V=wP L (some gx) k:=⟨_,rfl⟩;have c9:Hid (V.length=8):=by show _=_;rw[hV,oK]
       have O:Hid (fin D=some V):=by show _=_;rw[e3.out,wI,if_pos (by rw[←E.out];exact h7),hV,E.out,VE (a8.out gx rfl) (by rw[←E.out];exact h7)]
       rw[←hV]at HX;clear hV;have t:=hid (tV O);have g7:Hid (Below w.heap.size w wr):=(r.trans (j.mono r.size)).trans (a9.mono (by have h1:=r.size;have h2:=j.size;omega));have f:=hid ((HA.below j).below a9);obtain⟨c0,c1,c2,c3,c4,c5,c6,c7⟩:=dn HX (fun i=>V.getD i 0) (vK c9);obtain⟨a0,a1,a2,a3,a4,a5,a6,a7⟩:=dn f (fun _=>0) rfl;obtain⟨f0,f1,f2,f3,f4,f5,f6,f7⟩:=gq f;go_wp2;exact bodyPost_ret (w:=pV _ w.heap.size (fun i=>V.getD i 0)) (jv (fZ f (fun i=>V.getD i 0)) rfl true _ rfl rfl) rfl ⟨(congrArg (fun z=>Ending.returned (.tuple #[.agg (aZ z).toArray,.bool true])) (vK c9).symm).trans (by rw[t.out]),dD g7 (Nat.le_refl _) _⟩
     have k3:(7:Int)<(n:Int):=by omega
     have k8:=hid h7;clear h7;have O:Hid (fin D=none):=by
      show _=_;rw[e3.out,wI,if_neg (by rw[←E.out];exact k8.out)]
     have t:=hid (fH O);have f:=hid (HA.below j);have v:=hid (HN.below j);obtain⟨c0,c1,c2,c3,c4,c5,c6,c7⟩:=dn v (fun _=>0) rfl;obtain⟨a0,a1,a2,a3,a4,a5,a6,a7⟩:=dn f (fun _=>0) rfl;obtain⟨f0,f1,f2,f3,f4,f5,f6,f7⟩:=gq f;go_wp2;exact bodyPost_ret (w:=pV _ w.heap.size (fun _=>0)) (jv (L:=l9) (fZ f (fun _=>0)) rfl false _ rfl rfl) rfl ⟨by rw[t.out],dD (r.trans (j.mono r.size)) (Nat.le_refl _) _⟩
end XD
namespace Q7
open Go.RowKit qm Dx
theorem Y1 {s:List UInt8} {V:List Nat} (h:six s=some V):V.length=8:=by
 unfold six at h;split at h
 ·unfold qm.eight at h;split at h
  ·split at h
   ·rename_i hlt;injection h with h
    subst h;simpa using hlt
   cases h
  cases h
 unfold both at h;split at h
 ·split at h
  ·injection h with h
   subst h;rename_i hlt;unfold fill;simp at hlt⊢;omega
  cases h
 cases h
end Q7
namespace Kr
open Go.RowKit Base dJ lS
theorem dG {α:Type} (l:List α) (k:Nat) (h:k<l.length):l.take (k+1)=l.take k++[l[k]]:=List.take_succ_eq_append_getElem h
theorem zK (b:Nat) (L:List UInt8) (h:dM b L=true) (k:Nat) (a:k<L.length):ku b L[k]=true:=List.all_eq_true.1 h _ (List.getElem_mem _)
theorem oZ (b:Nat) (c:UInt8) (h:ku b c=true):hex c.toNat=(dv c:Int):=by
 unfold ku at h;rw[Bool.and_eq_true]at h;have:=of_decide_eq_true h.1;unfold dv;omega
theorem gy (s:ByteArray) (b:Nat) (w:World) (C:s.size≤1073741824):Calls prog 244 #[.string s,.int .i64 (b:Int)] w fun e w'=>e=.returned (.bool (dM b s.data.toList))∧w=w':=by
 have t:s.data.toList.length=s.size:=Array.length_toList;have z:=hid t;clear t;go_enter func244,ntmps244;go_wp2;go_loopw [5,6] (fun vk _ wr=>∃k:Nat,k≤s.size∧vk=.int .i64 (k:Int)∧wr=w∧Hid (dM b (s.data.toList.take k)=true)) (fun vk _ _=>s.size - (intOf vk).toNat)
 case atStart=>exact⟨0,Nat.zero_le _,rfl,rfl,rfl⟩
 case round =>
  obtain⟨k,D,rfl,rfl,n⟩:=hrel;by_cases hlt:k<s.size
  ·obtain ⟨c,A⟩:∃c,s[k]=c:=⟨_,rfl⟩;have f:k<s.data.toList.length:=by rw[z.out];exact hlt
   have d:s.data.toList[k]=c:=A;have B:Hid (s.data.toList.take (k+1)=s.data.toList.take k++[c]):=by rw[←d];exact dG _ k f
   have y:Hid (c ∈ s.data.toList):=by show _ ∈ _;rw[←d];exact List.getElem_mem _
   have l:0≤(c.toNat:Int):=by omega
   have j:(c.toNat:Int)≤255:=by have:=c.toNat_lt;omega
   have v:ku b c=(decide (0≤hex c.toNat)&&decide (hex c.toNat<b)):=rfl;have i:=hid v;obtain⟨x,hx⟩:∃x,x=hex c.toNat:=⟨_,rfl⟩;rw[←hx]at i;have m:=hid hx;clear d f v hx;by_cases hx0:0≤x
   ·by_cases hxb:x<b
    ·have q:Hid (ku b c=true):=by show _=_;rw[i.out,decide_eq_true hx0,decide_eq_true hxb];rfl
     go_wp2_with fail
     refine(dJ.dI _ _ l j).mono ?_;rintro e r ⟨rfl,a⟩;subst a;rw[←m.out];go_wp2;go_roundw
     case rel=>exact⟨k+1,by omega,by go_num,by first|rfl|trivial,by show _=_;rw[B.out];unfold dM at n⊢;rw[List.all_append,n.out,List.all_cons,q.out];rfl⟩
     case measure=>simp[intOf];omega
    have g:Hid (dM b s.data.toList=false):=by
     show _=_;refine List.all_eq_false.2 ⟨c,y,?_⟩;rw[i.out,decide_eq_false hxb];simp
    go_wp2_with fail
    refine(dJ.dI _ _ l j).mono ?_;rintro e r ⟨rfl,a⟩;subst a;rw[←m.out];go_wp2;go_ret;exact⟨aC g.symm,rfl⟩
   have g:Hid (dM b s.data.toList=false):=by
    show _=_;refine List.all_eq_false.2 ⟨c,y,?_⟩;rw[i.out,decide_eq_false hx0];simp
   go_wp2_with fail
   refine(dJ.dI _ _ l j).mono ?_;rintro e r ⟨rfl,a⟩;subst a;rw[←m.out];go_wp2;go_ret;exact⟨aC g.symm,rfl⟩
  obtain rfl:k=s.size:=by omega
  have g:Hid (dM b s.data.toList=true):=by
   show _=_;have h:=n.out
   rwa[List.take_of_length_le (by rw[z.out];exact Nat.le_refl _)]at h
  go_wp2;go_ret;exact⟨aC g.symm,rfl⟩
theorem ext2 (s:ByteArray) (k:Nat) (h:k≤s.size):(s.extract k s.size).data.toList=s.data.toList.drop k:=by rw[eU.ext_drop s k s.size rfl];rfl
theorem QM (a x:UInt8) (r:List UInt8) (c:a=48) (hx:x=120∨x=88):zy (a::x::r)=(16,r):=by unfold zy;simp only;rw[if_pos c,if_pos hx]
theorem QK (a x:UInt8) (r:List UInt8) (c:a=48) (hx:¬(x=120∨x=88)):zy (a::x::r)=(8,x::r):=by unfold zy;simp only;rw[if_pos c,if_neg hx]
theorem JF (a x:UInt8) (r:List UInt8) (c:a≠48):zy (a::x::r)=(10,a::x::r):=by unfold zy;simp only;rw[if_neg c]
theorem pre2 (a x p q:UInt8) (r:List UInt8):Lib.hasPrefix (a::x::r) [p,q]=(decide (a=p)&&decide (x=q)):=by
 unfold Lib.hasPrefix;simp[List.isPrefixOf,Bool.beq_eq_decide_eq,eq_comm]
theorem ae6 (a p q:UInt8):Lib.hasPrefix [a] [p,q]=false:=by simp[Lib.hasPrefix,List.isPrefixOf]
theorem E8 {c d:UInt8} (h:c≠d):((c.toNat:Int)==(d.toNat:Int))=false:=by
 have:c.toNat≠d.toNat:=fun e=>h (UInt8.toNat_inj.1 e);simp;omega
def vX (L:List UInt8):Value:=match num L with
 |some v=>.tuple #[.int .u64 (sat v),.bool true]
 |none=>.tuple #[.int .u64 0,.bool false]
theorem Af (L:List UInt8) (a:L≠[]) (b:Nat) (r:List UInt8) (h:zy L=(b,r)) (c:dM b r=true):vX L=.tuple #[.int .u64 (sat (val b r)),.bool true]:=by
 unfold vX num;rw[if_neg a,h];simp only;rw[if_pos c]
theorem DV (L:List UInt8) (a:L≠[]) (b:Nat) (r:List UInt8) (h:zy L=(b,r)) (c:dM b r=false):vX L=.tuple #[.int .u64 0,.bool false]:=by
 unfold vX num;rw[if_neg a,h];simp only;rw[c,if_neg (by decide)]
def vY (L:List UInt8):Int:=if (num L).isSome then(big (zy L).1 (zy L).2:Int)else -1
theorem Ag (L:List UInt8) (a:L≠[]) (b:Nat) (r:List UInt8) (h:zy L=(b,r)) (c:dM b r=true):vY L=big b r:=by
 unfold vY num;rw[if_neg a,h];simp only;rw[if_pos c];rfl
theorem DW (L:List UInt8) (a:L≠[]) (b:Nat) (r:List UInt8) (h:zy L=(b,r)) (c:dM b r=false):vY L= -1:=by
 unfold vY num;rw[if_neg a,h];simp only;rw[c];rfl
theorem aak (Z:ByteArray) (b:Nat) (T:Value) (j:1≤b) (f:Z.size≤1073741824) (g:dM b Z.data.toList=true→T=.tuple #[.int .u64 (sat (val b Z.data.toList)),.bool true]) (i:dM b Z.data.toList=false→T=.tuple #[.int .u64 0,.bool false]):∃(D:Bool) (F:Nat→Nat),Hid (F 0=0)∧Hid (∀w,Calls prog 244 #[.string Z,.int .i64 (b:Int)] w fun e w'=>e=.returned (.bool D)∧w=w')∧Hid (D=false→T=.tuple #[.int .u64 0,.bool false])∧Hid (D=true→T=.tuple #[.int .u64 (F Z.size),.bool true])∧Hid (∀k,F k≤4294967296)∧Hid (D=true→∀k (h:k<Z.size),hex (Z[k]).toNat=(dv Z[k]:Int)∧dv Z[k]≤15∧F (k+1)=min (F k*b+dv Z[k]) 4294967296):=by
 have d:Z.data.toList.length=Z.size:=Array.length_toList;refine⟨_,fun k=>sat (val b (Z.data.toList.take k)),rfl,fun w=>gy Z b w f,i,fun h=>?_,fun k=>?_,fun h k hk=>?_⟩
 ·simp only[←d,List.take_length];exact g h
 ·simp only;unfold sat;omega
 have a:k<Z.data.toList.length:=by rw[d];exact hk
 have c:Z.data.toList[k]=Z[k]:=rfl;refine⟨oZ b _ (c▸zK _ _ h k a),Hq _,?_⟩;simp only;rw[dG _ k a,jd,c,xu _ b _ j]
theorem dw (s:ByteArray) (w:World) (hs:s.size≤1073741824):Calls prog 243 #[.string s] w fun e w'=>e=.returned (vX s.data.toList)∧w=w':=by
 have g:s.data.toList.length=s.size:=Array.length_toList;obtain⟨T,l⟩:∃T,T=vX s.data.toList:=⟨_,rfl⟩;rw[←l];rcases hL:s.data.toList with _|⟨a,_|⟨x,r⟩⟩
 ·have h0:s.size=0:=by rw[←g,hL];rfl
  have J:(s.toList==[])=true:=by rw[Lib.toList_data,hL];rfl
  have C:s.toList=[]:=by rw[Lib.toList_data,hL]
  rw[hL]at l;have O:=hid l;clear hL g l;go_enter func243,ntmps243;go_wp2;go_ret2;exact⟨by rw[O.out];rfl,rfl⟩
 focus
  have V:s.size=1:=by rw[←g,hL];rfl
  have J:(s.toList==[])=false:=by rw[Lib.toList_data,hL];rfl
  have C:s.toList.isEmpty=false:=by rw[Lib.toList_data,hL];rfl
  have L:∀h,s[0]'h=a:=fun h=>by
   have:s.data.toList[0]?=some a:=by rw[hL];rfl
   have:=List.getElem?_eq_some_iff.1 this;obtain⟨_,e⟩:=this;exact e
  obtain⟨D,F,A,B,v,j,z,t⟩:=aak s 10 T (by decide) hs (fun h=>l.trans (Af _ (by rw[hL];simp) 10 _ (by rw[hL];rfl) h)) (fun h=>l.trans (DV _ (by rw[hL];simp) 10 _ (by rw[hL];rfl) h));have N:Hid (Lib.hasPrefix s.data.toList [48,120]=false):=by show _=_;rw[hL,ae6]
  have y:Hid (Lib.hasPrefix s.data.toList [48,88]=false):=by show _=_;rw[hL,ae6]
  clear hL g l;obtain⟨Z,rfl⟩:∃Z,Z=s:=⟨_,rfl⟩;cases W:((a.toNat:Int)==48)
 rotate_left 2
 focus
  have V:2≤s.size:=by rw[←g,hL];simp
  have a2:(2:Int)≤(s.size:Int):=by omega
  have a3:(0:Int)<(s.size:Int):=by omega
  have a1:(1:Int)<(s.size:Int):=by omega
  have J:(s.toList==[])=false:=by rw[Lib.toList_data,hL];rfl
  have C:s.toList.isEmpty=false:=by rw[Lib.toList_data,hL];rfl
  have L:∀h,s[0]'h=a:=fun h=>by
   have:s.data.toList[0]?=some a:=by rw[hL];rfl
   have:=List.getElem?_eq_some_iff.1 this;obtain⟨_,e⟩:=this;exact e
  have f:s.data.toList≠[]:=by rw[hL];simp
  by_cases ha:a=48;focus
   by_cases hx:x=120∨x=88;focus
    obtain⟨Z,H⟩:∃Z,Z=s.extract 2 s.size:=⟨_,rfl⟩;have i:Z.data.toList=r:=by rw[H,ext2 _ _ V,hL];rfl
    have X:s.extract 2 s.size=Z:=H.symm;have G:Z.size≤1073741824:=by have:Z.data.toList.length=Z.size:=Array.length_toList;rw[i]at this;rw[hL]at g;simp at g;omega
    obtain⟨D,F,A,B,v,j,z,t⟩:=aak Z 16 T (by decide) G (fun h=>l.trans (Af _ f 16 _ (by rw[hL,QM _ _ _ ha hx,i]) h)) (fun h=>l.trans (DV _ f 16 _ (by rw[hL,QM _ _ _ ha hx,i]) h));have I:=hid hL;clear hL g i H f l;rcases hx with hx|hx
    focus
     have N:Hid (Lib.hasPrefix s.data.toList [48,120]=true):=by show _=_;rw[I.out,pre2,ha,hx];rfl
     clear ha hx L
    rotate_left
    have N:Hid (Lib.hasPrefix s.data.toList [48,120]=false):=by show _=_;rw[I.out,pre2,ha,hx];rfl
    have y:Hid (Lib.hasPrefix s.data.toList [48,88]=true):=by show _=_;rw[I.out,pre2,ha,hx];rfl
    clear ha hx L
   rotate_left 2
   obtain⟨Z,H⟩:∃Z,Z=s.extract 1 s.size:=⟨_,rfl⟩;have i:Z.data.toList=x::r:=by rw[H,ext2 _ _ (by omega),hL];rfl
   have X:s.extract 1 s.size=Z:=H.symm;have G:Z.size≤1073741824:=by have:Z.data.toList.length=Z.size:=Array.length_toList;rw[i]at this;rw[hL]at g;simp at g this;omega
   obtain⟨D,F,A,B,v,j,z,t⟩:=aak Z 8 T (by decide) G (fun h=>l.trans (Af _ f 8 _ (by rw[hL,QK _ _ _ ha hx,i]) h)) (fun h=>l.trans (DV _ f 8 _ (by rw[hL,QK _ _ _ ha hx,i]) h));have N:Hid (Lib.hasPrefix s.data.toList [48,120]=false):=by show _=_;rw[hL,pre2,decide_eq_false (fun h=>hx (.inl h)),Bool.and_false]
   have y:Hid (Lib.hasPrefix s.data.toList [48,88]=false):=by show _=_;rw[hL,pre2,decide_eq_false (fun h=>hx (.inr h)),Bool.and_false]
   have a4:∀h,s[0]'h=48:=fun h=>by rw[L h,ha]
   clear hL g i H f ha hx L l
  rotate_left 3
  obtain⟨D,F,A,B,v,j,z,t⟩:=aak s 10 T (by decide) hs (fun h=>l.trans (Af _ f 10 _ (by rw[hL,JF _ _ _ ha]) h)) (fun h=>l.trans (DV _ f 10 _ (by rw[hL,JF _ _ _ ha]) h));have N:Hid (Lib.hasPrefix s.data.toList [48,120]=false):=by show _=_;rw[hL,pre2,decide_eq_false ha,Bool.false_and]
  have y:Hid (Lib.hasPrefix s.data.toList [48,88]=false):=by show _=_;rw[hL,pre2,decide_eq_false ha,Bool.false_and]
  have W:((a.toNat:Int)==48)=false:=E8 (d:=48) ha;clear hL g f ha l;obtain⟨Z,rfl⟩:∃Z,Z=s:=⟨_,rfl⟩
 all_goals
  go_enter func243,ntmps243;go_wp2_with fail
  refine(strings_HasPrefix _ ⟨#[48,120]⟩ _).mono ?_;rintro e P ⟨rfl,m⟩;subst m;rw[show(⟨#[48,120]⟩:ByteArray).data.toList=[48,120]from rfl,N.out];go_wp2_with fail
  first
  |refine(strings_HasPrefix _ ⟨#[48,88]⟩ _).mono ?_
   rintro e P ⟨rfl,m⟩;subst m;rw[show(⟨#[48,88]⟩:ByteArray).data.toList=[48,88]from rfl,y.out];go_wp2_with fail
  |skip
  refine(B.out _).mono ?_;rintro e P ⟨rfl,m⟩;subst m;cases D
  ·have O:=hid (v.out rfl);go_wp2;go_ret2;exact⟨by rw[O.out];rfl,rfl⟩
  have O:=hid (j.out rfl);have HS:=hid (t.out rfl);clear v j t;go_wp2;go_loopw [6,7] (fun vn vk wr=>∃k:Nat,k≤Z.size∧vk=.int .i64 (k:Int)∧wr=P∧vn=.int .u64 (F k)) (fun _ vk _=>Z.size - (intOf vk).toNat)
  case atStart=>exact⟨0,Nat.zero_le _,rfl,rfl,by rw[A.out];rfl⟩
  case round=>
   obtain⟨k,hk,rfl,rfl,rfl⟩:=hrel;obtain⟨n,Q⟩:∃n,n=F k:=⟨_,rfl⟩;have a0:n≤4294967296:=by rw[Q];exact z.out k
   rw[←Q];have HN:=hid Q;clear Q;by_cases hlt:k<Z.size
   ·obtain⟨hx,E,q⟩:=HS.out k hlt;obtain⟨c,hc⟩:∃c,Z[k]=c:=⟨_,rfl⟩;rw[hc]at hx E q;obtain⟨d,hd⟩:∃d,dv c=d:=⟨_,rfl⟩;rw[hd]at hx E q;rw[←HN.out]at q;have HX:=hid hx;have Y:=hid q;have h0:0≤(c.toNat:Int):=by omega
    have V:(c.toNat:Int)≤255:=by have:=c.toNat_lt;omega
    clear hx q hd;go_wp2_with fail
    refine(dJ.dI _ _ h0 V).mono ?_;rintro e P ⟨rfl,m⟩;subst m;rw[HX.out];go_wp2;go_roundw
    case rel=>exact⟨k+1,by omega,by go_num,by first|rfl|trivial,int_eq (by rw[Y.out];omega)⟩
    case measure=>simp[intOf];omega
   obtain rfl:k=Z.size:=by omega
   go_wp2;go_ret2;exact⟨by rw[O.out,←HN.out];rfl,rfl⟩
end Kr
