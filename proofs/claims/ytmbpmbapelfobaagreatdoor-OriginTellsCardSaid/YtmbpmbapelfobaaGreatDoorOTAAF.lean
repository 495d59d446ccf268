/- Lemmas. -/
import Derived.Test.YtmbpmbapelfobaaGreatDoorOTAAE
set_option linter.unusedSimpArgs false
set_option linter.unusedVariables false
set_option maxRecDepth 100000
set_option maxHeartbeats 64000000
namespace Go.Proofs.YtmbpmbapelfobaaGreatDoor
open Tryz
namespace YP
open Go.RowKit Base dw lX qy Ei Ba fH YO abZ
theorem jB {w:World} {g:Nat} {L:List Nat} (h:Box w g 156 L) (e:L.length=8) (ok:Bool) (a:Array Value) (i:a.getD 2 undef=.pointer (some ⟨g,0,none⟩)) (f:a.getD 3 undef=.bool ok):
  (results f168 a).run prog w=.ok (.tuple #[.agg (bC L).toArray,.bool ok]) w:=by
 have d:a[2]?.getD undef=.pointer (some ⟨g,0,none⟩):=by simpa using i
 have c:a[3]?.getD undef=.bool ok:=by simpa using f
 simp[results,results168,d,c,asAddr,abh h e]
def GN:Option Nat→Int
 |none=> -1
 |some g=>(g:Int)
def place (g:Option Nat) (n k:Nat):Nat:=match g with
 |none=>k
 |some x=>if x≤k then 8 - n+k else k
def wH (L:List Nat) (g:Option Nat):Nat→List Nat
 |0=>mM
 |k+1=>(wH L g k).set (place g L.length k) (L.getD k 0)
theorem oO (L:List Nat) (g:Option Nat) (k:Nat):(wH L g k).length=8:=by
 induction k with
 |zero=>rfl
 |succ k ih=>rw[wH,List.length_set,ih]
theorem WT {L:List Nat} (h:L.length=8):wH L none L.length=L:=by
 match L,h with
 |[a,b,c,d,e,f,g,i],_=>rfl
theorem WU {L : List Nat} {g : Nat} (h : g ≤ L.length) (j : L.length ≤ 7) : wH L (some g) L.length = fill (L.take g) (L.drop g) := by
 match L,j,h with
 | [], _, h => obtain rfl:g=0:=by simpa using h
               rfl
 |[a],_,h=>rcases(show g=0∨g=1 by simp at h;omega)with rfl|rfl<;>rfl
 |[a,b],_,h=>rcases(show g=0∨g=1∨g=2 by simp at h;omega)with rfl|rfl|rfl<;>rfl
 |[a,b,c],_,h=>rcases(show g=0∨g=1∨g=2∨g=3 by simp at h;omega)with rfl|rfl|rfl|rfl<;>rfl
 |[a,b,c,d],_,h=>rcases(show g=0∨g=1∨g=2∨g=3∨g=4 by simp at h;omega)with rfl|rfl|rfl|rfl|rfl<;>rfl
 |[a,b,c,d,e],_,h=>rcases(show g=0∨g=1∨g=2∨g=3∨g=4∨g=5 by simp at h;omega)with rfl|rfl|rfl|rfl|rfl|rfl<;>rfl
 |[a,b,c,d,e,f],_,h=>rcases(show g=0∨g=1∨g=2∨g=3∨g=4∨g=5∨g=6 by simp at h;omega)with rfl|rfl|rfl|rfl|rfl|rfl|rfl<;>rfl
 |[a,b,c,d,e,f,i],_,h=>rcases(show g=0∨g=1∨g=2∨g=3∨g=4∨g=5∨g=6∨g=7 by simp at h;omega)with rfl|rfl|rfl|rfl|rfl|rfl|rfl|rfl<;>rfl
theorem FI {t:List UInt8} {a b:Nat} (h:kJ t=some [a,b]):a<65536∧b<65536:=by
 have c:∀(ps:List (List UInt8)) (l:List Nat),smalls ps=some l→∀x ∈ l,x≤255:=by
  intro ps;induction ps with
  |nil=>intro l h;injection h with h;subst h;intro x hx;simp at hx
  |cons p r ih=>
   intro l h;rw[smalls]at h;split at h
   ·rename_i n y h1 h2;injection h with h
    subst h;intro x hx;rcases List.mem_cons.1 hx with rfl|hx
    ·exact Ns h1
    exact ih y h2 x hx
   cases h
 unfold kJ at h;cases e:smalls (dh t)with
 |none=>rw[e]at h;cases h
 |some l=>
  rw[e]at h;replace h:two l=some [a,b]:=h;unfold two at h;split at h
  ·rename_i x1 x2 x3 x4;injection h with h
   injection h with h1 h
   injection h with h2 _
   have i:=c _ _ e x1 (by simp);have g:=c _ _ e x2 (by simp);have f:=c _ _ e x3 (by simp);have d:=c _ _ e x4 (by simp);omega
  cases h
theorem kU (l:List UInt8) (a:Nat) (c:UInt8) (h:l[a]?=some c):l.drop a=c::l.drop (a+1):=by
 obtain⟨e,d⟩:=List.getElem?_eq_some_iff.1 h;rw[←d];exact List.drop_eq_getElem_cons e
theorem jS (s:ByteArray) (w:World) (hs:s.size≤1048576):Calls prog 168 #[.string s] w fun e w'=>e=.returned (GK (six s.data.toList))∧Below w.heap.size w w':=by
 rw[←Y8];obtain⟨i0,hi,e9,e8,e7⟩:=info_parts L6;have hl:s.data.toList.length=s.size:=Array.length_toList;have X:=hid hl;obtain⟨D,hD⟩:∃D,D=doc s.data.toList:=⟨_,rfl⟩;rw[←hD];have HD:=hid hD;clear hD hl;go_enter func168,ntmps168;go_upto_region 3 with(fail)
 generalize hw1:(w.alloc _).alloc _=w1;have r:Hid (Below w.heap.size w w1):=by
  show Below _ _ _;rw[←hw1];exact((Below.refl _ _).alloc (Nat.le_refl _) _).alloc (by simp) _
 have HA:Hid (Box w1 w.heap.size 156 mM):=by
  show Box _ _ _ _;rw[←hw1];unfold Box;rw[heap_alloc_old _ _ (by simp)];exact heap_alloc_new _ _
 have HN:Hid (Box w1 (w.heap.size+1) 156 mM):=by
  show Box _ _ _ _;rw[←hw1];unfold Box;have:=heap_alloc_new (w.alloc (.cells (bC mM).toArray 156)) (.cells (bC mM).toArray 156);rw[show(w.alloc (.cells (bC mM).toArray 156)).heap.size=w.heap.size+1 by simp]at this;exact this
 clear hw1
 go_cut [6,7] (fun va vg wx=>va=.int .i64 0∧vg=.int .i64 (-1)∧wx=w1)
 case first=>
  go_wp2
  go_meet
  exact⟨rfl,rfl,rfl⟩
 case rest =>
  obtain⟨rfl,rfl,rfl⟩:=hcut
  apply_assumption
  refine wp_seq_k fun K3 hK3=>?_
  go_cut [6,7]from 16 to 31 (fun va vg wx=>∃(a:Nat) (g:Option Nat),va=.int .i64 (a:Int)∧vg=.int .i64 (GN g)∧wx=wc∧a≤s.size∧(g=none∨g=some 0)∧Hid (D=R (dD (s.data.toList.drop a)) [] g))
  case first =>
   by_cases h0:s.size=0
   ·have d3:Hid (D=R (dD (s.data.toList.drop 0)) [] none):=by
     show _=_;rw[HD.out,List.drop_zero,show s.data.toList=[]from List.eq_nil_of_length_eq_zero (by rw[X.out,h0])];rfl
    have k4:¬(0:Int)<(s.size:Int):=by omega
    clear h0;go_wp2
    go_meet
    exact⟨0,none,rfl,rfl,rfl,by omega,.inl rfl,d3⟩
   have k4:(0:Int)<(s.size:Int):=by omega
   have i7:0<s.size:=by omega
   obtain⟨c,hc⟩:∃c,s[0]=c:=⟨_,rfl⟩;have HG:Hid (s.data.toList[0]?=some c):=by
    have W:s.data.toList[0]'(by rw[X.out];exact i7)=c:=hc;show _=_;rw[List.getElem?_eq_getElem (by rw[X.out];exact i7),W]
   clear h0;by_cases h58:c=58
   ·have b0:((c.toNat:Int)==58)=true:=by rw[h58];rfl
    by_cases h2:s.size<2
    ·have F:Hid (D=none):=by
      show _=_;rw[HD.out,←List.drop_zero (l:=s.data.toList),kU _ 0 c HG.out,h58,List.drop_eq_nil_of_le (by rw[X.out];omega)];rfl
     have Q:Hid (Below wc.heap.size wc wc):=Below.refl _ _;have k3:(s.size:Int)<2:=by omega
     clear h58;have O:Hid (fin D=none):=by
      show _=_;rw[F.out];rfl
     have t:=hid (fD O);have f:=hid (HA.below Q);have v:=hid (HN.below Q);obtain⟨c0,c1,c2,c3,c4,c5,c6,c7⟩:=dA v (fun _=>0) rfl;obtain⟨a0,a1,a2,a3,a4,a5,a6,a7⟩:=dA f (fun _=>0) rfl;obtain⟨f0,f1,f2,f3,f4,f5,f6,f7⟩:=gy f;go_wp2;exact bodyPost_ret (w:=pW _ w.heap.size (fun _=>0)) (jB (L:=mM) (gq f (fun _=>0)) rfl false _ rfl rfl) rfl ⟨by rw[t.out],dH (r.trans (Q.mono r.size)) (Nat.le_refl _) _⟩
    have k3:¬(s.size:Int)<2:=by omega
    have i6:1<s.size:=by omega
    obtain⟨d,hd⟩:∃d,s[1]=d:=⟨_,rfl⟩;have k8:Hid (s.data.toList[1]?=some d):=by
     have W:s.data.toList[1]'(by rw[X.out];exact i6)=d:=hd;show _=_;rw[List.getElem?_eq_getElem (by rw[X.out];exact i6),W]
    have j3:Hid (s.data.toList=58::d::s.data.toList.drop 2):=by
     show _=_
     conv=>lhs;rw[←List.drop_zero (l:=s.data.toList),kU _ 0 c HG.out,h58,kU _ 1 d k8.out]
    by_cases hd58:d=58
    ·have d8:((d.toNat:Int)==58)=true:=by rw[hd58];rfl
     have d3:Hid (D=R (dD (s.data.toList.drop 2)) [] (some 0)):=by
      show _=_;rw[HD.out,j3.out,hd58];rfl
     clear h58 hd58;go_wp2
     go_meet
     exact⟨2,some 0,rfl,rfl,rfl,by omega,.inr rfl,d3⟩
    have d8:((d.toNat:Int)==58)=false:=by
     rw[beq_eq_false_iff_ne];intro e;exact hd58 (UInt8.toNat_inj.1 (by show _=58;omega))
    have F:Hid (D=none):=by
     show _=_;rw[HD.out,j3.out];unfold doc;simp only[if_true];rw[if_neg hd58]
    have Q:Hid (Below wc.heap.size wc wc):=Below.refl _ _;clear h58 hd58;have O:Hid (fin D=none):=by
     show _=_;rw[F.out];rfl
    have t:=hid (fD O);have f:=hid (HA.below Q);have v:=hid (HN.below Q);obtain⟨c0,c1,c2,c3,c4,c5,c6,c7⟩:=dA v (fun _=>0) rfl;obtain⟨a0,a1,a2,a3,a4,a5,a6,a7⟩:=dA f (fun _=>0) rfl;obtain⟨f0,f1,f2,f3,f4,f5,f6,f7⟩:=gy f;go_wp2;exact bodyPost_ret (w:=pW _ w.heap.size (fun _=>0)) (jB (L:=mM) (gq f (fun _=>0)) rfl false _ rfl rfl) rfl ⟨by rw[t.out],dH (r.trans (Q.mono r.size)) (Nat.le_refl _) _⟩
   have b0:((c.toNat:Int)==58)=false:=by
    rw[beq_eq_false_iff_ne];intro e;exact h58 (UInt8.toNat_inj.1 (by show _=58;omega))
   have d3:Hid (D=R (dD (s.data.toList.drop 0)) [] none):=by
    show _=_;rw[HD.out,List.drop_zero]
    conv=>lhs;rw[←List.drop_zero (l:=s.data.toList),kU _ 0 c HG.out]
    unfold doc;simp only[];rw[if_neg h58,←kU _ 0 c HG.out,List.drop_zero]
   clear h58;go_wp2
   go_meet
   exact⟨0,none,rfl,rfl,rfl,by omega,.inl rfl,d3⟩
  case rest =>
   obtain⟨a0,g0,rfl,rfl,rfl,k0,f8,k5⟩:=hcut;have k9:=hid f8;clear f8
   go_upto_block 0 with(fail)
   go_cut [5,6,7,8,9,10,11,12]from 33 to 125 (fun vl _ vg _ _ _ _ _ wx=>∃(L:List Nat) (g:Option Nat),vg=.int .i64 (GN g)∧Hid (wx.ownsRow wc.heap.size 3 1 vl L.length (fO L))∧Hid (Below wc.heap.size wc wx)∧Hid (D=some (L,g))∧L.length≤8∧Hid (∀x ∈ L,x<65536)∧Hid (∀x,g=some x→x≤L.length))
   case first=>
    go_wp2;go_loopw [5,6,7,8,9,10,11,12] (fun vl va vg _ _ _ _ _ wr=>∃(a:Nat) (L:List Nat) (g:Option Nat),va=.int .i64 (a:Int)∧vg=.int .i64 (GN g)∧a≤s.size∧Hid (wr.ownsRow wc.heap.size 3 1 vl L.length (fO L))∧Hid (Below wc.heap.size wc wr)∧Hid (D=R (dD (s.data.toList.drop a)) L g)∧L.length≤8∧Hid (∀x ∈ L,x<65536)∧Hid (∀x,g=some x→x≤L.length)) (fun _ va _ _ _ _ _ _ _=>s.size - (intOf va).toNat)
    case atStart=>exact⟨a0,[],g0,rfl,rfl,k0,World.ownsRow_nil _ _ _ _,Below.refl _ _,k5,by simp,by intro x hx;simp at hx,by intro x hx;rcases k9 with h|h<;>rw[h]at hx<;>cases hx;simp⟩
    case round=>
     obtain⟨a,L,g,rfl,rfl,ha,HO,j,HW,b9,Z,a8⟩:=hrel;obtain⟨m,hm⟩:∃m,m=L.length:=⟨_,rfl⟩;rw[←hm]at HO b9;have E:=hid hm;clear hm;obtain⟨G,hG⟩:∃G,G=GN g:=⟨_,rfl⟩;rw[←hG];have b6:=hid hG;clear hG;obtain⟨AL,cL,rfl,h5,b8,d6⟩:=aW HO;clear d6 b8;by_cases hlt:a<s.size
     ·have m6:(a:Int)<(s.size:Int):=by omega
      have i8:Hid (s.data.toList.drop a≠[]):=by
       intro h;have h2:=congrArg List.length h;rw[List.length_drop,X.out]at h2;simp at h2;omega
      by_cases hm8:m=8
      ·have F:Hid (D=none):=by show _=_;rw[HW.out];exact abV i8 (by rw[←E.out,hm8]) g
       have h3:((m:Int)==8)=true:=by simp;omega
       have g9:(m:Int)=8:=by omega
       clear hm8;have O:Hid (fin D=none):=by
        show _=_;rw[F.out];rfl
       have t:=hid (fD O);have f:=hid (HA.below j);have v:=hid (HN.below j);obtain⟨c0,c1,c2,c3,c4,c5,c6,c7⟩:=dA v (fun _=>0) rfl;obtain⟨a0,a1,a2,a3,a4,a5,a6,a7⟩:=dA f (fun _=>0) rfl;obtain⟨f0,f1,f2,f3,f4,f5,f6,f7⟩:=gy f;go_wp2;exact bodyPost_ret (w:=pW _ w.heap.size (fun _=>0)) (jB (L:=mM) (gq f (fun _=>0)) rfl false _ rfl rfl) rfl ⟨by rw[t.out],dH (r.trans (j.mono r.size)) (Nat.le_refl _) _⟩
      have h3:((m:Int)==8)=false:=by simp;omega
      have g9:¬(m:Int)=8:=by omega
      have b5:Hid (L.length≠8):=by show _≠_;rw[←E.out];exact hm8
      have m3:m≤7:=by omega
      obtain⟨c,hc⟩:∃c,s[a]=c:=⟨_,rfl⟩;have HG:Hid (s.data.toList[a]?=some c):=by
       have W:s.data.toList[a]'(by rw[X.out];exact hlt)=c:=hc;show _=_;rw[List.getElem?_eq_getElem (by rw[X.out];exact hlt),W]
      have g5:Hid (s.data.toList.drop a=c::s.data.toList.drop (a+1)):=kU _ a c HG;clear hm8 b9;by_cases h58:c=58
      ·have b0:((c.toNat:Int)==58)=true:=by rw[h58];rfl
       have i4:(c.toNat:Int)=58:=by rw[h58];rfl
       cases g with
       |some gx=>
        have F:Hid (D=none):=by show _=_;rw[HW.out,g5.out,h58];exact U5 _ b5 gx
        have hG:0≤G:=by rw[b6.out];exact Int.natCast_nonneg gx
        clear h58;have O:Hid (fin D=none):=by
         show _=_;rw[F.out];rfl
        have t:=hid (fD O);have f:=hid (HA.below j);have v:=hid (HN.below j);obtain⟨c0,c1,c2,c3,c4,c5,c6,c7⟩:=dA v (fun _=>0) rfl;obtain⟨a0,a1,a2,a3,a4,a5,a6,a7⟩:=dA f (fun _=>0) rfl;obtain⟨f0,f1,f2,f3,f4,f5,f6,f7⟩:=gy f;go_wp2;exact bodyPost_ret (w:=pW _ w.heap.size (fun _=>0)) (jB (L:=mM) (gq f (fun _=>0)) rfl false _ rfl rfl) rfl ⟨by rw[t.out],dH (r.trans (j.mono r.size)) (Nat.le_refl _) _⟩
       |none=>
        have g3:Hid (D=R (dD (s.data.toList.drop (a+1))) L (some m)):=by show _=_;rw[HW.out,g5.out,h58,E.out];exact YL _ b5
        have hG:¬0≤G:=by rw[b6.out];show ¬(0:Int)≤-1;omega
        have P:Hid (∀x,some m=some x→x≤L.length):=by intro x hx;injection hx with hx;rw[←hx,E.out];exact Nat.le_refl _
        clear h58;go_wp2;go_roundw
        case rel=>exact⟨a+1,L,some m,by go_num,rfl,by omega,by show World.ownsRow _ _ _ _ _ _ _;rw[←E.out];exact HO,j,g3,by rw[←E.out];omega,Z,P⟩
        case measure=>simp[intOf];omega
      have b0:((c.toNat:Int)==58)=false:=by
       rw[beq_eq_false_iff_ne];intro e;exact h58 (UInt8.toNat_inj.1 (by show _=58;omega))
      have i4:¬(c.toNat:Int)=58:=by simpa using b0
      have H0:Hid ((s.data.toList.drop a)[0]?≠some 58):=by
       intro h;rw[g5.out]at h;injection h with h
       exact h58 h
      clear h58;go_wp2_with fail
      refine(YO.jm s a _ ha (by omega)).mono ?_;rintro e w2 ⟨⟨I,b3,rfl⟩,j4⟩;subst j4;have HP:=hid b3;obtain⟨n,hn⟩:∃n,n=val 16 ((s.data.toList.drop a).take I):=⟨_,rfl⟩;have l2:n<65536:=by rw[hn];exact aaW b3
      have l3:=b3.four;have m2:a+I≤s.size:=by have:=b3.len;rw[List.length_drop,X.out]at this;omega
      rw[←hn];have j2:=hid hn;clear hn;have N:=HO.out;have C:=j.out;by_cases hin:a+I<s.size
      ·have h6 : (a : Int) + (I : Int) < (s.size : Int) := by omega
       obtain⟨d,hd⟩:∃d,s[a+I]=d:=⟨_,rfl⟩;have e2:Hid ((s.data.toList.drop a)[I]?=some d):=by
        have W:s.data.toList[a+I]'(by rw[X.out];exact hin)=d:=hd;show _=_;rw[zx,List.getElem?_eq_getElem (by rw[X.out];exact hin),W]
       by_cases h46:d=46
       ·have e5:((d.toNat:Int)==46)=true:=by rw[h46];rfl
        have i5:(d.toNat:Int)=46:=by rw[h46];rfl
        have e0:Hid (D=match kJ (s.data.toList.drop a)with
          |some x=>if L.length≤6 then some (L++x,g)else none
          |none=>none):=by
         show _=_;rw[HW.out];exact abX HP (by rw[e2.out,h46]) b5 g
        have j1:Hid (I=0→kJ (s.data.toList.drop a)=none):=by
         intro h;refine Xo ?_;have:=e2.out;rw[h,h46]at this;exact this
        obtain⟨T1,k1⟩:∃T1,s.extract a s.size=T1:=⟨_,rfl⟩;have i9:Hid (T1.data.toList=s.data.toList.drop a):=by show _=_;rw[←k1,xw]
        have g8:T1.size≤1073741824:=by rw[dZ i9.out,List.length_drop,X.out];omega
        obtain⟨q,hq⟩:∃q,q=kJ (s.data.toList.drop a):=⟨_,rfl⟩;have HQ:Hid (q=kJ T1.data.toList):=by show _=_;rw[i9.out];exact hq
        rw[←hq]at e0 j1;clear h46 hq;go_wp2_with fail
        refine(VP T1 _ g8).mono ?_;rw[←HQ.out];rintro e w5 ⟨rfl,g1⟩;have T:=aY N g1;have J:Below wc.heap.size wc w5:=C.trans (g1.mono C.size);have H:=hid J;clear g1 N C;cases q with
        | none=>
         have F:Hid (D=none):=e0.out;have HF:Hid (FV none=.tuple #[.int .i64 0,.int .i64 0,.bool false]):=rfl;rw[HF.out];clear T J;by_cases d7:I=0
         ·have e4:((I:Int)==0)=true:=by simp;omega
          clear d7;have O:Hid (fin D=none):=by
           show _=_;rw[F.out];rfl
          have t:=hid (fD O);have f:=hid (HA.below H);have v:=hid (HN.below H);obtain⟨c0,c1,c2,c3,c4,c5,c6,c7⟩:=dA v (fun _=>0) rfl;obtain⟨a0,a1,a2,a3,a4,a5,a6,a7⟩:=dA f (fun _=>0) rfl;obtain⟨f0,f1,f2,f3,f4,f5,f6,f7⟩:=gy f;go_wp2;exact bodyPost_ret (w:=pW _ w.heap.size (fun _=>0)) (jB (L:=mM) (gq f (fun _=>0)) rfl false _ rfl rfl) rfl ⟨by rw[t.out],dH (r.trans (H.mono r.size)) (Nat.le_refl _) _⟩
         have e4:((I:Int)==0)=false:=by simp;omega
         clear d7;have O:Hid (fin D=none):=by
          show _=_;rw[F.out];rfl
         have t:=hid (fD O);have f:=hid (HA.below H);have v:=hid (HN.below H);obtain⟨c0,c1,c2,c3,c4,c5,c6,c7⟩:=dA v (fun _=>0) rfl;obtain⟨a0,a1,a2,a3,a4,a5,a6,a7⟩:=dA f (fun _=>0) rfl;obtain⟨f0,f1,f2,f3,f4,f5,f6,f7⟩:=gy f;go_wp2;exact bodyPost_ret (w:=pW _ w.heap.size (fun _=>0)) (jB (L:=mM) (gq f (fun _=>0)) rfl false _ rfl rfl) rfl ⟨by rw[t.out],dH (r.trans (H.mono r.size)) (Nat.le_refl _) _⟩
        | some qx=>
         obtain⟨x,y,rfl⟩:=JL (HQ.symm);have HF:Hid (FV (some [x,y])=.tuple #[.int .i64 (x:Int),.int .i64 (y:Int),.bool true]):=rfl;rw[HF.out];have d7:I≠0:=fun h=>by have:=j1 h;cases this
         have e4:((I:Int)==0)=false:=by simp;omega
         obtain⟨b7,l0⟩:=FI (HQ.symm);clear d7;by_cases hm6:m≤6
         ·have h4:¬(6:Int)<(m:Int):=by omega
          have d2:Hid (D=some (L++[x,y],g)):=by show _=_;rw[e0.out];simp only[];rw[if_pos (by rw[←E.out];exact hm6)]
          have Y:Hid (∀z ∈ L++[x,y],z<65536):=by
           intro z hz;rcases List.mem_append.1 hz with h|h
           ·exact Z z h
           simp at h;omega
          have P:Hid (∀z,g=some z→z≤(L++[x,y]).length):=by
           intro z hz;have:=a8 z hz;rw[List.length_append];omega
          go_wp2_with (at_builtin;refine bJ rfl _ _ 182 rfl wc.heap.size 3 i0 (.int .i64 0) 8 underlying182 hi e9 e8 e7 rfl _ m _ rfl T J J.size [.int .i64 (x:Int),.int .i64 (y:Int)] 2 rfl rfl (by intro u hu;simp at hu;rcases hu with rfl|rfl<;>rfl) (by unfold maxLen;omega) (by omega) ?_)
          intro v7 w7 A B;have d1:Hid (w7.ownsRow wc.heap.size 3 1 v7 (L++[x,y]).length (fO (L++[x,y]))):=by
           show World.ownsRow _ _ _ _ _ _ _;rw[List.length_append,←E.out,l9];exact A
          have d4:=hid B;clear T J A B;go_wp2
          go_meet
          exact⟨L++[x,y],g,by rw[b6.out],d1,d4,d2,by rw[List.length_append,←E.out];show m+2≤8;omega,Y,P⟩
         have h4:(6:Int)<(m:Int):=by omega
         have F:Hid (D=none):=by show _=_;rw[e0.out];simp only[];rw[if_neg (by rw[←E.out];exact hm6)]
         clear T J;have O:Hid (fin D=none):=by
          show _=_;rw[F.out];rfl
         have t:=hid (fD O);have f:=hid (HA.below H);have v:=hid (HN.below H);obtain⟨c0,c1,c2,c3,c4,c5,c6,c7⟩:=dA v (fun _=>0) rfl;obtain⟨a0,a1,a2,a3,a4,a5,a6,a7⟩:=dA f (fun _=>0) rfl;obtain⟨f0,f1,f2,f3,f4,f5,f6,f7⟩:=gy f;go_wp2;exact bodyPost_ret (w:=pW _ w.heap.size (fun _=>0)) (jB (L:=mM) (gq f (fun _=>0)) rfl false _ rfl rfl) rfl ⟨by rw[t.out],dH (r.trans (H.mono r.size)) (Nat.le_refl _) _⟩
       have e5:((d.toNat:Int)==46)=false:=by
        rw[beq_eq_false_iff_ne];intro e;exact h46 (UInt8.toNat_inj.1 (by show _=46;omega))
       have i5:¬(d.toNat:Int)=46:=by simpa using e5
       by_cases hd58:d=58
       ·have d8:((d.toNat:Int)==58)=true:=by rw[hd58];rfl
        have j9:(d.toNat:Int)=58:=by rw[hd58];rfl
        have j0:Hid (D=if (s.data.toList.drop a).drop (I+1)=[]then none else R (dD ((s.data.toList.drop a).drop (I+1))) (L++[n]) g):=by
         show _=_;rw[HW.out,j2.out];exact YM HP H0 (by rw[e2.out,hd58]) b5 g
        clear h46 hd58;by_cases hlast:a+I+1=s.size
        ·have F:Hid (D=none):=by
          show _=_;rw[j0.out,if_pos];rw[List.drop_drop];exact List.drop_eq_nil_of_le (by rw[X.out];omega)
         have j6:((a:Int)+(I:Int)+1==(s.size:Int))=true:=by simp;omega
         have j5:(a:Int)+(I:Int)+1=(s.size:Int):=by omega
         clear N C hlast;have O:Hid (fin D=none):=by
          show _=_;rw[F.out];rfl
         have t:=hid (fD O);have f:=hid (HA.below j);have v:=hid (HN.below j);obtain⟨c0,c1,c2,c3,c4,c5,c6,c7⟩:=dA v (fun _=>0) rfl;obtain⟨a0,a1,a2,a3,a4,a5,a6,a7⟩:=dA f (fun _=>0) rfl;obtain⟨f0,f1,f2,f3,f4,f5,f6,f7⟩:=gy f;go_wp2;exact bodyPost_ret (w:=pW _ w.heap.size (fun _=>0)) (jB (L:=mM) (gq f (fun _=>0)) rfl false _ rfl rfl) rfl ⟨by rw[t.out],dH (r.trans (j.mono r.size)) (Nat.le_refl _) _⟩
        have j6:((a:Int)+(I:Int)+1==(s.size:Int))=false:=by simp;omega
        have j5:¬(a:Int)+(I:Int)+1=(s.size:Int):=by omega
        have g3:Hid (D=R (dD (s.data.toList.drop (a+I+1))) (L++[n]) g):=by
         show _=_;rw[j0.out,if_neg,List.drop_drop,show a+(I+1)=a+I+1 by omega];rw[List.drop_drop];intro h;have h2:=congrArg List.length h;rw[List.length_drop,X.out]at h2;simp at h2;omega
        have Y:Hid (∀x ∈ L++[n],x<65536):=by
         intro x hx;rcases List.mem_append.1 hx with h|h
         ·exact Z x h
         simp at h;omega
        have P:Hid (∀x,g=some x→x≤(L++[n]).length):=by
         intro x hx;have:=a8 x hx;rw[List.length_append];omega
        go_wp2_with (at_builtin;refine bJ rfl _ _ 182 rfl wc.heap.size 3 i0 (.int .i64 0) 8 underlying182 hi e9 e8 e7 rfl _ m _ rfl N C C.size [.int .i64 (n:Int)] 1 rfl rfl (by intro u hu;simp at hu;subst hu;rfl) (by unfold maxLen;omega) (by omega) ?_)
        intro v7 w7 A B;have d1:Hid (w7.ownsRow wc.heap.size 3 1 v7 (L++[n]).length (fO (L++[n]))):=by
         show World.ownsRow _ _ _ _ _ _ _;rw[List.length_append,←E.out,l9];exact A
        have d4:=hid B;clear N C A B;go_wp2;go_roundw
        case rel=>exact⟨a+I+1,L++[n],g,by go_num,by rw[b6.out],by omega,d1,d4,g3,by rw[List.length_append,←E.out];show m+1≤8;omega,Y,P⟩
        case measure=>simp[intOf];omega
       have d8:((d.toNat:Int)==58)=false:=by
        rw[beq_eq_false_iff_ne];intro e;exact hd58 (UInt8.toNat_inj.1 (by show _=58;omega))
       have j9:¬(d.toNat:Int)=58:=by simpa using d8
       have F:Hid (D=none):=by show _=_;rw[HW.out];exact aeI HP e2 hd58 h46 b5 g
       clear h46 hd58 N C;have O:Hid (fin D=none):=by
        show _=_;rw[F.out];rfl
       have t:=hid (fD O);have f:=hid (HA.below j);have v:=hid (HN.below j);obtain⟨c0,c1,c2,c3,c4,c5,c6,c7⟩:=dA v (fun _=>0) rfl;obtain⟨a0,a1,a2,a3,a4,a5,a6,a7⟩:=dA f (fun _=>0) rfl;obtain⟨f0,f1,f2,f3,f4,f5,f6,f7⟩:=gy f;go_wp2;exact bodyPost_ret (w:=pW _ w.heap.size (fun _=>0)) (jB (L:=mM) (gq f (fun _=>0)) rfl false _ rfl rfl) rfl ⟨by rw[t.out],dH (r.trans (j.mono r.size)) (Nat.le_refl _) _⟩
      have h6:¬(a:Int)+(I:Int)<(s.size:Int):=by omega
      have d2:Hid (D=R (dD (s.data.toList.drop s.size)) (L++[n]) g):=by
       show _=_;rw[HW.out,abW HP.out i8.out (by rw[zx];exact List.getElem?_eq_none (by rw[X.out];omega)) b5.out g,←j2.out,List.drop_eq_nil_of_le (by rw[X.out];exact Nat.le_refl _),aa0]
      have i3:a+I=s.size:=by omega
      have e6:Hid ((a:Int)+(I:Int)=(s.size:Int)):=by show _=_;omega
      clear i3;have Y:Hid (∀x ∈ L++[n],x<65536):=by
       intro x hx;rcases List.mem_append.1 hx with h|h
       ·exact Z x h
       simp at h;omega
      have P:Hid (∀x,g=some x→x≤(L++[n]).length):=by
       intro x hx;have:=a8 x hx;rw[List.length_append];omega
      go_wp2_with (at_builtin;refine bJ rfl _ _ 182 rfl wc.heap.size 3 i0 (.int .i64 0) 8 underlying182 hi e9 e8 e7 rfl _ m _ rfl N C C.size [.int .i64 (n:Int)] 1 rfl rfl (by intro u hu;simp at hu;subst hu;rfl) (by unfold maxLen;omega) (by omega) ?_)
      intro v7 w7 A B;have d1:Hid (w7.ownsRow wc.heap.size 3 1 v7 (L++[n]).length (fO (L++[n]))):=by
       show World.ownsRow _ _ _ _ _ _ _;rw[List.length_append,←E.out,l9];exact A
      have d4:=hid B;clear N C A B;go_wp2;go_roundw
      case rel=>exact⟨s.size,L++[n],g,by first|exact int_eq e6|go_num,by rw[b6.out],Nat.le_refl _,d1,d4,d2,by rw[List.length_append,←E.out];show m+1≤8;omega,Y,P⟩
      case measure=>(have:=e6.out;simp[intOf];omega)
     obtain rfl:a=s.size:=by omega
     have d2:Hid (D=some (L,g)):=by
      show _=_;rw[HW.out,List.drop_eq_nil_of_le (by rw[X.out];exact Nat.le_refl _),aa0]
     go_wp2
     go_meet
     exact⟨L,g,by rw[b6.out],by show World.ownsRow _ _ _ _ _ _ _;rw[←E.out];exact HO,j,d2,by rw[←E.out];exact b9,Z,a8⟩
   case rest=>
    obtain⟨L,g,rfl,HO,j,e3,b9,Z,a8⟩:=hcut;obtain⟨n,hn⟩:∃n,n=L.length:=⟨_,rfl⟩;rw[←hn]at HO b9;have E:=hid hn;clear hn;obtain⟨AL,cL,rfl,h5,b8,d6⟩:=aW HO;have HR:=hid d6;clear d6 b8;cases g with
    | none=>
     have j7:GN none= -1:=rfl;by_cases h8:n=8
     ·subst h8;go_upto_region 33 with(fail)
      generalize hw3:wc.alloc _=w3;have g2:Hid (Box w3 wc.heap.size 156 (wH L none 0)):=by
       show Box _ _ _ _;rw[←hw3];exact heap_alloc_new _ _
      have g7:Hid (Below wc.heap.size wc w3):=by
       show Below _ _ _;rw[←hw3];exact(Below.refl _ _).alloc (Nat.le_refl _) _
      clear hw3;go_wp2;go_loopw [14,15,145] (fun _ _ vk wr=>∃k:Nat,k≤8∧vk=.int .i64 (k:Int)∧Hid (Box wr wc.heap.size 156 (wH L none k))∧Hid (Below wc.heap.size w3 wr)) (fun _ _ vk _=>8 - (intOf vk).toNat)
      case atStart=>exact⟨0,by omega,rfl,g2,Below.refl _ _⟩
      case round=>
       obtain⟨k,hk,rfl,HX,HB⟩:=hrel;have a9:Hid (Below wc.heap.size wc wr):=g7.trans HB;by_cases hlt:k<8
       ·obtain⟨b,off,rfl,_,_⟩:=HR.spot (by omega);obtain⟨x,hx⟩:∃x,L[k]'(by rw[←E.out];exact hlt)=x:=⟨_,rfl⟩;have W:wr.cell? ⟨b,off+k,none⟩=some (.int .i64 (x:Int)):=by
         obtain⟨b',o',e1,_,f9⟩:=(HR.below a9).2 k (by rw[yh,←E.out];exact hlt);cases e1;rw[f9,Fa L k (by rw[←E.out];exact hlt),hx]
        have b7:x<65536:=by rw[←hx];exact Z _ (List.getElem_mem _)
        have d9:Hid (L.getD k 0=x):=by
         show _=_;rw[List.getD_eq_getElem?_getD,List.getElem?_eq_getElem (by rw[←E.out];exact hlt),hx];rfl
        have l5:IntKind.u16.wrap (x:Int)=(x:Int):=by simp[IntKind.wrap,IntKind.signed,IntKind.bits];omega
        clear b7;clear hx;have d0:Hid (place none L.length k=k):=rfl;have i2:=HX.cell k (by rw[oO];omega);have i1:=HX.frozen k;have c8:Hid (Box (wr.setCell ⟨wc.heap.size,k,none⟩ (.int .u16 (x:Int))) wc.heap.size 156 (wH L none (k+1))):=by
         show Box _ _ _ _;rw[wH,d0.out,d9.out];exact HX.set k x
        have d5:Hid (Below wc.heap.size w3 (wr.setCell ⟨wc.heap.size,k,none⟩ (.int .u16 (x:Int)))):=HB.setCell (Nat.le_refl _) _;go_wp2;go_roundw
        case rel=>exact⟨k+1,by omega,by go_num,c8,d5⟩
        case measure=>simp[intOf];omega
       obtain rfl:k=8:=by omega
       obtain⟨V,hV⟩:∃V,V=wH L none 8:=⟨_,rfl⟩;have c9:Hid (V.length=8):=by show _=_;rw[hV,oO]
       have O:Hid (fin D=some V):=by have h9:=WT (L:=L) E.symm;rw[←E.out]at h9;show _=_;rw[e3.out,zG,if_pos E.out.symm,hV,h9]
       rw[←hV]at HX;clear hV;have t:=hid (tV O);have g6:Hid (Below w.heap.size w wr):=(r.trans (j.mono r.size)).trans (a9.mono (by have h1:=r.size;have h2:=j.size;omega));have f:=hid ((HA.below j).below a9);obtain⟨c0,c1,c2,c3,c4,c5,c6,c7⟩:=dA HX (fun i=>V.getD i 0) (uZ c9);obtain⟨a0,a1,a2,a3,a4,a5,a6,a7⟩:=dA f (fun _=>0) rfl;obtain⟨f0,f1,f2,f3,f4,f5,f6,f7⟩:=gy f;go_wp2;exact bodyPost_ret (w:=pW _ w.heap.size (fun i=>V.getD i 0)) (jB (gq f (fun i=>V.getD i 0)) rfl true _ rfl rfl) rfl ⟨(congrArg (fun z=>Ending.returned (.tuple #[.agg (bC z).toArray,.bool true])) (uZ c9).symm).trans (by rw[t.out]),dH g6 (Nat.le_refl _) _⟩
     have m8:((n:Int)==8)=false:=by simp;omega
     have m7:¬(n:Int)=8:=by omega
     have k6:=hid h8;clear h8;have O:Hid (fin D=none):=by
      show _=_;rw[e3.out,zG,if_neg (by rw[←E.out];exact k6.out)]
     have t:=hid (fD O);have f:=hid (HA.below j);have v:=hid (HN.below j);obtain⟨c0,c1,c2,c3,c4,c5,c6,c7⟩:=dA v (fun _=>0) rfl;obtain⟨a0,a1,a2,a3,a4,a5,a6,a7⟩:=dA f (fun _=>0) rfl;obtain⟨f0,f1,f2,f3,f4,f5,f6,f7⟩:=gy f;go_wp2;exact bodyPost_ret (w:=pW _ w.heap.size (fun _=>0)) (jB (L:=mM) (gq f (fun _=>0)) rfl false _ rfl rfl) rfl ⟨by rw[t.out],dH (r.trans (j.mono r.size)) (Nat.le_refl _) _⟩
    | some gx =>
     have j7:GN (some gx)=(gx:Int):=rfl;have f8:¬(gx:Int)<0:=by omega
     have m5:gx≤n:=by rw[E.out];exact a8 gx rfl
     by_cases h7:n≤7
     ·have k2 : ¬ (7 : Int) < (n : Int) := by omega
      go_upto_region 33 with(fail)
      generalize hw3:wc.alloc _=w3;have g2:Hid (Box w3 wc.heap.size 156 (wH L (some gx) 0)):=by
       show Box _ _ _ _;rw[←hw3];exact heap_alloc_new _ _
      have g7:Hid (Below wc.heap.size wc w3):=by
       show Below _ _ _;rw[←hw3];exact(Below.refl _ _).alloc (Nat.le_refl _) _
      clear hw3;go_wp2;go_loopw [14,15,145] (fun _ _ vk wr=>∃k:Nat,k≤n∧vk=.int .i64 (k:Int)∧Hid (Box wr wc.heap.size 156 (wH L (some gx) k))∧Hid (Below wc.heap.size w3 wr)) (fun _ _ vk _=>n - (intOf vk).toNat)
      case atStart=>exact⟨0,by omega,rfl,g2,Below.refl _ _⟩
      case round =>
       obtain⟨k,hk,rfl,HX,HB⟩:=hrel;have a9:Hid (Below wc.heap.size wc wr):=g7.trans HB;by_cases hlt:k<n
       ·obtain ⟨b,off,rfl,_,_⟩:=HR.spot (by omega);obtain⟨x,hx⟩:∃x,L[k]'(by rw[←E.out];exact hlt)=x:=⟨_,rfl⟩;have W:wr.cell? ⟨b,off+k,none⟩=some (.int .i64 (x:Int)):=by
         obtain⟨b',o',e1,_,f9⟩:=(HR.below a9).2 k (by rw[yh,←E.out];exact hlt);cases e1;rw[f9,Fa L k (by rw[←E.out];exact hlt),hx]
        have b7:x<65536:=by rw[←hx];exact Z _ (List.getElem_mem _)
        have d9:Hid (L.getD k 0=x):=by
         show _=_;rw[List.getD_eq_getElem?_getD,List.getElem?_eq_getElem (by rw[←E.out];exact hlt),hx];rfl
        have l4:(x:Int)<65536:=by omega
        have m4:k<8:=by omega
        clear hx;by_cases hgk:gx≤k
        ·have j8:(gx:Int)≤(k:Int):=by omega
         obtain⟨p,hp⟩:∃p,p=8 - n+k:=⟨_,rfl⟩;have l8:p<8:=by omega
         have l6:(8:Int) - (n:Int)+(k:Int)=(p:Int):=by omega
         have m1:(n:Int)≤8:=by omega
         have l1:(p:Int)<8:=by omega
         have b3:=hid hp;have g4:=hid hgk;clear hp hgk;have d0:Hid (place (some gx) L.length k=p):=by show _=_;unfold place;simp only[];rw[if_pos g4.out,←E.out];exact b3.symm
         have i2:=HX.cell p (by rw[oO];omega);have i1:=HX.frozen p;have c8:Hid (Box (wr.setCell ⟨wc.heap.size,p,none⟩ (.int .u16 (x:Int))) wc.heap.size 156 (wH L (some gx) (k+1))):=by
          show Box _ _ _ _;rw[wH,d0.out,d9.out];exact HX.set p x
         have d5:Hid (Below wc.heap.size w3 (wr.setCell ⟨wc.heap.size,p,none⟩ (.int .u16 (x:Int)))):=HB.setCell (Nat.le_refl _) _;go_wp2;go_roundw
         case rel=>exact⟨k+1,by omega,by go_num,c8,d5⟩
         case measure=>simp[intOf];omega
        have j8:¬(gx:Int)≤(k:Int):=by omega
        have g4:=hid hgk;clear hgk;have d0:Hid (place (some gx) L.length k=k):=by show _=_;unfold place;simp only[];rw[if_neg g4.out]
        have i2:=HX.cell k (by rw[oO];omega);have i1:=HX.frozen k;have c8:Hid (Box (wr.setCell ⟨wc.heap.size,k,none⟩ (.int .u16 (x:Int))) wc.heap.size 156 (wH L (some gx) (k+1))):=by
         show Box _ _ _ _;rw[wH,d0.out,d9.out];exact HX.set k x
        have d5:Hid (Below wc.heap.size w3 (wr.setCell ⟨wc.heap.size,k,none⟩ (.int .u16 (x:Int)))):=HB.setCell (Nat.le_refl _) _;go_wp2;go_roundw
        case rel=>exact⟨k+1,by omega,by go_num,c8,d5⟩
        case measure=>simp[intOf];omega
       obtain rfl:k=n:=by omega
       obtain⟨V,hV⟩:∃V,V=wH L (some gx) k:=⟨_,rfl⟩;have c9:Hid (V.length=8):=by show _=_;rw[hV,oO]
       have O:Hid (fin D=some V):=by show _=_;rw[e3.out,vZ,if_pos (by rw[←E.out];exact h7),hV,E.out,WU (a8.out gx rfl) (by rw[←E.out];exact h7)]
       rw[←hV]at HX;clear hV;have t:=hid (tV O);have g6:Hid (Below w.heap.size w wr):=(r.trans (j.mono r.size)).trans (a9.mono (by have h1:=r.size;have h2:=j.size;omega));have f:=hid ((HA.below j).below a9);obtain⟨c0,c1,c2,c3,c4,c5,c6,c7⟩:=dA HX (fun i=>V.getD i 0) (uZ c9);obtain⟨a0,a1,a2,a3,a4,a5,a6,a7⟩:=dA f (fun _=>0) rfl;obtain⟨f0,f1,f2,f3,f4,f5,f6,f7⟩:=gy f;go_wp2;exact bodyPost_ret (w:=pW _ w.heap.size (fun i=>V.getD i 0)) (jB (gq f (fun i=>V.getD i 0)) rfl true _ rfl rfl) rfl ⟨(congrArg (fun z=>Ending.returned (.tuple #[.agg (bC z).toArray,.bool true])) (uZ c9).symm).trans (by rw[t.out]),dH g6 (Nat.le_refl _) _⟩
     have k2:(7:Int)<(n:Int):=by omega
     have k7:=hid h7;clear h7;have O:Hid (fin D=none):=by
      show _=_;rw[e3.out,vZ,if_neg (by rw[←E.out];exact k7.out)]
     have t:=hid (fD O);have f:=hid (HA.below j);have v:=hid (HN.below j);obtain⟨c0,c1,c2,c3,c4,c5,c6,c7⟩:=dA v (fun _=>0) rfl;obtain⟨a0,a1,a2,a3,a4,a5,a6,a7⟩:=dA f (fun _=>0) rfl;obtain⟨f0,f1,f2,f3,f4,f5,f6,f7⟩:=gy f;go_wp2;exact bodyPost_ret (w:=pW _ w.heap.size (fun _=>0)) (jB (L:=mM) (gq f (fun _=>0)) rfl false _ rfl rfl) rfl ⟨by rw[t.out],dH (r.trans (j.mono r.size)) (Nat.le_refl _) _⟩
end YP
namespace RX
open Go.RowKit qy Du
theorem aau {s:List UInt8} {V:List Nat} (h:six s=some V):V.length=8:=by
 unfold six at h;split at h
 ·unfold qy.eight at h;split at h
  ·split at h
   ·rename_i hlt;injection h with h
    subst h;simpa using hlt
   cases h
  cases h
 unfold both at h;split at h
 ·split at h
  ·injection h with h
   subst h;rename_i hlt;unfold fill;simp at hlt⊢;omega
  cases h
 cases h
end RX
namespace KN
open Go.RowKit Base dw lX
theorem fQ {α:Type} (l:List α) (k:Nat) (h:k<l.length):l.take (k+1)=l.take k++[l[k]]:=List.take_succ_eq_append_getElem h
theorem Y7 (b:Nat) (L:List UInt8) (h:fV b L=true) (k:Nat) (a:k<L.length):mP b L[k]=true:=List.all_eq_true.1 h _ (List.getElem_mem _)
theorem ES (b:Nat) (c:UInt8) (h:mP b c=true):hex c.toNat=(dv c:Int):=by
 unfold mP at h;rw[Bool.and_eq_true]at h;have:=of_decide_eq_true h.1;unfold dv;omega
theorem jH (s:ByteArray) (b:Nat) (w:World) (C:s.size≤1073741824):Calls prog 192 #[.string s,.int .i64 (b:Int)] w fun e w'=>e=.returned (.bool (fV b s.data.toList))∧w=w':=by
 have t:s.data.toList.length=s.size:=Array.length_toList;have z:=hid t;clear t;go_enter func192,ntmps192;go_wp2;go_loopw [5,6] (fun vk _ wr=>∃k:Nat,k≤s.size∧vk=.int .i64 (k:Int)∧wr=w∧Hid (fV b (s.data.toList.take k)=true)) (fun vk _ _=>s.size - (intOf vk).toNat)
 case atStart=>exact⟨0,Nat.zero_le _,rfl,rfl,rfl⟩
 case round =>
  obtain⟨k,D,rfl,rfl,n⟩:=hrel;by_cases hlt:k<s.size
  ·obtain ⟨c,A⟩:∃c,s[k]=c:=⟨_,rfl⟩;have f:k<s.data.toList.length:=by rw[z.out];exact hlt
   have d:s.data.toList[k]=c:=A;have B:Hid (s.data.toList.take (k+1)=s.data.toList.take k++[c]):=by rw[←d];exact fQ _ k f
   have y:Hid (c ∈ s.data.toList):=by show _ ∈ _;rw[←d];exact List.getElem_mem _
   have l:0≤(c.toNat:Int):=by omega
   have j:(c.toNat:Int)≤255:=by have:=c.toNat_lt;omega
   have v:mP b c=(decide (0≤hex c.toNat)&&decide (hex c.toNat<b)):=rfl;have i:=hid v;obtain⟨x,hx⟩:∃x,x=hex c.toNat:=⟨_,rfl⟩;rw[←hx]at i;have m:=hid hx;clear d f v hx;by_cases hx0:0≤x
   ·by_cases hxb:x<b
    ·have q:Hid (mP b c=true):=by show _=_;rw[i.out,decide_eq_true hx0,decide_eq_true hxb];rfl
     go_wp2_with fail
     refine(dw.jm _ _ l j).mono ?_;rintro e r ⟨rfl,a⟩;subst a;rw[←m.out];go_wp2;go_roundw
     case rel=>exact⟨k+1,by omega,by go_num,by first|rfl|trivial,by show _=_;rw[B.out];unfold fV at n⊢;rw[List.all_append,n.out,List.all_cons,q.out];rfl⟩
     case measure=>simp[intOf];omega
    have g:Hid (fV b s.data.toList=false):=by
     show _=_;refine List.all_eq_false.2 ⟨c,y,?_⟩;rw[i.out,decide_eq_false hxb];simp
    go_wp2_with fail
    refine(dw.jm _ _ l j).mono ?_;rintro e r ⟨rfl,a⟩;subst a;rw[←m.out];go_wp2;go_ret;exact⟨aH g.symm,rfl⟩
   have g:Hid (fV b s.data.toList=false):=by
    show _=_;refine List.all_eq_false.2 ⟨c,y,?_⟩;rw[i.out,decide_eq_false hx0];simp
   go_wp2_with fail
   refine(dw.jm _ _ l j).mono ?_;rintro e r ⟨rfl,a⟩;subst a;rw[←m.out];go_wp2;go_ret;exact⟨aH g.symm,rfl⟩
  obtain rfl:k=s.size:=by omega
  have g:Hid (fV b s.data.toList=true):=by
   show _=_;have h:=n.out
   rwa[List.take_of_length_le (by rw[z.out];exact Nat.le_refl _)]at h
  go_wp2;go_ret;exact⟨aH g.symm,rfl⟩
theorem ext2 (s:ByteArray) (k:Nat) (h:k≤s.size):(s.extract k s.size).data.toList=s.data.toList.drop k:=by rw[dJ.ext_drop s k s.size rfl];rfl
theorem Rw (a x:UInt8) (r:List UInt8) (c:a=48) (hx:x=120∨x=88):yT (a::x::r)=(16,r):=by unfold yT;simp only;rw[if_pos c,if_pos hx]
theorem Ru (a x:UInt8) (r:List UInt8) (c:a=48) (hx:¬(x=120∨x=88)):yT (a::x::r)=(8,x::r):=by unfold yT;simp only;rw[if_pos c,if_neg hx]
theorem J3 (a x:UInt8) (r:List UInt8) (c:a≠48):yT (a::x::r)=(10,a::x::r):=by unfold yT;simp only;rw[if_neg c]
theorem pre2 (a x p q:UInt8) (r:List UInt8):Lib.hasPrefix (a::x::r) [p,q]=(decide (a=p)&&decide (x=q)):=by
 unfold Lib.hasPrefix;simp[List.isPrefixOf,Bool.beq_eq_decide_eq,eq_comm]
theorem afK (a p q:UInt8):Lib.hasPrefix [a] [p,q]=false:=by simp[Lib.hasPrefix,List.isPrefixOf]
theorem Fg {c d:UInt8} (h:c≠d):((c.toNat:Int)==(d.toNat:Int))=false:=by
 have:c.toNat≠d.toNat:=fun e=>h (UInt8.toNat_inj.1 e);simp;omega
def Gw (L:List UInt8):Value:=match num L with
 |some v=>.tuple #[.int .u64 (sat v),.bool true]
 |none=>.tuple #[.int .u64 0,.bool false]
theorem zS (L:List UInt8) (a:L≠[]) (b:Nat) (r:List UInt8) (h:yT L=(b,r)) (c:fV b r=true):Gw L=.tuple #[.int .u64 (sat (val b r)),.bool true]:=by
 unfold Gw num;rw[if_neg a,h];simp only;rw[if_pos c]
theorem DV (L:List UInt8) (a:L≠[]) (b:Nat) (r:List UInt8) (h:yT L=(b,r)) (c:fV b r=false):Gw L=.tuple #[.int .u64 0,.bool false]:=by
 unfold Gw num;rw[if_neg a,h];simp only;rw[c,if_neg (by decide)]
def Gx (L:List UInt8):Int:=if (num L).isSome then(big (yT L).1 (yT L).2:Int)else -1
theorem zT (L:List UInt8) (a:L≠[]) (b:Nat) (r:List UInt8) (h:yT L=(b,r)) (c:fV b r=true):Gx L=big b r:=by
 unfold Gx num;rw[if_neg a,h];simp only;rw[if_pos c];rfl
theorem DW (L:List UInt8) (a:L≠[]) (b:Nat) (r:List UInt8) (h:yT L=(b,r)) (c:fV b r=false):Gx L= -1:=by
 unfold Gx num;rw[if_neg a,h];simp only;rw[c];rfl
theorem DX (Z:ByteArray) (b:Nat) (T:Value) (j:1≤b) (f:Z.size≤1073741824) (g:fV b Z.data.toList=true→T=.tuple #[.int .u64 (sat (val b Z.data.toList)),.bool true]) (i:fV b Z.data.toList=false→T=.tuple #[.int .u64 0,.bool false]):∃(D:Bool) (F:Nat→Nat),Hid (F 0=0)∧Hid (∀w,Calls prog 192 #[.string Z,.int .i64 (b:Int)] w fun e w'=>e=.returned (.bool D)∧w=w')∧Hid (D=false→T=.tuple #[.int .u64 0,.bool false])∧Hid (D=true→T=.tuple #[.int .u64 (F Z.size),.bool true])∧Hid (∀k,F k≤4294967296)∧Hid (D=true→∀k (h:k<Z.size),hex (Z[k]).toNat=(dv Z[k]:Int)∧dv Z[k]≤15∧F (k+1)=min (F k*b+dv Z[k]) 4294967296):=by
 have d:Z.data.toList.length=Z.size:=Array.length_toList;refine⟨_,fun k=>sat (val b (Z.data.toList.take k)),rfl,fun w=>jH Z b w f,i,fun h=>?_,fun k=>?_,fun h k hk=>?_⟩
 ·simp only[←d,List.take_length];exact g h
 ·simp only;unfold sat;omega
 have a:k<Z.data.toList.length:=by rw[d];exact hk
 have c:Z.data.toList[k]=Z[k]:=rfl;refine⟨ES b _ (c▸Y7 _ _ h k a),aa9 _,?_⟩;simp only;rw[fQ _ k a,lM,c,XF _ b _ j]
theorem jf (s:ByteArray) (w:World) (hs:s.size≤1073741824):Calls prog 191 #[.string s] w fun e w'=>e=.returned (Gw s.data.toList)∧w=w':=by
 have g:s.data.toList.length=s.size:=Array.length_toList;obtain⟨T,l⟩:∃T,T=Gw s.data.toList:=⟨_,rfl⟩;rw[←l];rcases hL:s.data.toList with _|⟨a,_|⟨x,r⟩⟩
 ·have h0:s.size=0:=by rw[←g,hL];rfl
  have J:(s.toList==[])=true:=by rw[Lib.toList_data,hL];rfl
  have C:s.toList=[]:=by rw[Lib.toList_data,hL]
  rw[hL]at l;have O:=hid l;clear hL g l;go_enter func191,ntmps191;go_wp2;go_ret2;exact⟨by rw[O.out];rfl,rfl⟩
 focus
  have V:s.size=1:=by rw[←g,hL];rfl
  have J:(s.toList==[])=false:=by rw[Lib.toList_data,hL];rfl
  have C:s.toList.isEmpty=false:=by rw[Lib.toList_data,hL];rfl
  have L:∀h,s[0]'h=a:=fun h=>by
   have:s.data.toList[0]?=some a:=by rw[hL];rfl
   have:=List.getElem?_eq_some_iff.1 this;obtain⟨_,e⟩:=this;exact e
  obtain⟨D,F,A,B,v,j,z,t⟩:=DX s 10 T (by decide) hs (fun h=>l.trans (zS _ (by rw[hL];simp) 10 _ (by rw[hL];rfl) h)) (fun h=>l.trans (DV _ (by rw[hL];simp) 10 _ (by rw[hL];rfl) h));have N:Hid (Lib.hasPrefix s.data.toList [48,120]=false):=by show _=_;rw[hL,afK]
  have y:Hid (Lib.hasPrefix s.data.toList [48,88]=false):=by show _=_;rw[hL,afK]
  clear hL g l;obtain⟨Z,rfl⟩:∃Z,Z=s:=⟨_,rfl⟩;cases W:((a.toNat:Int)==48)
 rotate_left 2
 focus
  have V:2≤s.size:=by rw[←g,hL];simp
  have a2:(2:Int)≤(s.size:Int):=by omega
  have a3:(0:Int)<(s.size:Int):=by omega
  have a1:(1:Int)<(s.size:Int):=by omega
  have J:(s.toList==[])=false:=by rw[Lib.toList_data,hL];rfl
  have C:s.toList.isEmpty=false:=by rw[Lib.toList_data,hL];rfl
  have L:∀h,s[0]'h=a:=fun h=>by
   have:s.data.toList[0]?=some a:=by rw[hL];rfl
   have:=List.getElem?_eq_some_iff.1 this;obtain⟨_,e⟩:=this;exact e
  have f:s.data.toList≠[]:=by rw[hL];simp
  by_cases ha:a=48;focus
   by_cases hx:x=120∨x=88;focus
    obtain⟨Z,H⟩:∃Z,Z=s.extract 2 s.size:=⟨_,rfl⟩;have i:Z.data.toList=r:=by rw[H,ext2 _ _ V,hL];rfl
    have X:s.extract 2 s.size=Z:=H.symm;have G:Z.size≤1073741824:=by have:Z.data.toList.length=Z.size:=Array.length_toList;rw[i]at this;rw[hL]at g;simp at g;omega
    obtain⟨D,F,A,B,v,j,z,t⟩:=DX Z 16 T (by decide) G (fun h=>l.trans (zS _ f 16 _ (by rw[hL,Rw _ _ _ ha hx,i]) h)) (fun h=>l.trans (DV _ f 16 _ (by rw[hL,Rw _ _ _ ha hx,i]) h));have I:=hid hL;clear hL g i H f l;rcases hx with hx|hx
    focus
     have N:Hid (Lib.hasPrefix s.data.toList [48,120]=true):=by show _=_;rw[I.out,pre2,ha,hx];rfl
     clear ha hx L
    rotate_left
    have N:Hid (Lib.hasPrefix s.data.toList [48,120]=false):=by show _=_;rw[I.out,pre2,ha,hx];rfl
    have y:Hid (Lib.hasPrefix s.data.toList [48,88]=true):=by show _=_;rw[I.out,pre2,ha,hx];rfl
    clear ha hx L
   rotate_left 2
   obtain⟨Z,H⟩:∃Z,Z=s.extract 1 s.size:=⟨_,rfl⟩;have i:Z.data.toList=x::r:=by rw[H,ext2 _ _ (by omega),hL];rfl
   have X:s.extract 1 s.size=Z:=H.symm;have G:Z.size≤1073741824:=by have:Z.data.toList.length=Z.size:=Array.length_toList;rw[i]at this;rw[hL]at g;simp at g this;omega
   obtain⟨D,F,A,B,v,j,z,t⟩:=DX Z 8 T (by decide) G (fun h=>l.trans (zS _ f 8 _ (by rw[hL,Ru _ _ _ ha hx,i]) h)) (fun h=>l.trans (DV _ f 8 _ (by rw[hL,Ru _ _ _ ha hx,i]) h));have N:Hid (Lib.hasPrefix s.data.toList [48,120]=false):=by show _=_;rw[hL,pre2,decide_eq_false (fun h=>hx (.inl h)),Bool.and_false]
   have y:Hid (Lib.hasPrefix s.data.toList [48,88]=false):=by show _=_;rw[hL,pre2,decide_eq_false (fun h=>hx (.inr h)),Bool.and_false]
   have a4:∀h,s[0]'h=48:=fun h=>by rw[L h,ha]
   clear hL g i H f ha hx L l
  rotate_left 3
  obtain⟨D,F,A,B,v,j,z,t⟩:=DX s 10 T (by decide) hs (fun h=>l.trans (zS _ f 10 _ (by rw[hL,J3 _ _ _ ha]) h)) (fun h=>l.trans (DV _ f 10 _ (by rw[hL,J3 _ _ _ ha]) h));have N:Hid (Lib.hasPrefix s.data.toList [48,120]=false):=by show _=_;rw[hL,pre2,decide_eq_false ha,Bool.false_and]
  have y:Hid (Lib.hasPrefix s.data.toList [48,88]=false):=by show _=_;rw[hL,pre2,decide_eq_false ha,Bool.false_and]
  have W:((a.toNat:Int)==48)=false:=Fg (d:=48) ha;clear hL g f ha l;obtain⟨Z,rfl⟩:∃Z,Z=s:=⟨_,rfl⟩
 all_goals
  go_enter func191,ntmps191;go_wp2_with fail
  refine(strings_HasPrefix _ ⟨#[48,120]⟩ _).mono ?_;rintro e P ⟨rfl,m⟩;subst m;rw[show(⟨#[48,120]⟩:ByteArray).data.toList=[48,120]from rfl,N.out];go_wp2_with fail
  first
  |refine(strings_HasPrefix _ ⟨#[48,88]⟩ _).mono ?_
   rintro e P ⟨rfl,m⟩;subst m;rw[show(⟨#[48,88]⟩:ByteArray).data.toList=[48,88]from rfl,y.out];go_wp2_with fail
  |skip
  refine(B.out _).mono ?_;rintro e P ⟨rfl,m⟩;subst m;cases D
  ·have O:=hid (v.out rfl);go_wp2;go_ret2;exact⟨by rw[O.out];rfl,rfl⟩
  have O:=hid (j.out rfl);have HS:=hid (t.out rfl);clear v j t;go_wp2;go_loopw [6,7] (fun vn vk wr=>∃k:Nat,k≤Z.size∧vk=.int .i64 (k:Int)∧wr=P∧vn=.int .u64 (F k)) (fun _ vk _=>Z.size - (intOf vk).toNat)
  case atStart=>exact⟨0,Nat.zero_le _,rfl,rfl,by rw[A.out];rfl⟩
  case round=>
   obtain⟨k,hk,rfl,rfl,rfl⟩:=hrel;obtain⟨n,Q⟩:∃n,n=F k:=⟨_,rfl⟩;have a0:n≤4294967296:=by rw[Q];exact z.out k
   rw[←Q];have HN:=hid Q;clear Q;by_cases hlt:k<Z.size
   ·obtain⟨hx,E,q⟩:=HS.out k hlt;obtain⟨c,hc⟩:∃c,Z[k]=c:=⟨_,rfl⟩;rw[hc]at hx E q;obtain⟨d,hd⟩:∃d,dv c=d:=⟨_,rfl⟩;rw[hd]at hx E q;rw[←HN.out]at q;have HX:=hid hx;have Y:=hid q;have h0:0≤(c.toNat:Int):=by omega
    have V:(c.toNat:Int)≤255:=by have:=c.toNat_lt;omega
    clear hx q hd;go_wp2_with fail
    refine(dw.jm _ _ h0 V).mono ?_;rintro e P ⟨rfl,m⟩;subst m;rw[HX.out];go_wp2;go_roundw
    case rel=>exact⟨k+1,by omega,by go_num,by first|rfl|trivial,int_eq (by rw[Y.out];omega)⟩
    case measure=>simp[intOf];omega
   obtain rfl:k=Z.size:=by omega
   go_wp2;go_ret2;exact⟨by rw[O.out,←HN.out];rfl,rfl⟩
end KN
namespace YJ
open Go.RowKit Base dw lX KN
theorem D7 (Z:ByteArray) (b:Nat) (R:Int) (m:b≤16) (l:fV b Z.data.toList=true→R=big b Z.data.toList) (f:fV b Z.data.toList=false→R= -1):∃(P:Nat→Prop) (F:Nat→Nat),Hid (P 0)∧Hid (F 0=0)∧Hid (∀k,F k≤17592186044431)∧Hid (P Z.size→R=F Z.size)∧Hid (∀k (h:k<Z.size),P k→hex (Z[k]).toNat≤15∧(¬0≤hex (Z[k]).toNat∧R= -1∨0≤hex (Z[k]).toNat∧¬hex (Z[k]).toNat<(b:Int)∧R= -1∨0≤hex (Z[k]).toNat∧hex (Z[k]).toNat<(b:Int)∧P (k+1)∧((F k:Int)<1099511627776∧(F (k+1):Int)=(F k:Int)*b+hex (Z[k]).toNat∨¬(F k:Int)<1099511627776∧(F (k+1):Int)=F k))):=by
 have g:Z.data.toList.length=Z.size:=Array.length_toList;refine⟨fun k=>fV b (Z.data.toList.take k)=true,fun k=>big b (Z.data.toList.take k),rfl,rfl,fun k=>Vk b m _,fun h=>?_,fun k hk hT=>?_⟩
 ·simp only[←g,List.take_length]at h⊢;exact l h
 have d:k<Z.data.toList.length:=by rw[g];exact hk
 have a:Z.data.toList[k]=Z[k]:=rfl;have i:=fQ Z.data.toList k d;have j:Z[k] ∈ Z.data.toList:=a▸List.getElem_mem _;have e:mP b Z[k]=(decide (0≤hex (Z[k]).toNat)&&decide (hex (Z[k]).toNat<b)):=rfl;refine⟨(wo _).2,?_⟩;by_cases h0:0≤hex (Z[k]).toNat
 ·by_cases h1:hex (Z[k]).toNat<(b:Int)
  ·have c:mP b Z[k]=true:=by rw[e,decide_eq_true h0,decide_eq_true h1];rfl
   refine .inr (.inr ⟨h0,h1,?_,?_⟩)
   ·simp only;rw[i,a];unfold fV at hT⊢;rw[List.all_append,hT,List.all_cons,c];rfl
   simp only;rw[i,Ew,a,ES b _ c];by_cases h2:big b (Z.data.toList.take k)<1099511627776
   ·exact .inl ⟨by omega,by rw[if_pos h2];simp⟩
   exact .inr ⟨by omega,by rw[if_neg h2]⟩
  exact .inr (.inl ⟨h0,h1,f (List.all_eq_false.2 ⟨_,j,by rw[e,decide_eq_false h1];simp⟩)⟩)
 exact .inl ⟨h0,f (List.all_eq_false.2 ⟨_,j,by rw[e,decide_eq_false h0];simp⟩)⟩
theorem ji (s:ByteArray) (w:World) (hs:s.size≤1073741824):Calls prog 200 #[.string s] w fun e w'=>e=.returned (.int .i64 (Gx s.data.toList))∧Below w.heap.size w w':=by
 have g:s.data.toList.length=s.size:=Array.length_toList;obtain⟨R,j⟩:∃R,R=Gx s.data.toList:=⟨_,rfl⟩;rw[←j];rcases hL:s.data.toList with _|⟨a,_|⟨x,r⟩⟩
 ·have h0:s.size=0:=by rw[←g,hL];rfl
  have T:(s.toList==[])=true:=by rw[Lib.toList_data,hL];rfl
  have B:s.toList=[]:=by rw[Lib.toList_data,hL]
  rw[hL]at j;have V:=hid j;clear hL g j;go_enter func200,ntmps200;go_wp2;go_ret;exact⟨by rw[V.out];rfl,Below.refl _ _⟩
 focus
  have h1:s.size=1:=by rw[←g,hL];rfl
  have C:s.size≤1073741824:=hs;have T:(s.toList==[])=false:=by rw[Lib.toList_data,hL];rfl
  have B:s.toList.isEmpty=false:=by rw[Lib.toList_data,hL];rfl
  obtain⟨P,F,t,z,v,l,q⟩:=D7 s 10 R (by decide) (fun h=>j.trans (zT _ (by rw[hL];simp) 10 _ (by rw[hL];rfl) h)) (fun h=>j.trans (DW _ (by rw[hL];simp) 10 _ (by rw[hL];rfl) h));have a8:¬(1:Int)<(s.size:Int):=by omega
  clear hL g j;obtain⟨Z,rfl⟩:∃Z,Z=s:=⟨_,rfl⟩
 rotate_left
 focus
  have h1:2≤s.size:=by rw[←g,hL];simp
  have a9:(0:Int)<(s.size:Int):=by omega
  have a7:(1:Int)<(s.size:Int):=by omega
  have a6:(2:Int)≤(s.size:Int):=by omega
  have T:(s.toList==[])=false:=by rw[Lib.toList_data,hL];rfl
  have B:s.toList.isEmpty=false:=by rw[Lib.toList_data,hL];rfl
  have g0:∀h,s[0]'h=a:=fun h=>by
   have:s.data.toList[0]?=some a:=by rw[hL];rfl
   have:=List.getElem?_eq_some_iff.1 this;obtain⟨_,e⟩:=this;exact e
  have g1:∀h,s[1]'h=x:=fun h=>by
   have:s.data.toList[1]?=some x:=by rw[hL];rfl
   have:=List.getElem?_eq_some_iff.1 this;obtain⟨_,e⟩:=this;exact e
  have f:s.data.toList≠[]:=by rw[hL];simp
  by_cases ha:a=48;focus
   have a3:((a.toNat:Int)==48)=true:=by rw[ha];rfl
   by_cases hx:x=120∨x=88;focus
    obtain⟨Z,I⟩:∃Z,Z=s.extract 2 s.size:=⟨_,rfl⟩;have i:Z.data.toList=r:=by rw[I,ext2 _ _ h1,hL];rfl
    have a4:s.extract 2 s.size=Z:=I.symm;have C:Z.size≤1073741824:=by have:Z.data.toList.length=Z.size:=Array.length_toList;rw[i]at this;rw[hL]at g;simp at g;omega
    obtain⟨P,F,t,z,v,l,q⟩:=D7 Z 16 R (by decide) (fun h=>j.trans (zT _ f 16 _ (by rw[hL,Rw _ _ _ ha hx,i]) h)) (fun h=>j.trans (DW _ f 16 _ (by rw[hL,Rw _ _ _ ha hx,i]) h));have G:((x.toNat:Int)==120)=true∨((x.toNat:Int)==120)=false∧((x.toNat:Int)==88)=true:=by
     rcases hx with rfl|rfl
     ·exact .inl rfl
     exact .inr ⟨rfl,rfl⟩
    clear hL g i I f ha hx j;rcases G with hq|⟨hq,a0⟩
   rotate_left 2
   obtain⟨Z,I⟩:∃Z,Z=s.extract 1 s.size:=⟨_,rfl⟩;have i:Z.data.toList=x::r:=by rw[I,ext2 _ _ (by omega),hL];rfl
   have a4:s.extract 1 s.size=Z:=I.symm;have C:Z.size≤1073741824:=by have:Z.data.toList.length=Z.size:=Array.length_toList;rw[i]at this;rw[hL]at g;simp at g this;omega
   obtain⟨P,F,t,z,v,l,q⟩:=D7 Z 8 R (by decide) (fun h=>j.trans (zT _ f 8 _ (by rw[hL,Ru _ _ _ ha hx,i]) h)) (fun h=>j.trans (DW _ f 8 _ (by rw[hL,Ru _ _ _ ha hx,i]) h));have hq:((x.toNat:Int)==120)=false:=Fg (d:=120) fun h=>hx (.inl h);have a0:((x.toNat:Int)==88)=false:=Fg (d:=88) fun h=>hx (.inr h);clear hL g i I f ha hx j
  rotate_left 3
  have a3:((a.toNat:Int)==48)=false:=Fg (d:=48) ha;have C:s.size≤1073741824:=hs;obtain⟨P,F,t,z,v,l,q⟩:=D7 s 10 R (by decide) (fun h=>j.trans (zT _ f 10 _ (by rw[hL,J3 _ _ _ ha]) h)) (fun h=>j.trans (DW _ f 10 _ (by rw[hL,J3 _ _ _ ha]) h));clear hL g f ha j;obtain⟨Z,rfl⟩:∃Z,Z=s:=⟨_,rfl⟩
 all_goals
  go_enter func200,ntmps200;first
  |go_wp2_with fail
   go_region
   obtain⟨m,L,H⟩:∃m,m=w.drew∧Below w.heap.size w m:=⟨_,rfl,(Below.refl _ _).drew⟩;rw[←L];clear L
  |obtain⟨m,rfl⟩:∃m,m=w:=⟨_,rfl⟩
   have H:Below m.heap.size m m:=Below.refl _ _
  go_wp2;go_loopw [4,5,6,31] (fun vn _ _ vk wr=>∃k:Nat,k≤Z.size∧vk=.int .i64 (k:Int)∧wr=m∧vn=.int .i64 (F k)∧Hid (P k)) (fun _ _ _ vk _=>Z.size - (intOf vk).toNat)
  case atStart=>exact⟨0,Nat.zero_le _,rfl,rfl,by rw[z.out];rfl,t⟩
  case round =>
   obtain⟨k,hk,rfl,rfl,rfl,HT⟩:=hrel;obtain⟨n,X⟩:∃n,n=F k:=⟨_,rfl⟩;have a1:n≤17592186044431:=by rw[X];exact v.out k
   rw[←X];have HN:=hid X;have Q:(n:Int)≤17592186044431:=by omega
   have a2:0≤(n:Int):=by omega
   clear X a1;by_cases hlt:k<Z.size
   ·obtain ⟨A,aS⟩:=q.out k hlt HT;obtain⟨c,hc⟩:∃c,Z[k]=c:=⟨_,rfl⟩;rw[hc,←HN.out]at aS;rw[hc]at A;obtain⟨y,Y⟩:∃y,y=hex c.toNat:=⟨_,rfl⟩;rw[←Y]at A aS;have HX:=hid Y;clear Y;rcases aS with⟨J,hr⟩|⟨J,D,hr⟩|⟨J,D,hp,⟨O,W⟩|⟨O,W⟩⟩
    iterate 2
     ·have V:=hid hr;clear hr;try simp only[Int.cast_ofNat_Int]at D
      go_wp2_with fail
      refine(nK.jm _ _).mono ?_;rintro e w2 ⟨rfl,E⟩;subst E;rw[←HX.out];go_wp2;go_ret;exact⟨by rw[V.out];rfl,H⟩
    all_goals
     simp only[Int.cast_ofNat_Int]at D W;have HZ:=hid W;have a5:=hid hp;clear W hp;generalize (n:Int)=N at a2 Q O HZ⊢;go_wp2_with fail
     refine(nK.jm _ _).mono ?_;rintro e w2 ⟨rfl,E⟩;subst E;rw[←HX.out];go_wp2;go_roundw
     case rel=>exact⟨k+1,by omega,by go_num,by first|rfl|trivial,by rw[HZ.out],a5⟩
     case measure=>simp[intOf];omega
   obtain rfl:k=Z.size:=by omega
   have V:=hid (l.out HT);go_wp2;go_ret;exact⟨by rw[V.out,←HN.out];rfl,H⟩
end YJ
namespace NZ
open Go.RowKit Base lX KN
def Max (w:World):Prop:=∃m,w.cell? ⟨0,0,none⟩=some (.int .i64 m)
theorem Dn (s:ByteArray) (w:World) (d:s.size≤1073741824):Calls prog 190 #[.string s] w fun e w'=>e=.returned (.string (ah (vN s.data.toList)))∧w=w':=by
 go_enter func190,ntmps190;go_wp2_with fail
 refine(strings_TrimSuffix s ⟨#[46]⟩ _ (by omega)).mono ?_;rintro e c ⟨rfl,a⟩;subst a;go_wp2;go_ret;exact⟨rfl,rfl⟩
theorem rQ:∀(L:List UInt8) (k:Nat),L.count 46≤k→Lib.splitK [46] 0 k L=dh L
 |[],0,_=>rfl
 |[],k+1,_=>rfl
 |b::l,0,h=>by
  have a:b≠46:=by rintro rfl;simp at h
  have c:=rQ l 0 (by rw[List.count_cons_of_ne (by simpa using a)]at h;exact h)
  show[b::l]=_
  rw[dh,if_neg a,←c]
  rfl
 | b :: l, k + 1, h => by
  by_cases a:b=46
  ·subst a
   have c:=rQ l k (by simp at h;omega)
   have e:Lib.index (46::l) [46]=0:=by rw[Lib.index,if_pos (by simp[List.isPrefixOf])]
   rw[dh,if_pos rfl,Lib.splitK,e,if_neg (by decide)]
   show[]::_=_
   rw[←c]
   rfl
  ·have g:l.count 46≤k+1:=by rw[List.count_cons_of_ne (by simpa using a)]at h;exact h
   have c:=rQ l (k+1) g
   have e:Lib.index (b::l) [46]=if Lib.index l [46]== -1 then -1 else Lib.index l [46]+1:=by rw[Lib.index,if_neg (by simp[List.isPrefixOf,Ne.symm a])]
   rw[Lib.splitK]at c⊢
   rw[dh,if_neg a,←c,e]
   by_cases hm:Lib.index l [46]= -1
   ·rw[hm]
    rfl
   ·have f:=Lib.index_ge l [46]
    obtain⟨j,d⟩:∃j:Nat,Lib.index l [46]=j:=⟨(Lib.index l [46]).toNat,by omega⟩
    have n:((j:Int)== -1)=false:=beq_eq_false_iff_ne.2 (by omega)
    have m:((j:Int)+1== -1)=false:=beq_eq_false_iff_ne.2 (by omega)
    have i:((j:Int)+1).toNat=j+1:=by omega
    simp only[d,n,Bool.false_eq_true,if_false,m,i]
    simp
def Read (w:World) (l:List (List UInt8)) (e:Ending) (w':World):Prop:=∃A n c,e=.returned (.slice A n c)∧n=l.length∧n≤c∧c≤maxLen∧dW w' A n ((l.map ah).map Value.string)∧Below w.heap.size w w'
theorem Un (s:ByteArray) (w:World) (h:s.size≤1073741824) (g:Max w):Calls prog 193 #[.string s,.string ⟨#[46]⟩] w (Read w (dh s.data.toList)):=by
 obtain⟨m,f⟩:=g;refine(strings_Split s ⟨#[46]⟩ m w (by omega) f (Nat.le_refl _)).mono ?_;rintro e w' ⟨rfl,rfl⟩;have c:=Lib.splitB_data ⟨#[46]⟩ 0 (Lib.countB s ⟨#[46]⟩) s;rw[show(⟨#[46]⟩:ByteArray).data.toList=[46]from rfl,rQ _ _ (by rw[←Lib.count_one];exact Nat.le_refl _)]at c;have a:=Lib.splitB_all ⟨#[46]⟩ (Nat.le_refl _) 0 _ s rfl;have i:=Lib.countB_le ⟨#[46]⟩ (Nat.le_refl _) s.size s (Nat.le_refl _);generalize Lib.splitB ⟨#[46]⟩ 0 (Lib.countB s ⟨#[46]⟩) s=B at c a⊢;have d:B=(dh s.data.toList).map ah:=by
  rw[←c,List.map_map]
  conv=>lhs;rw[←List.map_id B]
  exact List.map_congr_left fun x _=>(bF x).symm
 unfold Read;rw[←d];refine⟨_,_,_,rfl,by rw[←a,d,List.length_map],Nat.le_refl _,by unfold maxLen;omega,?_,(Below.refl _ _).alloc (Nat.le_refl _) _⟩;exact dW.lT (by rw[List.length_map,a]) (by simp) (fun j hj=>by
  rw[Nat.zero_add,World.cell?_alloc_mark];simp)
theorem iW:(prog.info? 9).map (fun i=>(i.zero,i.size,i.bytes))=some (some (.string ByteArray.empty),1,16):=by kernel_rfl
theorem ext_mid (s:ByteArray) (a b:Nat):s.extract a b=ah ((s.data.toList.take b).drop a):=by
 apply ByteArray.ext;apply Array.ext';rw[ByteArray.data_extract];simp only[ah,Array.toList_extract,List.extract_eq_take_drop];rw[List.drop_take]
def Ef (w:World) (l:List (List UInt8)) (e:Ending) (w':World):Prop:=∃v,e=.returned v∧w'.ownsRow w.heap.size 9 1 v l.length ((l.map ah).map Value.string)∧Below w.heap.size w w'
theorem JU (s:ByteArray) (w:World) (hs:s.size≤900000):
  Calls prog 210 #[.string s,.int .u8 46] w (Ef w (dh s.data.toList)):=by
 have A:s.data.toList.length=s.size:=Array.length_toList;obtain⟨i0,hi,y,x,v⟩:=info_parts iW;have n:=hid A;clear A;obtain⟨R,G⟩:∃R,R=dh s.data.toList:=⟨_,rfl⟩;have a2:R.length≤s.size+1:=by have:=oP s.data.toList;rw[←G,n.out]at this;exact this
 rw[←G];have HR:=hid G;clear G;go_enter func210,ntmps210;go_wp2;go_loopw [5,6,7,11] (fun vo vf _ vk wr=>∃(k f:Nat) (j:List (List UInt8)),k≤s.size+1∧f≤k∧j.length≤k∧vk=.int .i64 (k:Int)∧vf=.int .i64 (f:Int)∧Hid (wr.ownsRow w.heap.size 9 1 vo j.length ((j.map ah).map Value.string))∧Hid (Below w.heap.size w wr)∧Hid (k≤s.size→dh (s.data.toList.take k)=j++[(s.data.toList.take k).drop f])∧Hid (k=s.size+1→R=j)) (fun _ _ _ vk _=>s.size+1 - (intOf vk).toNat)
 case atStart=>exact⟨0,0,[],Nat.zero_le _,Nat.le_refl _,Nat.le_refl _,rfl,rfl,World.ownsRow_nil _ _ _ _,Below.refl _ _,fun _=>rfl,fun h=>absurd h (by omega)⟩
 case round=>
  obtain⟨k,f,j,a3,P,L,rfl,rfl,F,H,HW,HE⟩:=hrel;obtain⟨m,N⟩:∃m,m=j.length:=⟨_,rfl⟩;rw[←N]at L;have t:=hid N;clear N;by_cases hlt:k<s.size+1
  ·have r:Hid (dh (s.data.toList.take k)=j++[(s.data.toList.take k).drop f]):=HW (by omega);obtain⟨X,Q⟩:∃X,X=s.extract f k:=⟨_,rfl⟩;have a1:s.extract f k=X:=Q.symm;have HX:Hid (X=ah ((s.data.toList.take k).drop f)):=by show _=_;rw[Q,ext_mid]
   have a4:(f:Int)≤(k:Int):=by omega
   clear Q;by_cases hks:k<s.size
   ·obtain ⟨c,hc⟩:∃c,s[k]=c:=⟨_,rfl⟩;have B:k<s.data.toList.length:=by rw[n.out];exact hks
    have D:s.data.toList[k]=c:=hc;have HS:Hid (s.data.toList.take (k+1)=s.data.toList.take k++[c]):=by rw[←D];exact fQ _ k B
    have E:Hid ((s.data.toList.take k).length=k):=by show _=_;rw[List.length_take,n.out];omega
    have q1:((k:Int)==(s.size:Int))=false:=by simp;omega
    have O:(k:Int)≤(s.size:Int):=by omega
    clear B D;by_cases h46:c=46
    ·have q2:((c.toNat:Int)==46)=true:=by rw[h46];rfl
     have Y:Hid (dh (s.data.toList.take (k+1))=(j++[(s.data.toList.take k).drop f])++[(s.data.toList.take (k+1)).drop (k+1)]):=by
      show _=_;rw[HS.out,h46,sF,r.out];congr 2;rw[List.drop_eq_nil_of_le];rw[List.length_append,E.out];exact Nat.le_refl _
     have l:Hid (k+1=s.size+1→R=j++[(s.data.toList.take k).drop f]):=fun h=>absurd h (by omega);have e:=F.out;have i:=H.out;rw[←t.out]at e;clear h46;go_wp2_with (at_builtin;refine bJ rfl _ _ 23 rfl w.heap.size 9 i0 (.string ByteArray.empty) 16 underlying23 hi y x v rfl _ m _ rfl e i i.size [.string X] 1 rfl rfl (by intro u z;simp at z;subst z;rfl) (by unfold maxLen;omega) (by omega) ?_)
     intro J I a g;have q:Hid (I.ownsRow w.heap.size 9 1 J (j++[(s.data.toList.take k).drop f]).length (((j++[(s.data.toList.take k).drop f]).map ah).map Value.string)):=by
      show World.ownsRow _ _ _ _ _ _ _;rw[List.length_append,List.map_append,List.map_append,←t.out];show World.ownsRow _ _ _ _ _ (m+1) (_++[Value.string (ah ((s.data.toList.take k).drop f))]);rw[←HX.out];simpa using a
     have V:=hid g;clear e i a g;go_wp2;go_roundw
     case rel=>exact⟨k+1,k+1,j++[(s.data.toList.take k).drop f],by omega,Nat.le_refl _,by rw[List.length_append,←t.out];show m+1≤_;omega,by go_num,by go_num,q,V,fun _=>Y,l⟩
     case measure=>simp[intOf];omega
    ·have q2:((c.toNat:Int)==46)=false:=Fg (d:=46) h46;have Y:Hid (dh (s.data.toList.take (k+1))=j++[(s.data.toList.take (k+1)).drop f]):=by
      show _=_;obtain⟨a0,x',e1,e2⟩:=pG c h46 (s.data.toList.take k);have h3:=r.symm.trans e1;obtain⟨h4,T⟩:=List.append_inj' h3 rfl;have T:(s.data.toList.take k).drop f=x':=by simpa using T
      rw[HS.out,e2,←h4,←T,List.drop_append_of_le_length (by rw[E.out];exact P)]
     have l:Hid (k+1=s.size+1→R=j):=fun h=>absurd h (by omega);clear h46;go_wp2;go_roundw
     case rel=>exact⟨k+1,f,j,by omega,by omega,by rw[←t.out];omega,by go_num,rfl,F,H,fun _=>Y,l⟩
     case measure=>simp[intOf];omega
   ·have C:k=s.size:=by omega
    have q1:((k:Int)==(s.size:Int))=true:=by simp;omega
    have O:(k:Int)≤(s.size:Int):=by omega
    have l:Hid (k+1=s.size+1→R=j++[(s.data.toList.take k).drop f]):=by
     intro _;rw[←r.out,HR.out,List.take_of_length_le (by rw[n.out,C];exact Nat.le_refl _)]
    have Z:Hid (k+1≤s.size→dh (s.data.toList.take (k+1))=(j++[(s.data.toList.take k).drop f])++[(s.data.toList.take (k+1)).drop (k+1)]):=fun h=>absurd h (by omega);have e:=F.out;have i:=H.out;rw[←t.out]at e;clear C;go_wp2_with (at_builtin;refine bJ rfl _ _ 23 rfl w.heap.size 9 i0 (.string ByteArray.empty) 16 underlying23 hi y x v rfl _ m _ rfl e i i.size [.string X] 1 rfl rfl (by intro u z;simp at z;subst z;rfl) (by unfold maxLen;omega) (by omega) ?_)
    intro J I a g;have q:Hid (I.ownsRow w.heap.size 9 1 J (j++[(s.data.toList.take k).drop f]).length (((j++[(s.data.toList.take k).drop f]).map ah).map Value.string)):=by
     show World.ownsRow _ _ _ _ _ _ _;rw[List.length_append,List.map_append,List.map_append,←t.out];show World.ownsRow _ _ _ _ _ (m+1) (_++[Value.string (ah ((s.data.toList.take k).drop f))]);rw[←HX.out];simpa using a
    have V:=hid g;clear e i a g;go_wp2;go_roundw
    case rel=>exact⟨k+1,k+1,j++[(s.data.toList.take k).drop f],by omega,Nat.le_refl _,by rw[List.length_append,←t.out];show m+1≤_;omega,by go_num,by go_num,q,V,Z,l⟩
    case measure=>simp[intOf];omega
  ·obtain rfl:k=s.size+1:=by omega
   obtain⟨vA,vc,rfl,_,_,_⟩:=aW F;have W:Hid (Ef w R (.returned (.slice vA j.length vc)) wr):=by
    rw[HE.out rfl];exact⟨_,rfl,F,H⟩
   go_wp2;go_ret;exact W
theorem Ah (s:ByteArray) (w:World) (O:s.size≤900000):Calls prog 199 #[.string s] w (Read w (prt (dh s.data.toList))):=by
 have r:s.data.toList.length=s.size:=Array.length_toList;obtain⟨R,D⟩:∃R,R=dh s.data.toList:=⟨_,rfl⟩;have G:R.length≤s.size+1:=by have:=oP s.data.toList;rw[←D,r]at this;exact this
 have t:0<R.length:=by rw[D];exact List.length_pos_iff.2 (oG _)
 obtain⟨n,I⟩:∃n,n=R.length:=⟨_,rfl⟩;rw[←D];have Q:=hid D;rw[←I]at G t;have i:=hid I;clear D r I;go_enter func199,ntmps199;go_wp2_with fail
 refine(JU s _ O).mono ?_;rw[←Q.out];rintro e F ⟨T,rfl,a,C⟩;rw[←i.out]at a;obtain⟨A,c,rfl,y,B,v⟩:=aW a;have j:=hid v;have N:=hid C;have m:=hid B;clear a v C;unfold maxLen at B;obtain⟨g,off,rfl,V,d⟩:=j.spot t;by_cases h1:1<n
 ·have k:=d (n - 1) (by rw[List.length_map,List.length_map,←i.out];omega);rw[List.getElem_map,List.getElem_map]at k;obtain⟨x,hx⟩:∃x,x=R[n - 1]'(by rw[←i.out];omega):=⟨_,rfl⟩;rw[←hx]at k;have f:Hid (R.getLast?=some x):=by
   show _=_;rw[List.getLast?_eq_getElem?,←i.out,hx,List.getElem?_eq_getElem]
  have H:((n:Int) - 1).toNat=n - 1:=by omega
  have J:(1:Int)<(n:Int):=by omega
  have P:off+((n:Int) - 1).toNat=off+(n - 1):=by omega
  obtain⟨X,l⟩:∃X,X=ah x:=⟨_,rfl⟩;rw[←l]at k;clear d hx;by_cases hxe:x=[]
  ·have L:(X.toList==[])=true:=by rw[l,hxe];unfold ah;rw[ByteArray.toList_mk];rfl
   have z:X.toList=[]:=by rw[l,hxe];unfold ah;rw[ByteArray.toList_mk]
   have E:Hid (prt R=R.take (n - 1)):=by show _=_;unfold prt;rw[if_pos ⟨by rw[←i.out];exact h1,by rw[f.out,hxe]⟩,←i.out]
   have q:Hid (Read w (prt R) (.returned (.slice (some ⟨g,off,none⟩) (n - 1) c)) F):=by
    rw[E.out];refine⟨_,_,_,rfl,by rw[List.length_take,←i.out];omega,by omega,m,?_,N⟩;have:=j.upto (n - 1) (by omega);rw[List.map_take,List.map_take];exact this
   clear hxe l;go_wp2;go_ret;first|exact q|(have:=q.out;simpa[H]using this)
  have L:(X.toList==[])=false:=by rw[l];unfold ah;rw[ByteArray.toList_mk];simpa using hxe
  have z:X.toList.isEmpty=false:=by rw[l];unfold ah;rw[ByteArray.toList_mk];simpa using hxe
  have E:Hid (prt R=R):=by show _=_;unfold prt;rw[if_neg (fun h=>hxe (by have:=h.2;rw[f.out]at this;simpa using this))]
  have q:Hid (Read w (prt R) (.returned (.slice (some ⟨g,off,none⟩) n c)) F):=by
   rw[E.out];exact⟨_,_,_,rfl,i,y,m,j,N⟩
  clear hxe l;go_wp2;go_ret;exact q
 have E:Hid (prt R=R):=by show _=_;unfold prt;rw[if_neg (fun h=>h1 (by rw[i.out];exact h.1))]
 have J:¬(1:Int)<(n:Int):=by omega
 have q:Hid (Read w (prt R) (.returned (.slice (some ⟨g,off,none⟩) n c)) F):=by
  rw[E.out];exact⟨_,_,_,rfl,i,y,m,j,N⟩
 clear d;go_wp2;go_ret;exact q
end NZ
