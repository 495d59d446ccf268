/- Lemmas. -/
import Derived.Test.YtmbpmbapelfobaaGreatDoorOTAAB
import Derived.Laws.BitsAllLaws
import Derived.Laws.OwnMore
import Derived.Test.YtmbpmbapelfobaaGreatDoorShelf3
import Derived.Lib.IndexLaws
import Derived.Laws.Rows
import Derived.BigQuiet
set_option linter.unusedSimpArgs false
set_option linter.unusedVariables false
set_option maxRecDepth 100000
set_option maxHeartbeats 64000000
namespace Go.Proofs.YtmbpmbapelfobaaGreatDoor
open Tryz
namespace Ei
open Go.RowKit dw lX qy
theorem kV (b:Nat):mP b 58=false:=by unfold mP;rfl
theorem oC (b:Nat):mP b 46=false:=by unfold mP;rfl
theorem Tq (c:UInt8) (h:mP 16 c=false):mP 10 c=false:=by
 cases h2:mP 10 c with
 |false=>rfl
 |true=>
  unfold mP at h h2;simp at h h2;omega
theorem zu {b:Nat} {L:List UInt8} (h:fV b L=true) {c:UInt8} (a:c ∈ L):mP b c=true:=List.all_eq_true.1 h c a
theorem Qs {b:Nat} {L:List UInt8} {c:UInt8} (a:c ∈ L) (h:mP b c=false):fV b L=false:=by
 cases e:fV b L with
 |false=>rfl
 |true=>rw[zu e a]at h;cases h
structure Pre (b:Nat) (t:List UInt8) (m:Nat):Prop where
 four:m≤4
 len:m≤t.length
 all:fV b (t.take m)=true
 stop:m=4∨∀c,t[m]?=some c→mP b c=false
theorem Pre.no {b:Nat} {t:List UInt8} {m:Nat} (h:Pre b t m) (x:UInt8) (hx:mP b x=false):∀c ∈ t.take m,c≠x:=by
 rintro c a rfl;rw[zu h.all a]at hx;cases hx
theorem wV (t:List UInt8) (m:Nat) (c:UInt8) (h:t[m]?=some c):t=t.take m++c::t.drop (m+1):=by
 obtain⟨a,d⟩:=List.getElem?_eq_some_iff.1 h
 conv=>lhs;rw[←List.take_append_drop m t,List.drop_eq_getElem_cons a,d]
theorem rW (p:List UInt8) (r:List (List UInt8)) (l:List Nat) (g:Option Nat):R (p::r) l g=if p=[]∧r=[]then some (l,g)else if l.length=8 then none else if p=[]then(match g with
  |some _=>none
  |none=>R r l (some l.length))
  else if r=[]then(if p.contains 46=true then(match kJ p with
    |some x=>if l.length≤6 then some (l++x,g)else none
    |none=>none)
   else match piece p with
    |some n=>some (l++[n],g)
    |none=>none)
  else match piece p with
   |some n=>if r=[[]]then none else R r (l++[n]) g
   |none=>none:=by
 cases g<;>(rw[R];rfl)
theorem abV {t:List UInt8} (d:t≠[]) {l:List Nat} (c:l.length=8) (g:Option Nat):R (dD t) l g=none:=by
 cases t with
 |nil=>exact absurd rfl d
 |cons a r=>
  by_cases ha:a=58
  ·subst ha;rw[eF,rW,if_neg (by simp[jJ]),if_pos c]
  obtain⟨x,s,_,e⟩:=iU ha r;rw[e,rW,if_neg (by simp),if_pos c]
theorem YL (t:List UInt8) {l:List Nat} (a:l.length≠8):R (dD (58::t)) l none=R (dD t) l (some l.length):=by
 rw[eF,rW,if_neg (by simp[jJ]),if_neg a,if_pos rfl]
theorem U5 (t:List UInt8) {l:List Nat} (a:l.length≠8) (g:Nat):R (dD (58::t)) l (some g)=none:=by
 rw[eF,rW,if_neg (by simp[jJ]),if_neg a,if_pos rfl]
theorem aa0 (l:List Nat) (g:Option Nat):R (dD []) l g=some (l,g):=by
 show R [[]] l g=_;rw[rW,if_pos ⟨rfl,rfl⟩]
theorem FY {t:List UInt8}:dD t=[[]]↔t=[]:=by
 constructor
 ·intro h;cases t with
  |nil=>rfl
  |cons a r=>
   by_cases ha:a=58
   ·subst ha;rw[eF]at h;injection h with _ h;exact absurd h (jJ r)
   obtain⟨x,s,_,e⟩:=iU ha r;rw[e]at h;cases h
 rintro rfl;rfl
theorem uN {p:List UInt8} (d:1≤p.length) (c:p.length≤4) (a:fV 16 p=true):piece p=some (val 16 p):=if_pos ⟨d,c,a⟩
theorem Pq {t:List UInt8} {m:Nat} {c x:UInt8} (h:t[m]?=some c) (d:t[0]?≠some x) (a:c=x):1≤m:=by
 cases m with
 |zero=>subst a;exact absurd h d
 |succ m=>omega
theorem YM {t:List UInt8} {m:Nat} (P:Pre 16 t m) (f:t[0]?≠some 58) (c:t[m]?=some 58) {l:List Nat} (d:l.length≠8) (g:Option Nat):
  R (dD t) l g=if t.drop (m+1)=[]then none else R (dD (t.drop (m+1))) (l++[val 16 (t.take m)]) g:=by
 have i:1≤m:=Pq c f rfl;have a:(t.take m).length=m:=by rw[List.length_take];have:=P.len;omega
 have e:dD t=t.take m::dD (t.drop (m+1)):=by
  conv=>lhs;rw[wV t m 58 c]
  exact tY _ _ (P.no 58 (kV 16))
 rw[e,rW,if_neg (by simp[jJ]),if_neg d,if_neg (by intro h;rw[h]at a;simp at a;omega),if_neg (jJ _),uN (by omega) (by rw[a];exact P.four) P.all];simp only[];by_cases hz:t.drop (m+1)=[]
 ·rw[if_pos (FY.2 hz),if_pos hz]
 ·rw[if_neg (fun h=>hz (FY.1 h)),if_neg hz]
theorem abW {t:List UInt8} {m:Nat} (P:Pre 16 t m) (i:t≠[]) (n:t[m]?=none) {l:List Nat} (q:l.length≠8) (g:Option Nat):
  R (dD t) l g=some (l++[val 16 (t.take m)],g):=by
 have j:t.length≤m:=List.getElem?_eq_none_iff.1 n;have f:t.take m=t:=List.take_of_length_le j;have d:=P.all;have e:=P.no 58 (kV 16);have c:=P.no 46 (oC 16);rw[f]at d e c⊢;have k:1≤t.length:=by cases t with
  |nil=>exact absurd rfl i
  |cons a r=>simp
 rw[uS t e,rW,if_neg (by simp[i]),if_neg q,if_neg i,if_pos rfl,if_neg (by simp;exact fun h=>c 46 h rfl),uN k (by have:=P.four;omega) d]
theorem uT:∀(p:List UInt8),(∀c ∈ p,c≠46)→dh p=[p]
 |[],_=>rfl
 |c::p,h=>by rw[dh,if_neg (h c (by simp)),uT p fun d hd=>h d (by simp[hd])]
theorem wW:∀(p L:List UInt8),(∀c ∈ p,c≠46)→dh (p++46::L)=p::dh L
 |[],L,_=>by rw[List.nil_append,dh,if_pos rfl]
 |c::p,L,h=>by rw[List.cons_append,dh,if_neg (h c (by simp)),wW p L fun d hd=>h d (by simp[hd])]
theorem I5:∀(L:List UInt8),∃p,(∀c ∈ p,c≠46)∧((L=p∧dh L=[p])∨∃M,L=p++46::M∧dh L=p::dh M)
 |[]=>⟨[],by simp,.inl ⟨rfl,rfl⟩⟩
 | c :: L => by
  by_cases h:c=46
  ·subst h
   exact⟨[],by simp,.inr ⟨L,rfl,wW [] L (by simp)⟩⟩
  ·obtain⟨p,f,g⟩:=I5 L
   have a:∀d ∈ c::p,d≠46:=by
    intro d e;rcases List.mem_cons.1 e with rfl|e
    ·exact h
    ·exact f d e
   refine⟨c::p,a,?_⟩;rcases g with⟨rfl,_⟩|⟨M,rfl,_⟩
   ·exact .inl ⟨rfl,uT _ a⟩
   ·exact .inr ⟨M,rfl,wW (c::p) M a⟩
theorem yP (t:List UInt8) (m:Nat) (c:UInt8) (l:t[m]?=some c) (i:c≠46) (j:∀d ∈ t.take m,d≠46):∃q r,dh t=q::r∧m<q.length∧c ∈ q:=by
 obtain⟨n,g⟩:=List.getElem?_eq_some_iff.1 l;obtain⟨q,hq,h⟩:=I5 t;rcases h with⟨rfl,e⟩|⟨M,k,e⟩
 ·exact⟨t,[],e,n,by rw[←g];exact List.getElem_mem _⟩
 by_cases hl:m<q.length
 ·refine⟨q,_,e,hl,?_⟩;have:t[m]=q[m]:=by subst k;rw[List.getElem_append_left hl]
  rw[←g,this];exact List.getElem_mem _
 exfalso
 have a:t[q.length]?=some 46:=by rw[k];simp
 by_cases he:m=q.length
 ·rw[←he,l]at a;injection a with a
  exact i a
 have f:(46:UInt8) ∈ t.take m:=by
  rw[k,List.take_append,List.mem_append];right;rw[show m - q.length=(m - q.length - 1)+1 by omega];simp
 exact j 46 f rfl
theorem jD {q:List UInt8} {r:List (List UInt8)} (h:small q=none):smalls (q::r)=none:=by rw[smalls,h]
theorem yO {q:List UInt8} (h:3<q.length):small q=none:=if_neg (fun e=>by omega)
theorem tX {q:List UInt8} {c:UInt8} (a:c ∈ q) (h:mP 10 c=false):small q=none:=if_neg (fun e=>by have:=Qs a h;rw[this]at e;cases e.2.2.2.1)
theorem rO {t:List UInt8} (h:smalls (dh t)=none):kJ t=none:=by unfold kJ;rw[h];rfl
theorem FX:∀{ps:List (List UInt8)} {q:List UInt8},q ∈ ps→small q=none→smalls ps=none
 |p::r,q,hq,h=>by
  rcases List.mem_cons.1 hq with rfl|hq
  ·exact jD h
  ·rw[smalls,FX hq h]
   cases small p<;>rfl
theorem FZ:∀(t:List UInt8) (c:UInt8),c ∈ t→c≠46→∃q ∈ dh t,c ∈ q
 | a ::t,c,hc,h46=>by
  rw[dh]
  by_cases ha:a=46
  ·rw[if_pos ha]
   rcases List.mem_cons.1 hc with rfl|hc
   ·exact absurd ha h46
   ·obtain⟨q,d,f⟩:=FZ t c hc h46
    exact⟨q,List.mem_cons_of_mem _ d,f⟩
  ·rw [if_neg ha]
   cases e:dh t with
   |nil=>exact absurd e (oG t)
   |cons x r=>
    rcases List.mem_cons.1 hc with rfl|hc
    ·exact⟨c::x,by simp,by simp⟩
    ·obtain⟨q,d,f⟩:=FZ t c hc h46
     rw[e]at d
     rcases List.mem_cons.1 d with rfl|d
     ·exact⟨a::q,by simp,by simp[f]⟩
     ·exact⟨q,by simp[d],f⟩
theorem Pz {t:List UInt8} (h:(58:UInt8) ∈ t):kJ t=none:=by
 obtain⟨q,c,a⟩:=FZ t 58 h (by decide);exact rO (FX c (tX a (kV 10)))
theorem BR {q:List UInt8} {c:UInt8} (a:c ∈ q) (h:mP 16 c=false):piece q=none:=if_neg (fun e=>by have:=Qs a h;rw[this]at e;cases e.2.2)
theorem Pn {q:List UInt8} (h:4<q.length):piece q=none:=if_neg (fun e=>by omega)
theorem aeI {t:List UInt8} {m:Nat} (P:Pre 16 t m) {c:UInt8} (a:t[m]?=some c) (z:c≠58) (A:c≠46) {l:List Nat} (n:l.length≠8) (g:Option Nat):R (dD t) l g=none:=by
 have w:=P.no 58 (kV 16);obtain⟨x,C⟩:=List.getElem?_eq_some_iff.1 a;obtain⟨p,E,h⟩:=Cc t;have f:m<p.length∧p[m]?=some c:=by
  rcases h with⟨rfl,_⟩|⟨M,k,_⟩
  ·exact⟨x,a⟩
  by_cases n:m<p.length
  ·refine⟨n,?_⟩;rw[k,List.getElem?_append_left n]at a;exact a
  exfalso
  by_cases he:m=p.length
  ·rw[k,he]at a;simp at a;exact z a.symm
  refine w 58 ?_ rfl;rw[k,List.take_append,List.mem_append];right;rw[show m - p.length=(m - p.length - 1)+1 by omega];simp
 have j:c ∈ p:=by obtain⟨F,D⟩:=List.getElem?_eq_some_iff.1 f.2;rw[←D];exact List.getElem_mem _
 have i:piece p=none:=by
  rcases P.stop with h4|hs
  ·exact Pn (by omega)
  exact BR j (hs c a)
 have d:p≠[]:=by rintro rfl;simp at j
 have v:p.take m=t.take m:=by
  rcases h with⟨rfl,_⟩|⟨M,k,_⟩
  ·rfl
  rw[k,List.take_append_of_le_length (by omega)]
 have hq:kJ p=none:=by
  obtain⟨q,r,e,B,y⟩:=yP p m c f.2 A (by rw[v];exact P.no 46 (oC 16));apply rO;rw[e];apply jD;rcases P.stop with h4|hs
  ·exact yO (by omega)
  exact tX y (Tq c (hs c a))
 have s:∀r,R (p::r) l g=none:=by
  intro r;rw[rW,if_neg (by simp[d]),if_neg n,if_neg d];by_cases hr:r=[]
  ·rw[if_pos hr,hq,i];split<;>rfl
  rw[if_neg hr,i]
 rcases h with⟨_,e⟩|⟨M,_,e⟩<;>rw[e,s]
theorem abX {t:List UInt8} {m:Nat} (P:Pre 16 t m) (f:t[m]?=some 46) {l:List Nat} (q:l.length≠8) (g:Option Nat):
  R (dD t) l g=match kJ t with
   |some x=>if l.length≤6 then some (l++x,g)else none
   |none=>none:=by
 have k:=P.no 58 (kV 16);obtain⟨r,n⟩:=List.getElem?_eq_some_iff.1 f;have i:(46:UInt8) ∈ t:=by rw[←n];exact List.getElem_mem _
 obtain⟨p,v,h⟩:=Cc t;rcases h with⟨rfl,e⟩|⟨M,j,e⟩
 ·have c:t≠[]:=by rintro rfl;simp at i
  rw[e,rW,if_neg (by simp[c]),if_neg q,if_neg c,if_pos rfl,if_pos (by simpa using i)]
 ·rw [Pz (by rw[j];simp),e];have a:(46:UInt8) ∈ p:=by
   by_cases hlp:m<p.length
   ·rw[j,List.getElem?_append_left hlp]at f;obtain⟨w,s⟩:=List.getElem?_eq_some_iff.1 f;rw[←s];exact List.getElem_mem _
   ·exfalso
    by_cases he:m=p.length
    ·rw[j,he]at f;simp at f
    ·refine k 58 ?_ rfl;rw[j,List.take_append,List.mem_append];right;rw[show m - p.length=(m - p.length - 1)+1 by omega];simp
  have d:p≠[]:=by rintro rfl;simp at a
  rw[rW,if_neg (by simp[d]),if_neg q,if_neg d,if_neg (jJ M),BR a (oC 16)]
theorem Xo {t:List UInt8} (c:t[0]?=some 46):kJ t=none:=by
 cases t with
 |nil=>cases c
 |cons a r=>
  injection c with c
  subst c;apply rO;rw[dh,if_pos rfl];exact jD (if_neg (by simp))
def cont (b:List Nat) (t:List UInt8):Option (List Nat):=match smalls (dh t)with
 |some l=>if b.length+l.length=4 then some (b++l)else none
 |none=>none
theorem NI {l:List Nat} (h:l.length≠4):two l=none:=by
 unfold two;split
 ·exact absurd rfl h
 rfl
theorem Ub (t:List UInt8):kJ t=(cont [] t).bind two:=by
 unfold kJ cont;cases smalls (dh t)with
 |none=>rfl
 |some l=>
  show two l=_;by_cases h:l.length=4
  ·simp[h]
  simp[h,NI h]
theorem EF {t:List UInt8} {m:Nat} (P:Pre 10 t m) (h:m=0∨255<val 10 (t.take m)∨(1<m∧t[0]?=some 48)) (b:List Nat):cont b t=none:=by
 have f:smalls (dh t)=none:=by
  have a:=P.no 46 (oC 10);have g:(t.take m).length=m:=by rw[List.length_take];have:=P.len;omega
  have d:small (t.take m)=none:=by
   apply if_neg;rintro⟨v,s,j,n,l⟩;rcases h with h|h|⟨h,h2⟩
   ·omega
   ·omega
   refine j ⟨by omega,?_⟩;cases t with
   |nil=>cases h2
   |cons x r=>
    cases m with
    |zero=>omega
    |succ m=>simpa using h2
  cases hm:t[m]? with
  |none=>
   have:t.length≤m:=List.getElem?_eq_none_iff.1 hm;rw[List.take_of_length_le this]at a d;rw[uT t a];exact jD d
  |some c=>
   by_cases h46:c=46
   ·subst h46
    conv=>lhs;rw[wV t m 46 hm]
    rw[wW _ _ a];exact jD d
   obtain⟨q,r,e,k,i⟩:=yP t m c hm h46 a;rw[e];apply jD;rcases P.stop with h4|f
   ·exact yO (by omega)
   exact tX i (f c hm)
 unfold cont;rw[f]
theorem ae5 {c:UInt8} (h:mP 10 c=true) (a:c≠48):1≤dv c:=by
 have H:∀n:Fin 256,(decide (0≤hex (n.val:Int))&&decide (hex (n.val:Int)<(10:Nat)))=true→n.val≠48→1≤(hex (n.val:Int)).toNat:=by decide+kernel
 exact H ⟨c.toNat,c.toNat_lt⟩ h (fun e=>a (UInt8.toNat_inj.1 e))
theorem FU {t:List UInt8} {m:Nat} (P:Pre 10 t m) (w:m≠0) (g:val 10 (t.take m)≤255) (k:¬(1<m∧t[0]?=some 48)):m≤3∧small (t.take m)=some (val 10 (t.take m)):=by
 have f:(t.take m).length=m:=by rw[List.length_take];have:=P.len;omega
 have l:m≤3:=by
  have l:=P.four;have i:=P.all;by_cases e:m=4
  ·exfalso
   subst e;obtain⟨a,u,rfl⟩:∃a u,t=a::u:=by
    cases t with
    |nil=>simp at f
    |cons a u=>exact⟨a,u,rfl⟩
   have q:mP 10 a=true:=zu i (by simp);have j:a≠48:=fun h=>k ⟨by omega,by rw[h];rfl⟩;have v:=ae5 q j;obtain⟨L,s⟩:∃L,L=u.take 3:=⟨_,rfl⟩;rw[List.take_succ_cons]at g f;rw[←s]at g f
   match L,f,g with
   |[b,c,d],_,g=>
    simp only[val,List.foldl_cons,List.foldl_nil]at g;omega
  omega
 refine⟨l,if_pos ⟨by omega,by omega,?_,P.all,g⟩⟩;rintro⟨v,n⟩;refine k ⟨by omega,?_⟩;cases t with
 |nil=>simp at n
 |cons x r=>
  cases m with
  |zero=>omega
  |succ m=>simpa using n
theorem Hr {t:List UInt8} {m:Nat} (P:Pre 10 t m) (i:m≠0) (g:val 10 (t.take m)≤255) (f:¬(1<m∧t[0]?=some 48)) (h:t.drop m=[]) (b:List Nat):
  cont b t=if b.length+1=4 then some (b++[val 10 (t.take m)])else none:=by
 have e:=(FU P i g f).2;have d:t.length≤m:=List.drop_eq_nil_iff.1 h;have a:=P.no 46 (oC 10);have c:t.take m=t:=List.take_of_length_le d;rw[c]at a e⊢;unfold cont;rw[uT t a,smalls,e];rfl
theorem Ht {t:List UInt8} {m:Nat} (P:Pre 10 t m) (h:m≠0) (d:val 10 (t.take m)≤255) (c:¬(1<m∧t[0]?=some 48)) (g:t[m]?=some 46) (b:List Nat):
  cont b t=if b.length+1=4 then none else cont (b++[val 10 (t.take m)]) (t.drop (m+1)):=by
 have f:=(FU P h d c).2;have a:=P.no 46 (oC 10);unfold cont;have e:dh t=t.take m::dh (t.drop (m+1)):=by
  conv=>lhs;rw[wV t m 46 g]
  exact wW _ _ a
 rw[e,smalls,f];cases hr:smalls (dh (t.drop (m+1)))with
 |none=>simp
 | some l=>
  have i:1≤l.length:=by
   cases e2:dh (t.drop (m+1))with
   |nil=>exact absurd e2 (oG _)
   |cons x r=>
    rw[e2,smalls]at hr;split at hr
    ·injection hr with hr;subst hr;simp
    ·cases hr
  simp only[List.length_cons,List.length_append,List.length_nil,List.append_assoc,List.cons_append,List.nil_append];by_cases h4:b.length+1=4
  ·rw[if_neg (by omega),if_pos h4]
  ·rw[if_neg h4];by_cases h5:b.length+(l.length+1)=4
   ·rw[if_pos h5,if_pos (by omega)]
   ·rw[if_neg h5,if_neg (by omega)]
theorem Lh {t:List UInt8} {m:Nat} (P:Pre 10 t m) {c:UInt8} (f:t[m]?=some c) (d:c≠46) (b:List Nat):cont b t=none:=by
 have a:=P.no 46 (oC 10);obtain⟨q,r,e,h,g⟩:=yP t m c f d a;unfold cont;rw[e,jD];rcases P.stop with h4|hs
 ·exact yO (by omega)
 exact tX g (hs c f)
end Ei
namespace aV
open Go.RowKit Base
theorem iT (w:World) (L:List UInt8) (t:TypeId) (mk:Nat×Nat):dW (w.alloc (.cells (aU L).toArray t mk)) (some ⟨w.heap.size,0,none⟩) L.length (aU L):=
 dW.lT (bM L) (by simp) (fun j hj=>by
  rw[Nat.zero_add,World.cell?_alloc_mark]
  simp)
theorem kM (s:ByteArray) (a:Nat) (w:World) (t:TypeId):dW (w.drew.alloc (.cells (bytesRow s a) t ((bytesRow s a).size,(bytesRow s a).size+1))) (some ⟨w.heap.size,0,none⟩) s.size (aU s.data.toList):=
 dW.lT (by rw[bM];exact Array.length_toList) (by simp) (fun j hj=>by
  have c:j<s.data.size:=by rw[bM,Array.length_toList]at hj;exact hj
  rw[Nat.zero_add]
  have e:w.heap.size=w.drew.heap.size:=rfl
  rw[e,World.cell?_alloc_mark,bytesRow_at s a j c]
  simp[aU])
theorem bH {P:Program} (X Y:List UInt8) (w:World) (h:X.length+Y.length≤9223372036854775807):(Op.stringOp .add (ah X) (ah Y)).run P w=.ok (.string (ah (X++Y))) w:=by
 rw[run_string_add_sum w _ _ (by rw[ak,ak];exact h)];congr 2
theorem iO {P:Program} (a b:ByteArray) (w:World) (h:a.size+b.size≤9223372036854775807):(Op.stringOp .add a b).run P w=.ok (.string (ah (a.data.toList++b.data.toList))) w:=by
 rw[run_string_add_sum w _ _ h];congr 3
theorem bD {w0 w w':World} (h:Below w0.heap.size w0 w) (a:Below w.heap.size w w'):Below w0.heap.size w0 w':=h.trans (a.mono h.size)
theorem qV {P:Program} {f:FuncId} {a:Array Value} {E:Ending} {Q:Ending→World→Prop} {w0 w:World} (h:Hid (Below w0.heap.size w0 w)) (c:Calls P f a w fun e w'=>e=E∧Below w.heap.size w w') (g:∀w',Hid (Below w0.heap.size w0 w')→Q E w'):Calls P f a w Q:=c.mono fun _ w' ⟨he,hb⟩=>he▸g w' (hid (bD h hb))
theorem Vh {w0 w w':World} (h:Below w0.heap.size w0 w) (a:Below w.drew.heap.size w.drew w'):Below w0.heap.size w0 w':=h.drew.trans (a.mono h.size)
end aV
namespace Eh
open Go.RowKit Base dw lX qy Ei
theorem fQ {α:Type} (l:List α) (k:Nat) (h:k<l.length):l.take (k+1)=l.take k++[l[k]]:=List.take_succ_eq_append_getElem h
theorem ES (b:Nat) (c:UInt8) (h:mP b c=true):hex c.toNat=(dv c:Int):=by
 unfold mP at h;rw[Bool.and_eq_true]at h;have:=of_decide_eq_true h.1;unfold dv;omega
theorem QE (c:UInt8) (h:hex c.toNat<0):mP 16 c=false:=by
 unfold mP;rw[decide_eq_false (by omega)];rfl
theorem QF (c:UInt8) (h:0≤hex c.toNat):mP 16 c=true:=by
 have:=wo c;unfold mP;rw[decide_eq_true h,decide_eq_true (by omega)];rfl
theorem Vy (b:Nat) (c:UInt8) (h:mP b c=true):dv c<b:=by
 unfold mP at h;rw[Bool.and_eq_true]at h;have d:=of_decide_eq_true h.1;have a:=of_decide_eq_true h.2;unfold dv;omega
theorem uV (b:Nat) (e:1≤b) (L:List UInt8) (h:fV b L=true):val b L<b^L.length:=by
 have H:∀M:List UInt8,fV b M.reverse=true→val b M.reverse<b^M.length:=by
  intro M;induction M with
  |nil=>intro _;simp[val]
  |cons c M ih=>
   intro h;rw[List.reverse_cons]at h⊢;unfold fV at h;rw[List.all_append,Bool.and_eq_true]at h;have d:=ih h.1;have a:mP b c=true:=by simpa using h.2
   have f:=Vy b c a;rw[lM,List.length_cons,Nat.pow_succ];have:(val b M.reverse+1)*b≤b^M.length*b:=Nat.mul_le_mul_right _ d;rw[Nat.add_mul]at this;omega
 have:=H L.reverse (by rwa[List.reverse_reverse])
 rwa[List.reverse_reverse,List.length_reverse]at this
theorem sU (b:Nat) (L:List UInt8) (c:UInt8):fV b (L++[c])=(fV b L&&mP b c):=by
 unfold fV;rw[List.all_append];simp
theorem IG (a:Nat) (c:a<9223372036854775808):(BitVec.ofInt 64 (a:Int)).toNat=a:=by
 rw[BitVec.ofInt_natCast,BitVec.toNat_ofNat];exact Nat.mod_eq_of_lt (by omega)
theorem OI (a b:Nat) (d:a<9223372036854775808) (c:b<9223372036854775808):bits .or .i64 (a:Int) (b:Int)=((a|||b:Nat):Int):=by
 have hx:a|||b<2^63:=Nat.or_lt_two_pow (by omega) (by omega);show IntKind.i64.wrap ((BitVec.ofInt 64 (a:Int)|||BitVec.ofInt 64 (b:Int)).toNat:Int)=_
 rw[BitVec.toNat_or,IG a d,IG b c,IntKind.wrap_i64];omega
theorem acQ (n d:Nat) (a:n<65536) (c:d<16):bits .or .i64 ((n:Int)*16) (d:Int)=((n*16+d:Nat):Int):=by
 rw[show((n:Int)*16)=((n*16:Nat):Int)by omega,OI _ _ (by omega) (by omega)];have:=Nat.shiftLeft_add_eq_or_of_lt (i:=4) (b:=d) (by omega) n;rw[Nat.shiftLeft_eq]at this;rw[←this]
def PV (o:Option Nat):Value:=match o with
 |some v=>.tuple #[.int .u16 (v:Int),.bool true]
 |none=>.tuple #[.int .u16 0,.bool false]
theorem JK {o:Option Nat} (h:o=none):PV o=.tuple #[.int .u16 0,.bool false]:=by rw[h];rfl
theorem aac {o:Option Nat} {v:Nat} (h:o=some v):PV o=.tuple #[.int .u16 (v:Int),.bool true]:=by rw[h];rfl
theorem IK {p:List UInt8} (h:¬(1≤p.length∧p.length≤4)):piece p=none:=if_neg (fun e=>h ⟨e.1,e.2.1⟩)
theorem qo (s:ByteArray) (w:World):Calls prog 206 #[.string s] w fun e w'=>e=.returned (PV (piece s.data.toList))∧w=w':=by
 have y:s.data.toList.length=s.size:=Array.length_toList;have q:=hid y;by_cases g:s.size<1
 ·have m:=hid (JK (IK (p:=s.data.toList) (by omega)));have hi:(s.size:Int)<1:=by omega
  clear y g;go_enter func206,ntmps206;go_wp2;go_ret2;exact⟨by rw[m.out];rfl,rfl⟩
 by_cases h4:4<s.size
 ·have m:=hid (JK (IK (p:=s.data.toList) (by omega)));have hi:(4:Int)<(s.size:Int):=by omega
  have t:¬(s.size:Int)<1:=by omega
  clear y g h4;go_enter func206,ntmps206;go_wp2;go_ret2;exact⟨by rw[m.out];rfl,rfl⟩
 have hi:¬(4:Int)<(s.size:Int):=by omega
 have t:¬(s.size:Int)<1:=by omega
 have f:Hid (1≤s.size∧s.size≤4):=⟨by omega,by omega⟩;clear y g h4;go_enter func206,ntmps206;go_wp2;clear hi t;generalize decide ((s.size:Int)<1)=d1;generalize decide ((4:Int)<(s.size:Int))=d2;go_loopw [4,5,6] (fun vn vk _ wr=>∃(k n:Nat),k≤s.size∧vk=.int .i64 (k:Int)∧vn=.int .i64 (n:Int)∧wr=w∧Hid (n=val 16 (s.data.toList.take k))∧Hid (fV 16 (s.data.toList.take k)=true)) (fun _ vk _ _=>s.size - (intOf vk).toNat)
 case atStart=>exact⟨0,0,Nat.zero_le _,rfl,rfl,rfl,rfl,rfl⟩
 case round=>
  obtain⟨k,n,X,rfl,rfl,rfl,HV,B⟩:=hrel;have J:s.size≤4:=f.2;by_cases hlt:k<s.size
  ·obtain⟨c,T⟩:∃c,s[k]=c:=⟨_,rfl⟩;have r:k<s.data.toList.length:=by rw[q.out];exact hlt
   have l:s.data.toList[k]=c:=T;have H:Hid (s.data.toList.take (k+1)=s.data.toList.take k++[c]):=by rw[←l];exact fQ _ k r
   have W:Hid (c ∈ s.data.toList):=by show _ ∈ _;rw[←l];exact List.getElem_mem _
   have G:0≤(c.toNat:Int):=by omega
   have g:(c.toNat:Int)≤255:=by have:=c.toNat_lt;omega
   have P:n<4096:=by
    have h:=uV 16 (by omega) _ B;rw[←HV.out,List.length_take,q.out]at h;have C:k≤3:=by have:=f.2;omega
    have V:16^min k s.size≤16^3:=Nat.pow_le_pow_right (by omega) (by omega);omega
   clear l r;by_cases hx:hex c.toNat<0
   ·have m:=hid (JK (BR W (QE c hx)));obtain⟨x,i⟩:∃x,x=hex c.toNat:=⟨_,rfl⟩;rw[←i]at hx;have D:=hid i;clear i;go_wp2_with fail
    refine(dw.jm _ _ G g).mono ?_;rintro e I ⟨rfl,j⟩;subst j;rw[←D.out];go_wp2;go_ret2;exact⟨by rw[m.out];rfl,rfl⟩
   have A:mP 16 c=true:=QF c (by omega);obtain⟨d,z⟩:∃d,d=dv c:=⟨_,rfl⟩;have v:d<16:=by rw[z];exact Vy 16 c A
   have D:Hid (hex c.toNat=(d:Int)):=by show _=_;rw[z];exact ES 16 c A
   have E:Hid (n*16+d=val 16 (s.data.toList.take (k+1))):=by show _=_;rw[H.out,lM,←HV.out,z]
   have F:Hid (fV 16 (s.data.toList.take (k+1))=true):=by show _=_;rw[H.out,sU,B.out,A];rfl
   have L:=acQ n d (by omega) v;have Q:¬(d:Int)<0:=by omega
   have O:(n:Int)<4096:=by omega
   clear hx A z;go_wp2_with fail
   refine(dw.jm _ _ G g).mono ?_;rintro e I ⟨rfl,j⟩;subst j;rw[D.out];go_wp2;go_roundw
   case rel=>exact⟨k+1,n*16+d,by omega,by go_num,by first|rfl|go_num,by first|rfl|trivial,E,F⟩
   case measure=>simp[intOf];omega
  obtain rfl:k=s.size:=by omega
  have a:s.data.toList.take s.size=s.data.toList:=List.take_of_length_le (by rw[q.out];exact Nat.le_refl _);have P:n<65536:=by
   have h:=uV 16 (by omega) _ B;rw[←HV.out,a,q.out]at h;have V:16^s.size≤16^4:=Nat.pow_le_pow_right (by omega) f.2;omega
  have m:Hid (PV (piece s.data.toList)=.tuple #[.int .u16 (n:Int),.bool true]):=by
   show _=_;have g:=B.out;have C:=HV.out;rw[a]at g C;rw[C];exact aac (uN (by rw[q.out];exact f.1) (by rw[q.out];exact f.2) g)
  have N:(n:Int)<65536:=by omega
  clear a;go_wp2;go_ret2;exact⟨by rw[m.out];rfl,rfl⟩
def SV (o:Option Nat) (e:Ending):Prop:=match o with
 |some v=>e=.returned (.tuple #[.int .u16 (v:Int),.bool true])
 |none=>∃x:Int,e=.returned (.tuple #[.int .u16 x,.bool false])
theorem Ar {o:Option Nat} (h:o=none) (x:Int):SV o (.returned (.tuple #[.int .u16 x,.bool false])):=by rw[h];exact⟨x,rfl⟩
theorem aaP {o:Option Nat} {v:Nat} (h:o=some v):SV o (.returned (.tuple #[.int .u16 (v:Int),.bool true])):=by rw[h];rfl
theorem H7 (c:UInt8) (h:mP 10 c=true):48≤c.toNat∧c.toNat≤57∧dv c=c.toNat - 48:=by
 have H:∀n:Fin 256,(decide (0≤hex (n.val:Int))&&decide (hex (n.val:Int)<(10:Nat)))=true→48≤n.val∧n.val≤57∧(hex (n.val:Int)).toNat=n.val - 48:=by decide+kernel
 exact H ⟨c.toNat,c.toNat_lt⟩ h
theorem IZ {p:List UInt8} (h:¬(1≤p.length∧p.length≤3)):small p=none:=if_neg (fun e=>h ⟨e.1,e.2.1⟩)
theorem PO {p:List UInt8} (c:1<p.length) (a:p.head?=some 48):small p=none:=if_neg (fun e=>e.2.2.1 ⟨c,a⟩)
theorem IY (s:ByteArray) (w:World):Calls prog 212 #[.string s] w fun e w'=>SV (small s.data.toList) e∧w=w':=by
 have C:s.data.toList.length=s.size:=Array.length_toList;have l:=hid C;by_cases j:s.size<1
 ·have i:Hid (small s.data.toList=none):=IZ (by omega);have hi:(s.size:Int)<1:=by omega
  clear C j;go_enter func212,ntmps212;go_wp2;go_ret2;exact⟨Ar i _,rfl⟩
 by_cases h4:3<s.size
 ·have i:Hid (small s.data.toList=none):=IZ (by omega);have hi:(3:Int)<(s.size:Int):=by omega
  have x:¬(s.size:Int)<1:=by omega
  clear C j h4;go_enter func212,ntmps212;go_wp2;go_ret2;exact⟨Ar i _,rfl⟩
 have hi:¬(3:Int)<(s.size:Int):=by omega
 have x:¬(s.size:Int)<1:=by omega
 have g:Hid (1≤s.size∧s.size≤3):=⟨by omega,by omega⟩;have a1:0<s.size:=by omega
 obtain⟨a,ha⟩:∃a,s[0]=a:=⟨_,rfl⟩;have V:Hid (s.data.toList.head?=some a):=by
  show _=_;have f:s.data.toList[0]'(by omega)=a:=ha;rw[List.head?_eq_getElem?,List.getElem?_eq_getElem (by omega),f]
 have hbr:(1<s.size∧a=48)∨¬(1<s.size∧a=48):=Classical.em _;clear C j h4;rcases hbr with⟨H,q⟩|I
 ·have i:Hid (small s.data.toList=none):=PO (by rw[l.out];exact H) (by rw[V.out,q]);have Q:(1:Int)<(s.size:Int):=by omega
  have P:((a.toNat:Int)==48)=true:=by rw[q];rfl
  clear q;go_enter func212,ntmps212;go_wp2;go_ret2;exact⟨Ar i _,rfl⟩
 have N:Hid (¬(1<s.size∧s.data.toList.head?=some 48)):=by
  rintro⟨x1,x2⟩;rw[V.out]at x2;injection x2 with x2
  exact I ⟨x1,x2⟩
 have A:¬(1:Int)<(s.size:Int)∨((1:Int)<(s.size:Int)∧((a.toNat:Int)==48)=false):=by
  by_cases h:1<s.size
  ·refine .inr ⟨by omega,?_⟩;have:a≠48:=fun e=>I ⟨h,e⟩;rw[beq_eq_false_iff_ne];intro e;exact this (UInt8.toNat_inj.1 (by show _=48;omega))
  exact .inl (by omega)
 clear I;rcases A with hq|⟨hq,hq2⟩
 all_goals
  go_enter func212,ntmps212;go_wp2;try generalize decide ((s.size:Int)<1)=d1
  try generalize decide ((3:Int)<(s.size:Int))=d2
  try generalize decide ((1:Int)<(s.size:Int))=d3
  clear hi x hq;go_loopw [4,5] (fun vn vk wr=>∃(k n:Nat),k≤s.size∧vk=.int .i64 (k:Int)∧vn=.int .u16 (n:Int)∧wr=w∧Hid (n=val 10 (s.data.toList.take k))∧Hid (fV 10 (s.data.toList.take k)=true)) (fun _ vk _=>s.size - (intOf vk).toNat)
  case atStart=>exact⟨0,0,Nat.zero_le _,rfl,rfl,rfl,rfl,rfl⟩
  case round=>
   obtain⟨k,n,hk,rfl,rfl,rfl,HV,D⟩:=hrel;have X:s.size≤3:=g.2;by_cases hlt:k<s.size
   ·obtain⟨c,hc⟩:∃c,s[k]=c:=⟨_,rfl⟩;have v:k<s.data.toList.length:=by rw[l.out];exact hlt
    have f:s.data.toList[k]=c:=hc;have T:Hid (s.data.toList.take (k+1)=s.data.toList.take k++[c]):=by rw[←f];exact fQ _ k v
    have HM:Hid (c ∈ s.data.toList):=by show _ ∈ _;rw[←f];exact List.getElem_mem _
    have hn:n<100:=by
     have h:=uV 10 (by omega) _ D;rw[←HV.out,List.length_take,l.out]at h;have t:k≤2:=by have:=g.2;omega
     have h3:10^min k s.size≤10^2:=Nat.pow_le_pow_right (by omega) (by omega);omega
    clear f v;cases hD:mP 10 c with
    |false=>
     have i:Hid (small s.data.toList=none):=tX HM hD;have y:dw.digit (c.toNat:Int)=false:=by rw[sS,hD]
     have r:=hid y;clear hD y;go_wp2_with fail
     refine(dw.iJ _ _).mono ?_;rintro e W ⟨rfl,m⟩;subst m;rw[r.out];go_wp2;go_ret2;exact⟨Ar i _,rfl⟩
    |true=>
     obtain⟨G,F,z⟩:=H7 c hD;have r:Hid (dw.digit (c.toNat:Int)=true):=by show _=_;rw[sS,hD]
     have J:Hid (n*10+(c.toNat - 48)=val 10 (s.data.toList.take (k+1))):=by show _=_;rw[T.out,lM,←HV.out,z]
     have L:Hid (fV 10 (s.data.toList.take (k+1))=true):=by show _=_;rw[T.out,sU,D.out,hD];rfl
     have Z:(n:Int)<100:=by omega
     have a0:48≤(c.toNat:Int):=by omega
     have O:(c.toNat:Int)≤57:=by omega
     have B:Hid ((n:Int)*10+((c.toNat:Int) - 48)=((n*10+(c.toNat - 48):Nat):Int)):=by show _=_;omega
     clear hD z G F;go_wp2_with fail
     refine(dw.iJ _ _).mono ?_;rintro e W ⟨rfl,m⟩;subst m;rw[r.out];go_wp2;go_roundw
     case rel=>exact⟨k+1,n*10+(c.toNat - 48),by omega,by go_num,by first|exact int_eq B|go_num,by first|rfl|trivial,J,L⟩
     case measure=>simp[intOf];omega
   obtain rfl:k=s.size:=by omega
   have d:s.data.toList.take s.size=s.data.toList:=List.take_of_length_le (by rw[l.out];exact Nat.le_refl _);have hn:n<1000:=by
    have h:=uV 10 (by omega) _ D;rw[←HV.out,d,l.out]at h;have h3:10^s.size≤10^3:=Nat.pow_le_pow_right (by omega) g.2;omega
   have j:=D.out;have t:=HV.out;rw[d]at j t;have Y:(n:Int)<1000:=by omega
   clear d;by_cases h255:n≤255
   ·have i:Hid (small s.data.toList=some n):=by
     show _=_;rw[t]at h255⊢;exact if_pos ⟨by rw[l.out];exact g.1,by rw[l.out];exact g.2,by rw[l.out];exact N,j,h255⟩
    have E:(n:Int)≤255:=by omega
    clear j t h255;go_wp2;go_ret2;exact⟨aaP i,rfl⟩
   have i:Hid (small s.data.toList=none):=if_neg (fun e=>h255 (by rw[t];exact e.2.2.2.2));have E:¬(n:Int)≤255:=by omega
   clear j t h255;go_wp2;go_ret2;exact⟨Ar i _,rfl⟩
end Eh
namespace fU
open Go.RowKit Base
section
variable {P:Program} {W w0:World} {ops:Array Oper} {rest:List Oper} {o:Oper} {a:Act} {Q:Exit→Act→World→Prop}
theorem Dh (base:Nat) (t j e:TypeId) (i:TypeInfo) (size c:Nat) (f:P.underlying t=some (.slice e)) (hi:P.info? e=some i) (v:Value) (n:Nat) (h:List Value) (a:W.ownsRow base e size v n h):
  (Builtin.append_ #[t,t] j #[v,.slice none 0 c]).run P W=.ok v W:=by
 rcases a.2 with⟨rfl,rfl⟩|⟨g,l,k,rfl,_,_,d,_⟩
 ·simp[Builtin.append_,run_underlying f,sizeOf,typeInfo,hi,Builtin.lenOf,Builtin.firstCells]
 ·simp[Builtin.append_,run_underlying f,sizeOf,typeInfo,hi,Builtin.lenOf,Builtin.firstCells,d,storeCells]
theorem gX (y:o.guard=none) (s x:Operand) (t:TypeId) (N:o.op=.call {callee:=.builtin .append,args:=#[s,x],argTypes:=#[t,t]})
  (B:Nat) (e:TypeId) (i:TypeInfo) (z:Value) (r:Nat) (J:P.underlying t=some (.slice e)) (hi:P.info? e=some i) (T:i.zero=some z) (q:i.size=1) (G:i.bytes=r) (E:z.cells.size=1)
  (v:Value) (n:Nat) (C:List Value) (L:a.eval s=v) (f:W.ownsRow B e 1 v n C) (l:Below B w0 W) (O:B≤W.heap.size)
  (A:Option Addr) (m c:Nat) (d:List Value) (hx:a.eval x=.slice A m c) (D:dW W A m d) (h1:∀u ∈ d,u.oneCell'=true)
  (H:n+m≤maxLen) (k:(n+m)*r≤140737488355328)
  (h:∀v' w',w'.ownsRow B e 1 v' (n+m) (C++d)→Below B w0 w'→wpList P ops Q rest (a.put o.dst v') w'):
  wpList P ops Q (o::rest) a W:=by
 cases A with
 | none=>
  have X:m=0:=by
   rcases Nat.eq_zero_or_pos m with h0|h0
   ·exact h0
   ·obtain⟨_,_,e,_⟩:=D.spot h0;cases e
  subst X;have V:d=[]:=List.eq_nil_of_length_eq_zero D.1;subst V;have hh:=h v W (by simpa using f) l;refine wpList_plain y fun K hK=>?_;have w:=Dh (P:=P) (W:=W) B t o.type e i 1 c J hi v n C f;unfold Oper.wp;simp[execOp,N,resolve,invoke,builtin,L,hx,w,Result.andThen];exact hK _ _ hh
 |some ad=>
  refine wpList_append_own _ y s x t N B e i z 1 r J hi T q G E (by decide) v n C L f ad m c d hx (by rw[D.1,Nat.mul_one]) (fun j u hj=>?_) h1 H k O (fun v' w' h2 h3 _=>h v' w' h2 (l.grown h3 O (fun g hg=>(f.lt g hg).1)));obtain⟨F,e⟩:=List.getElem?_eq_some_iff.1 hj;obtain⟨b,off,I,_,Y⟩:=D.2 j F;injection I with I
  subst I;have Z:(⟨b,off,none⟩:Addr).add j=⟨b,off+j,none⟩:=by
   unfold Addr.add;split<;>simp_all
  rw[Z,Y,e]
end
end fU
namespace vJ
open Go.RowKit Base
def Max (w:World):Prop:=∃m,w.cell? ⟨0,0,none⟩=some (.int .i64 m)
theorem Max.below {w w':World} (h:Max w) (c:Below w.heap.size w w'):Max w':=by
 obtain⟨m,a⟩:=h;exact⟨m,(c.cell (World.block_lt_of_cell? _ _ a)).trans a⟩
theorem qM (b:UInt8) (f:List UInt8→List (List UInt8)) (m:f []=[[]]) (n:∀L,f (b::L)=[]::f L) (i:∀c L,c≠b→f (c::L)=match f L with
  |[]=>[[c]]
  |x::r=>(c::x)::r):∀(L:List UInt8) (k:Nat),L.count b≤k→Lib.splitK [b] 0 k L=f L
 |[],0,_=>m.symm
 |[],k+1,_=>m.symm
 |a::l,0,h=>by
  have d:a≠b:=by rintro rfl;simp at h
  have g:=qM b f m n i l 0 (by rw[List.count_cons_of_ne (by simpa using d)]at h;exact h)
  show[a::l]=_
  rw[i a l d,←g]
  rfl
 | a :: l, k + 1, h => by
  by_cases d:a=b
  ·subst d
   have g:=qM a f m n i l k (by simp at h;omega)
   have e:Lib.index (a::l) [a]=0:=by rw[Lib.index,if_pos (by simp[List.isPrefixOf])]
   rw[n,Lib.splitK,e,if_neg (by decide)]
   show[]::_=_
   rw[←g]
   rfl
  ·have t:l.count b≤k+1:=by rw[List.count_cons_of_ne (by simpa using d)]at h;exact h
   have g:=qM b f m n i l (k+1) t
   have e:Lib.index (a::l) [b]=if Lib.index l [b]== -1 then -1 else Lib.index l [b]+1:=by rw[Lib.index,if_neg (by simp[List.isPrefixOf,Ne.symm d])]
   rw[Lib.splitK]at g⊢
   rw[i a l d,←g,e]
   by_cases hm:Lib.index l [b]= -1
   ·rw[hm]
    rfl
   ·have s:=Lib.index_ge l [b]
    obtain⟨j,q⟩:∃j:Nat,Lib.index l [b]=j:=⟨(Lib.index l [b]).toNat,by omega⟩
    have y:((j:Int)== -1)=false:=beq_eq_false_iff_ne.2 (by omega)
    have w:((j:Int)+1== -1)=false:=beq_eq_false_iff_ne.2 (by omega)
    have v:((j:Int)+1).toNat=j+1:=by omega
    simp only[q,y,Bool.false_eq_true,if_false,w,v]
    simp
def Read (w:World) (l:List (List UInt8)) (e:Ending) (w':World):Prop:=∃A n c,e=.returned (.slice A n c)∧n=l.length∧n≤c∧c≤maxLen∧dW w' A n ((l.map ah).map Value.string)∧Below w.heap.size w w'
theorem tZ (b:UInt8) (f:List UInt8→List (List UInt8)) (n:f []=[[]]) (l:∀L,f (b::L)=[]::f L) (k:∀c L,c≠b→f (c::L)=match f L with
  |[]=>[[c]]
  |x::r=>(c::x)::r) (s:ByteArray) (w:World) (q:s.size≤1073741824) (i:Max w):Calls prog 193 #[.string s,.string ⟨#[b]⟩] w (Read w (f s.data.toList)):=by
 obtain⟨m,h⟩:=i;refine(strings_Split s ⟨#[b]⟩ m w (by omega) h (Nat.le_refl _)).mono ?_;rintro e w' ⟨rfl,rfl⟩;have d:=Lib.splitB_data ⟨#[b]⟩ 0 (Lib.countB s ⟨#[b]⟩) s;rw[show(⟨#[b]⟩:ByteArray).data.toList=[b]from rfl,qM b f n l k _ _ (by rw[←Lib.count_one];exact Nat.le_refl _)]at d;have a:=Lib.splitB_all ⟨#[b]⟩ (Nat.le_refl _) 0 _ s rfl;have t:=Lib.countB_le ⟨#[b]⟩ (Nat.le_refl _) s.size s (Nat.le_refl _);generalize Lib.splitB ⟨#[b]⟩ 0 (Lib.countB s ⟨#[b]⟩) s=B at d a⊢;have g:B=(f s.data.toList).map ah:=by
  rw[←d,List.map_map]
  conv=>lhs;rw[←List.map_id B]
  exact List.map_congr_left fun x _=>(bF x).symm
 unfold Read;rw[←g];refine⟨_,_,_,rfl,by rw[←a,g,List.length_map],Nat.le_refl _,by unfold maxLen;omega,?_,(Below.refl _ _).alloc (Nat.le_refl _) _⟩;exact dW.lT (by rw[List.length_map,a]) (by simp) (fun j hj=>by
  rw[Nat.zero_add,World.cell?_alloc_mark];simp)
end vJ
namespace vJ
open Go.RowKit Base lX qy
theorem Ny (s:ByteArray) (w:World) (a:s.size≤1073741824) (d:Max w):Calls prog 193 #[.string s,.string ⟨#[46]⟩] w (Read w (dh s.data.toList)):=
 tZ 46 dh rfl (fun L=>by rw[dh,if_pos rfl]) (fun c L h=>by rw[dh,if_neg h];cases dh L<;>rfl) s w a d
theorem Nz (s:ByteArray) (w:World) (a:s.size≤1073741824) (d:Max w):Calls prog 193 #[.string s,.string ⟨#[58]⟩] w (Read w (dD s.data.toList)):=
 tZ 58 dD rfl eF (fun c L h=>by rw[dD,if_neg h];cases dD L<;>rfl) s w a d
theorem afe (L:List UInt8):decide (0≤Lib.indexByte L 46)=L.contains 46:=by
 have k:=Lib.indexByte_ge L 46;by_cases h:Lib.indexByte L 46= -1
 ·have g:=Lib.indexByte_none h;rw[decide_eq_false (by omega)];cases e:L.contains 46 with
  |false=>rfl
  |true=>
   have i:(46:UInt8) ∈ L:=by simpa using e
   obtain⟨j,c,a⟩:=List.getElem_of_mem i;exact absurd (List.getElem?_eq_some_iff.2 ⟨c,a⟩) (g j)
 obtain⟨o,f⟩:∃o:Nat,Lib.indexByte L 46=o:=⟨(Lib.indexByte L 46).toNat,by omega⟩;have d:=(Lib.indexByte_some f).1;rw[decide_eq_true (by omega)];obtain⟨c,a⟩:=List.getElem?_eq_some_iff.1 d;symm
 simpa using(show(46:UInt8) ∈ L by rw[←a];exact List.getElem_mem _)
theorem zh (s:ByteArray) (w:World):Calls prog 204 #[.string s,.string ⟨#[46]⟩] w fun e w'=>e=.returned (.bool (s.data.toList.contains 46))∧w=w':=by
 refine(strings_Contains_one s 46 w).mono ?_;rintro e w' ⟨rfl,rfl⟩;exact⟨aH (afe _),rfl⟩
theorem Ik:∀(s:List UInt8),Lib.cut s [58,58]=match vK s with
  |some p=>(p.1,p.2,true)
  |none=>(s,[],false)
 |[]=>rfl
 | [a]=>by
  by_cases h:a=58
  ·subst h;rfl
  ·have:Lib.index [a] [58,58]= -1:=by
    rw[Lib.index,if_neg (by simp[List.isPrefixOf])];rfl
   unfold Lib.cut;rw[this];rfl
 | a ::b::r=>by
  have c:=Ik (b::r);rw[vK];by_cases h:a=58∧b=58
  ·obtain⟨rfl,rfl⟩:=h;rw[if_pos ⟨rfl,rfl⟩];have:Lib.index (58::58::r) [58,58]=0:=by rw[Lib.index,if_pos (by simp[List.isPrefixOf])]
   unfold Lib.cut;rw[this];rfl
  ·rw [if_neg h];have e:Lib.index (a::b::r) [58,58]=if Lib.index (b::r) [58,58]== -1 then -1 else Lib.index (b::r) [58,58]+1:=by
    rw[Lib.index,if_neg];simp only[List.isPrefixOf,Bool.and_eq_true,beq_iff_eq];rintro⟨d,k,_⟩;exact h ⟨d.symm,k.symm⟩
   have g:=Lib.index_ge (b::r) [58,58];unfold Lib.cut at c⊢;rw[e];by_cases hm:Lib.index (b::r) [58,58]= -1
   ·rw[hm]at c⊢;cases hc:vK (b::r)with
    |none=>rfl
    |some p=>rw[hc]at c;simp at c
   ·obtain ⟨j,f⟩:∃j:Nat,Lib.index (b::r) [58,58]=j:=⟨(Lib.index (b::r) [58,58]).toNat,by omega⟩;rw[f]at c⊢;have d:((j:Int)== -1)=false:=beq_eq_false_iff_ne.2 (by omega);rw[if_pos (by omega)]at c;simp only[d,Bool.false_eq_true,if_false];rw[if_pos (by omega)];cases hc:vK (b::r)with
    |none=>rw[hc]at c;simp at c
    |some p=>
     rw[hc]at c;simp only[Prod.mk.injEq]at c⊢;have i:((j:Int)+1).toNat=j+1:=by omega
     rw[i,←c.1,←c.2.1];refine⟨?_,?_,?_⟩
     ·simp
     ·show List.drop (j+2+1) (a::b::r)=List.drop (j+2) (b::r);rw[List.drop_succ_cons]
     ·trivial
def cutV (s:ByteArray):Value:=match vK s.data.toList with
 |some p=>.tuple #[.string (ah p.1),.string (ah p.2),.bool true]
 |none=>.tuple #[.string s,.string (ah []),.bool false]
theorem Y1 (s:ByteArray) (w:World) (f:s.size≤1073741824) (d:Max w):Calls prog 22 #[.string s,.string ⟨#[58,58]⟩] w fun e w'=>e=.returned (cutV s)∧∃n,w'=w.drewN n:=by
 obtain⟨m,c⟩:=d;refine(strings_Cut s ⟨#[58,58]⟩ m w (by omega) c).mono ?_;rintro e w' ⟨rfl,a⟩;refine⟨?_,a⟩;rw[show(⟨#[58,58]⟩:ByteArray).data.toList=[58,58]from rfl,Ik];unfold cutV;cases vK s.data.toList with
 |none=>exact afR (by show Value.string (ah s.data.toList)=_;rw[bF]) rfl rfl
 |some p=>rfl
end vJ
namespace Ba
open Go.RowKit Base aV lX qy Ei Eh vJ
theorem drop_at {α:Type} (R:List α) (k:Nat) (p:α) (a:k<R.length) (h:R[k]=p):R.drop k=p::R.drop (k+1):=by rw[←h];exact List.drop_eq_getElem_cons a
def bC (L:List Nat):List Value:=L.map fun(n:Nat)=>Value.int .u16 (n:Int)
theorem jP (L:List Nat):(bC L).length=L.length:=by simp[bC]
theorem uI (a b:List Nat):bC (a++b)=bC a++bC b:=by simp[bC]
theorem OZ (L:List Nat):∀u ∈ bC L,u.oneCell'=true:=by
 intro u a;simp only[bC,List.mem_map]at a;obtain⟨c,_,rfl⟩:=a;rfl
def Box (w:World) (g:Nat) (t:TypeId) (L:List Nat):Prop:=w.heap[g]?=some (.cells (bC L).toArray t (0,0))
theorem Box.cell {w:World} {g:Nat} {t:TypeId} {L:List Nat} (h:Box w g t L) (j:Nat) (a:j<L.length):w.cell? ⟨g,j,none⟩=some (.int .u16 (L[j]:Int)):=by
 refine(cell_of_row w g j _ _ _ h).trans ?_;simp[bC,a]
theorem Box.frozen {w:World} {g:Nat} {t:TypeId} {L:List Nat} (h:Box w g t L) (j:Nat):w.frozen? ⟨g,j,none⟩=false:=by
 unfold World.frozen?;rw[h];simp
theorem Box.set {w:World} {g:Nat} {t:TypeId} {L:List Nat} (h:Box w g t L) (j n:Nat):Box (w.setCell ⟨g,j,none⟩ (.int .u16 (n:Int))) g t (L.set j n):=by
 have:=heap_setCell_same w g j _ _ (.int .u16 (n:Int)) h;unfold Box;rw[this];simp[bC,List.map_set]
theorem Box.below {w w':World} {g:Nat} {t:TypeId} {L:List Nat} (h:Box w g t L) (a:Below w.heap.size w w'):Box w' g t L:=(a.block _ (Array.getElem?_eq_some_iff.1 h).1).trans h
theorem Box.lt {w:World} {g:Nat} {t:TypeId} {L:List Nat} (h:Box w g t L):g<w.heap.size:=(Array.getElem?_eq_some_iff.1 h).1
theorem Nu (p:List UInt8) (r:List (List UInt8)) (v:Nat) (h:small p=some v):smalls (p::r)=(smalls r).map (v::·):=by
 rw[smalls,h];cases smalls r<;>rfl
theorem Ns {p:List UInt8} {v:Nat} (h:small p=some v):v≤255:=by
 unfold small at h;split at h
 ·rename_i h2;injection h with h;omega
 cases h
theorem rH (a:List Nat) (v:Nat) (o:Option (List Nat)):(o.map (v::·)).map (a++·)=o.map ((a++[v])++·):=by
 cases o<;>simp
theorem G7 (L:List Nat) (k v:Nat) (h:k<L.length):(L.set k v).take (k+1)=L.take k++[v]:=by
 rw[List.take_succ_eq_append_getElem (by simpa using h)];simp[List.take_set_of_le]
theorem Q7 (a b:Nat) (d:a≤255) (c:b≤255):bits .or .u16 ((a:Int)*256) (b:Int)=((a*256+b:Nat):Int):=by
 rw[show((a:Int)*256)=((a*256:Nat):Int)by omega,u16_or_nat _ _ (by omega) (by omega)];have:=Nat.shiftLeft_add_eq_or_of_lt (i:=8) (b:=b) (by omega) a;rw[Nat.shiftLeft_eq]at this;rw[←this]
def QV (o:Option (List Nat)):Value:=match o with
 |some [a,b]=>.tuple #[.int .u16 (a:Int),.int .u16 (b:Int),.bool true]
 |_=>.tuple #[.int .u16 0,.int .u16 0,.bool false]
theorem Rk {o:Option (List Nat)} (h:o=none):QV o=.tuple #[.int .u16 0,.int .u16 0,.bool false]:=by rw[h];rfl
theorem aae {o:Option (List Nat)} {a b:Nat} (h:o=some [a,b]):QV o=.tuple #[.int .u16 (a:Int),.int .u16 (b:Int),.bool true]:=by rw[h];rfl
theorem FW:∀{ps:List (List UInt8)} {l:List Nat},smalls ps=some l→l.length=ps.length
 |[],l,h=>by injection h with h;subst h;rfl
 |p::r,l,h=>by
  rw[smalls]at h
  split at h
  ·rename_i n x h1 h2
   injection h with h
   subst h
   simp[FW h2]
  ·cases h
theorem Uc {t:List UInt8} (h:(dh t).length≠4):kJ t=none:=by
 unfold kJ;cases e:smalls (dh t)with
 |none=>rfl
 |some l=>exact NI (by rw[FW e];exact h)
theorem MS (s:ByteArray) (w:World) (hs:s.size≤1073741824) (hM:Max w):Calls prog 205 #[.string s] w fun e w'=>e=.returned (QV (kJ s.data.toList))∧Below w.heap.size w w':=by
 have J:s.data.toList.length=s.size:=Array.length_toList;obtain⟨S,T⟩:∃S,S=kJ s.data.toList:=⟨_,rfl⟩;obtain⟨R,V⟩:∃R,R=dh s.data.toList:=⟨_,rfl⟩;have a0:Hid (∀p ∈ R,p.length≤1073741824):=by
  intro p y;rw[V]at y;have:=nX _ p y;omega
 have I:=hid V;have HS:=hid T;have a1:=hid hM;rw[←T];clear T V hM J;go_enter func205,ntmps205;go_wp2_with fail
 refine(Ny s _ hs a1).mono ?_;rintro e m ⟨A,n,c,rfl,N,a4,O,r,z⟩;rw[←I.out]at N r;have D:=hid N;have C:=hid r;have HB:=hid z;unfold maxLen at O;clear N r z;by_cases h4:n=4
 ·subst h4;obtain⟨g,off,rfl,hg,_⟩:=C.spot (by omega);go_wp2;generalize hw4:m.alloc _=w4;have l:Below m.heap.size m w4:=by rw[←hw4];exact(Below.refl _ _).alloc (Nat.le_refl _) _
  have f:Hid (Box w4 m.heap.size 200 [0,0,0,0]):=by show Box _ _ _ _;rw[←hw4];exact heap_alloc_new _ _
  have Z:Hid (smalls R=(smalls (R.drop 0)).map (([]:List Nat)++·)):=by show _=_;rw[List.drop_zero];cases smalls R<;>simp
  clear hw4;go_loopw [7,8,9,10,18] (fun _ _ _ _ vk wr=>∃(k:Nat) (L:List Nat),k≤4∧vk=.int .i64 (k:Int)∧L.length=4∧Hid (Box wr m.heap.size 200 L)∧Hid (Below m.heap.size m wr)∧Hid (smalls R=(smalls (R.drop k)).map (L.take k++·))∧Hid (∀x ∈ L,x≤255)) (fun _ _ _ _ vk _=>4 - (intOf vk).toNat)
  case atStart=>exact⟨0,[0,0,0,0],by omega,rfl,rfl,f,l,Z,by intro x hx;simp at hx;omega⟩
  case round =>
   clear l;obtain⟨k,L,hk,rfl,W,f,q,HW,i⟩:=hrel;by_cases hlt:k<4
   ·obtain ⟨p,y⟩:∃p,R[k]'(by rw[←D.out];exact hlt)=p:=⟨_,rfl⟩;obtain⟨Y,Q⟩:∃Y,Y=ah p:=⟨_,rfl⟩;have B:Hid (Y.data.toList=p):=by show _=_;rw[Q];rfl
    have a6:wr.cell? ⟨g,off+k,none⟩=some (.string Y):=by
     obtain⟨b',o',e1,_,P⟩:=(C.below q).2 k (by rw[List.length_map,List.length_map,←D.out];exact hlt);cases e1;rw[P,List.getElem_map,List.getElem_map,y,Q]
    have G:Hid (R.drop k=p::R.drop (k+1)):=drop_at R k p (by rw[←D.out];exact hlt) y;clear y Q;cases hsm:small p with
    |none=>
     have F:Hid (QV S=.tuple #[.int .u16 0,.int .u16 0,.bool false]):=by
      refine Rk ?_;rw[HS.out];refine rO ?_;rw[←I.out,HW.out,G.out,jD hsm];rfl
     have t:=hid hsm;clear hsm;go_wp2_with fail
     refine(IY Y _).mono ?_;rw[B.out,t.out];rintro e w5 ⟨⟨x,rfl⟩,rfl⟩;go_wp2
     go_ret3
     exact⟨by rw[F.out];rfl,bD HB q⟩
    |some v=>
     have hv:=Ns hsm;have t:=hid hsm;have X:Hid (smalls R=(smalls (R.drop (k+1))).map ((L.set k v).take (k+1)++·)):=by
      show _=_;rw[HW.out,G.out,Nu p _ v hsm,G7 L k v (by omega),rH]
     have a8:=f.cell k (by omega);have a5:=f.frozen k;have a3:=hid (f.set k v);have H:Hid (Below m.heap.size m (wr.setCell ⟨m.heap.size,k,none⟩ (.int .u16 (v:Int)))):=q.setCell (Nat.le_refl _) _;have E:Hid (∀x ∈ L.set k v,x≤255):=by
      intro x hx;rcases List.mem_or_eq_of_mem_set hx with h|h
      ·exact i x h
      omega
     clear hsm hv;go_wp2_with fail
     refine(IY Y _).mono ?_;rw[B.out,t.out];rintro e w5 ⟨rfl,rfl⟩;go_wp2;go_roundw
     case rel=>exact⟨k+1,L.set k v,by omega,by go_num,by rw[List.length_set];exact W,a3,H,X,E⟩
     case measure=>simp[intOf];omega
   obtain rfl:k=4:=by omega
   have j:smalls R=some L:=by
    rw[HW.out,List.drop_eq_nil_of_le (by rw[←D.out];exact Nat.le_refl _),List.take_of_length_le (by omega)];simp[smalls]
   match L,W,f,i,j with
   |[a,b,c,d],_,f,i,j=>
    have ha:=i a (by simp);have z:=i b (by simp);have hc:=i c (by simp);have hd:=i d (by simp);have F:Hid (QV S=.tuple #[.int .u16 ((a*256+b:Nat):Int),.int .u16 ((c*256+d:Nat):Int),.bool true]):=by
     refine aae ?_;rw[HS.out];unfold kJ;rw[←I.out,j];rfl
    have c0:=f.cell 0 (by simp);have c1:=f.cell 1 (by simp);have c2:=f.cell 2 (by simp);have c3:=f.cell 3 (by simp);simp only[List.getElem_cons_zero,List.getElem_cons_succ]at c0 c1 c2 c3;have o1:=Q7 a b ha z;have o2:=Q7 c d hc hd;have a9:(a:Int)≤255:=by omega
    have a7:(c:Int)≤255:=by omega
    have a2:=hid (bD HB q);clear j W ha z hc hd;go_wp2_with fail
    go_quiet (fail)
    go_wp2
    go_ret3
    exact⟨by rw[F.out];rfl,Base.below_drewN a2 _⟩
 have F:Hid (QV S=.tuple #[.int .u16 0,.int .u16 0,.bool false]):=by
  refine Rk ?_;rw[HS.out];exact Uc (by rw[←I.out,←D.out];exact h4)
 have b0:¬(n:Int)=4:=by omega
 go_wp2
 go_ret3
 exact⟨by rw[F.out];rfl,HB⟩
def PcV (w:World) (o:Option (List Nat)) (e:Ending) (w':World):Prop:=match o with
 |some l=>∃v,e=.returned (.tuple #[v,.bool true])∧w'.ownsRow w.heap.size 155 1 v l.length (bC l)
 |none=>∃v,e=.returned (.tuple #[v,.bool false])
theorem wJ {w w':World} {o:Option (List Nat)} (h:o=none) (v:Value):PcV w o (.returned (.tuple #[v,.bool false])) w':=by rw[h];exact⟨v,rfl⟩
theorem Aa {w w':World} {o:Option (List Nat)} {l:List Nat} (h:o=some l) (v:Value) (a:w'.ownsRow w.heap.size 155 1 v l.length (bC l)):PcV w o (.returned (.tuple #[v,.bool true])) w':=by rw[h];exact⟨v,rfl,a⟩
theorem V4:(prog.info? 155).map (fun i=>(i.zero,i.size,i.bytes))=some (some (.int .u16 0),1,2):=by kernel_rfl
def NB (e:Bool) (r:List (List UInt8)) (p:List UInt8):Prop:=¬(e=true∧r=[]∧p.contains 46=true)
theorem Xa {e:Bool} {p:List UInt8} {r:List (List UInt8)} (h:NB e r p) {v:Nat} (a:piece p=some v):lV e (p::r)=(lV e r).map (v::·):=by
 rw[lV,if_neg h,a];cases lV e r<;>rfl
theorem Ph {e:Bool} {p:List UInt8} {r:List (List UInt8)} (h:NB e r p) (a:piece p=none):lV e (p::r)=none:=by
 rw[lV,if_neg h,a]
theorem Xd {p:List UInt8} {v:Nat} (h:piece p=some v):v<65536:=by
 unfold piece at h;split at h
 ·rename_i h2;injection h with h
  have c:=uV 16 (by omega) p h2.2.2;have a:16^p.length≤16^4:=Nat.pow_le_pow_right (by omega) h2.2.1;omega
 cases h
theorem adz {l x:List Nat} (h:two l=some x):∃a b,x=[a,b]:=by
 unfold two at h;split at h
 ·injection h with h;exact⟨_,_,h.symm⟩
 cases h
theorem JL {p:List UInt8} {x:List Nat} (h:kJ p=some x):∃a b,x=[a,b]:=by
 unfold kJ at h;cases e:smalls (dh p)with
 |none=>rw[e]at h;cases h
 |some l=>rw[e]at h;exact adz h
theorem FB (s:ByteArray) (e:Bool) (w:World) (hs:s.size≤1048576) (hM:Max w):Calls prog 186 #[.string s,.bool e] w fun en w'=>PcV w (lV e (dD s.data.toList)) en w'∧Below w.heap.size w w':=by
 have b0:s.data.toList.length=s.size:=Array.length_toList;obtain⟨i0,hi,O,N,L⟩:=info_parts V4;obtain⟨R,hR⟩:∃R,R=dD s.data.toList:=⟨_,rfl⟩;have a3:Hid (∀p ∈ R,p.length≤1073741824):=by
  intro p hp;rw[hR]at hp;have:=xK _ p hp;omega
 have b7:R.length≤1048577:=by have:=wE s.data.toList;rw[hR];omega
 rw[←hR];obtain⟨S,hS⟩:∃S,S=lV e R:=⟨_,rfl⟩;rw[←hS];have HR:=hid hR;have HS:=hid hS;have a8:=hid hM;clear hR hM b0 hS;go_enter func186,ntmps186;go_wp2_with fail
 refine(Nz s _ (by omega) a8).mono ?_;rintro en D ⟨A,n,c,rfl,hn,c0,b5,a1,hb⟩;rw[←HR.out]at hn a1;rw[←hn]at b7;have HN:=hid hn;have a7:=hid a1;have Z:=hid hb;unfold maxLen at b5;have b3:0<n:=by rw[hn,HR.out];exact List.length_pos_iff.2 (jJ _)
 clear hn a1 hb;have b8:Hid (S=(lV e (R.drop 0)).map (([]:List Nat)++·)):=by show _=_;rw[List.drop_zero,HS.out];cases lV e R<;>simp
 have a6:Hid (Max D):=a8.below Z;obtain⟨g,off,rfl,hg,_⟩:=a7.spot b3;go_wp2;go_loopw [6,8,9,13,14,19] (fun vl _ _ _ _ vk wr=>∃(k:Nat) (z:List Nat),k≤n∧z.length≤k∧vk=.int .i64 (k:Int)∧Hid (wr.ownsRow D.heap.size 155 1 vl z.length (bC z))∧Hid (Below D.heap.size D wr)∧Hid (S=(lV e (R.drop k)).map (z++·))) (fun _ _ _ _ _ vk _=>n - (intOf vk).toNat)
 case atStart=>exact⟨0,[],by omega,Nat.le_refl _,rfl,World.ownsRow_nil _ _ _ _,Below.refl _ _,b8⟩
 case round=>
  obtain⟨k,z,hk,a9,rfl,HO,q,X⟩:=hrel;by_cases hlt:k<n
  ·obtain ⟨p,hp⟩:∃p,R[k]'(by rw[←HN.out];exact hlt)=p:=⟨_,rfl⟩;obtain⟨Y,hY⟩:∃Y,Y=ah p:=⟨_,rfl⟩;obtain⟨m,hm⟩:∃m,m=z.length:=⟨_,rfl⟩;have B:Hid (Y.data.toList=p):=by show _=_;rw[hY];rfl
   have c1:wr.cell? ⟨g,off+k,none⟩=some (.string Y):=by
    obtain⟨b',o',e1,_,b6⟩:=(a7.below q).2 k (by rw[List.length_map,List.length_map,←HN.out];exact hlt);cases e1;rw[b6,List.getElem_map,List.getElem_map,hp,hY]
   have a5:Hid (Y.size≤1073741824):=by
    show _≤_;rw[hY,ak];exact a3 p (by rw[←hp];exact List.getElem_mem _)
   have F:Hid (R.drop k=p::R.drop (k+1)):=drop_at R k p (by rw[←HN.out];exact hlt) hp;have J:Hid (R.drop (k+1)=[]↔k+1=n):=by
    show _↔_;rw[List.drop_eq_nil_iff,←HN.out];omega
   rw[←hm]at HO a9;have HM:=hid hm;have a4:wr.heap.size≥D.heap.size:=q.size;clear hp hY hm;cases e with
   | false=>
    have E:Hid (NB false (R.drop (k+1)) p):=fun h=>by cases h.1
    cases hpc:piece p with
    |none=>
     have Q:Hid (S=none):=by show _=_;rw[X.out,F.out,Ph E.out hpc];rfl
     have y:=hid hpc;clear hpc;go_wp2_with fail
     refine(qo Y _).mono ?_;rw[B.out,y.out];rintro e5 W ⟨rfl,r⟩;subst r;rw[PV];go_wp2;go_ret2;exact⟨wJ Q _,bD Z q⟩
    |some v=>
     have y:=hid hpc;have P:Hid (S=(lV false (R.drop (k+1))).map ((z++[v])++·)):=by show _=_;rw[X.out,F.out,Xa E.out hpc,rH]
     have i:=HO.out;have j:=q.out;clear hpc;go_wp2_with fail
     refine(qo Y _).mono ?_;rw[B.out,y.out];rintro e5 W ⟨rfl,r⟩;subst r;rw[PV];go_wp2_with (at_builtin;refine bJ rfl _ _ 172 rfl D.heap.size 155 i0 (.int .u16 0) 2 underlying172 hi O N L rfl _ m _ rfl i j j.size [.int .u16 (v:Int)] 1 rfl rfl (by intro u I;simp at I;subst I;rfl) (by unfold maxLen;omega) (by omega) ?_)
     intro v7 w7 f d;have H:Hid (w7.ownsRow D.heap.size 155 1 v7 (z++[v]).length (bC (z++[v]))):=by
      show World.ownsRow _ _ _ _ _ _ _;rw[List.length_append,←HM.out,uI];exact f
     have C:=hid d;clear i j f d;go_wp2;go_roundw
     case rel=>exact⟨k+1,z++[v],by omega,by rw[List.length_append,←HM.out];show m+1≤_;omega,by go_num,H,C,P⟩
     case measure=>simp[intOf];omega
   | true=>
    by_cases hkn:k+1=n
    ·have b9:=hid hkn;have hq:((k:Int)==(n:Int) - 1)=true:=by simp;omega
     cases hct:p.contains 46 with
     | true=>
      have T:=hid hct;clear hct hkn;go_wp2_with fail
      refine(zh Y _).mono ?_;rw[B.out,T.out];rintro e4 w4 ⟨rfl,a0⟩;subst a0;have V:Hid (lV true (p::R.drop (k+1))=kJ p):=by show _=_;rw[lV,if_pos ⟨rfl,J.out.2 b9.out,T.out⟩]
      cases hqd:kJ p with
      |none=>
       have Q:Hid (S=none):=by show _=_;rw[X.out,F.out,V.out,hqd];rfl
       have a2:Hid (QV (kJ p)=.tuple #[.int .u16 0,.int .u16 0,.bool false]):=by show _=_;rw[hqd];rfl
       have i:=HO.out;clear hqd;go_wp2_with fail
       refine(MS Y _ a5 (a6.below q)).mono ?_;rw[B.out,a2.out];rintro e5 W ⟨rfl,G⟩;have t:=aY i G;have l:Below D.heap.size D W:=q.trans (G.mono a4);clear i G;go_wp2_with (at_builtin;refine bJ rfl _ _ 172 rfl D.heap.size 155 i0 (.int .u16 0) 2 underlying172 hi O N L rfl _ m _ rfl t l l.size [.int .u16 0,.int .u16 0] 2 rfl rfl (by intro u I;simp at I;subst I;rfl) (by unfold maxLen;omega) (by omega) ?_)
       intro v7 w7 f d;have C:=hid d;clear t l f d;go_wp2;go_ret2;exact⟨wJ Q _,bD Z C⟩
      |some x=>
       obtain⟨a,b,rfl⟩:=JL hqd;have Q:Hid (S=some (z++[a,b])):=by show _=_;rw[X.out,F.out,V.out,hqd];rfl
       have a2:Hid (QV (kJ p)=.tuple #[.int .u16 (a:Int),.int .u16 (b:Int),.bool true]):=by show _=_;rw[hqd];rfl
       have i:=HO.out;clear hqd;go_wp2_with fail
       refine(MS Y _ a5 (a6.below q)).mono ?_;rw[B.out,a2.out];rintro e5 W ⟨rfl,G⟩;have t:=aY i G;have l:Below D.heap.size D W:=q.trans (G.mono a4);clear i G;go_wp2_with (at_builtin;refine bJ rfl _ _ 172 rfl D.heap.size 155 i0 (.int .u16 0) 2 underlying172 hi O N L rfl _ m _ rfl t l l.size [.int .u16 (a:Int),.int .u16 (b:Int)] 2 rfl rfl (by intro u I;simp at I;rcases I with rfl|rfl<;>rfl) (by unfold maxLen;omega) (by omega) ?_)
       intro v7 w7 f d;have H:Hid (w7.ownsRow D.heap.size 155 1 v7 (z++[a,b]).length (bC (z++[a,b]))):=by
        show World.ownsRow _ _ _ _ _ _ _;rw[List.length_append,←HM.out,uI];exact f
       have C:=hid d;clear t l f d;go_wp2;go_ret2;exact⟨Aa Q _ (aI H Z.size),bD Z C⟩
     | false=>
      have T:=hid hct;have E:Hid (NB true (R.drop (k+1)) p):=fun h=>by rw[T.out]at h;cases h.2.2
      clear hct hkn;go_wp2_with fail
      refine(zh Y _).mono ?_;rw[B.out,T.out];rintro e4 w4 ⟨rfl,a0⟩;subst a0;cases hpc:piece p with
      |none=>
       have Q:Hid (S=none):=by show _=_;rw[X.out,F.out,Ph E.out hpc];rfl
       have y:=hid hpc;clear hpc;go_wp2_with fail
       refine(qo Y _).mono ?_;rw[B.out,y.out];rintro e5 W ⟨rfl,r⟩;subst r;rw[PV];go_wp2;go_ret2;exact⟨wJ Q _,bD Z q⟩
      |some v=>
       have y:=hid hpc;have P:Hid (S=(lV true (R.drop (k+1))).map ((z++[v])++·)):=by show _=_;rw[X.out,F.out,Xa E.out hpc,rH]
       have i:=HO.out;have j:=q.out;clear hpc;go_wp2_with fail
       refine(qo Y _).mono ?_;rw[B.out,y.out];rintro e5 W ⟨rfl,r⟩;subst r;rw[PV];go_wp2_with (at_builtin;refine bJ rfl _ _ 172 rfl D.heap.size 155 i0 (.int .u16 0) 2 underlying172 hi O N L rfl _ m _ rfl i j j.size [.int .u16 (v:Int)] 1 rfl rfl (by intro u I;simp at I;subst I;rfl) (by unfold maxLen;omega) (by omega) ?_)
       intro v7 w7 f d;have H:Hid (w7.ownsRow D.heap.size 155 1 v7 (z++[v]).length (bC (z++[v]))):=by
        show World.ownsRow _ _ _ _ _ _ _;rw[List.length_append,←HM.out,uI];exact f
       have C:=hid d;clear i j f d;go_wp2;go_roundw
       case rel=>exact⟨k+1,z++[v],by omega,by rw[List.length_append,←HM.out];show m+1≤_;omega,by go_num,H,C,P⟩
       case measure=>simp[intOf];omega
    have hq:((k:Int)==(n:Int) - 1)=false:=by simp;omega
    have E:Hid (NB true (R.drop (k+1)) p):=fun h=>hkn (J.1 h.2.1);clear hkn;cases hpc:piece p with
    |none=>
     have Q:Hid (S=none):=by show _=_;rw[X.out,F.out,Ph E.out hpc];rfl
     have y:=hid hpc;clear hpc;go_wp2_with fail
     refine(qo Y _).mono ?_;rw[B.out,y.out];rintro e5 W ⟨rfl,r⟩;subst r;rw[PV];go_wp2;go_ret2;exact⟨wJ Q _,bD Z q⟩
    |some v=>
     have y:=hid hpc;have P:Hid (S=(lV true (R.drop (k+1))).map ((z++[v])++·)):=by show _=_;rw[X.out,F.out,Xa E.out hpc,rH]
     have i:=HO.out;have j:=q.out;clear hpc;go_wp2_with fail
     refine(qo Y _).mono ?_;rw[B.out,y.out];rintro e5 W ⟨rfl,r⟩;subst r;rw[PV];go_wp2_with (at_builtin;refine bJ rfl _ _ 172 rfl D.heap.size 155 i0 (.int .u16 0) 2 underlying172 hi O N L rfl _ m _ rfl i j j.size [.int .u16 (v:Int)] 1 rfl rfl (by intro u I;simp at I;subst I;rfl) (by unfold maxLen;omega) (by omega) ?_)
     intro v7 w7 f d;have H:Hid (w7.ownsRow D.heap.size 155 1 v7 (z++[v]).length (bC (z++[v]))):=by
      show World.ownsRow _ _ _ _ _ _ _;rw[List.length_append,←HM.out,uI];exact f
     have C:=hid d;clear i j f d;go_wp2;go_roundw
     case rel=>exact⟨k+1,z++[v],by omega,by rw[List.length_append,←HM.out];show m+1≤_;omega,by go_num,H,C,P⟩
     case measure=>simp[intOf];omega
  obtain rfl:k=n:=by omega
  have Q:Hid (S=some z):=by
   show _=_;rw[X.out,List.drop_eq_nil_of_le (by rw[←HN.out];exact Nat.le_refl _)];simp[lV]
  go_wp2;go_ret2;exact⟨Aa Q _ (aI HO Z.size),bD Z q⟩
theorem FT (s:ByteArray) (e:Bool) (w:World) (m:s.size≤1048576) (i:Max w):Calls prog 187 #[.string s,.bool e] w fun k w'=>PcV w (fC e (dD s.data.toList)) k w'∧Below w.heap.size w w':=by
 by_cases h:s.data.toList=[]
 ·have d:Hid (fC e (dD s.data.toList)=some []):=by show _=_;rw[h];rfl
  have q:s.toList=[]:=by rw[Lib.toList_data];exact h
  clear h;go_enter func187,ntmps187;go_wp2;go_ret2;exact⟨Aa d _ (World.ownsRow_nil _ _ _ _),Below.refl _ _⟩
 have d:Hid (fC e (dD s.data.toList)=lV e (dD s.data.toList)):=mG e (fun j=>h (FY.1 j));have q:(s.toList==[])=false:=by rw[Lib.toList_data];simpa using h
 have j:s.toList.isEmpty=false:=by rw[Lib.toList_data];simpa using h
 have c:=hid i;obtain⟨S,a⟩:∃S,S=lV e (dD s.data.toList):=⟨_,rfl⟩;have r:=hid a;rw[d.out,←a];clear i a;go_enter func187,ntmps187;go_wp2_with fail
 refine(FB s e _ m c).mono ?_;rw[←r.out];rintro k t ⟨f,g⟩;cases S with
 |none=>
  obtain⟨v,rfl⟩:=f;go_wp2;go_ret2;exact⟨wJ rfl _,g⟩
 |some l=>
  obtain⟨v,rfl,n⟩:=f;go_wp2;go_ret2;exact⟨Aa rfl _ n,g⟩
end Ba
