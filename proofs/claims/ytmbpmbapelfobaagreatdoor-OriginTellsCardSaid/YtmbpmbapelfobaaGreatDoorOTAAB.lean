/- Lemmas. -/
import Derived.Test.YtmbpmbapelfobaaGreatDoorOTAAA
import Derived.Lib.IndexMore
set_option linter.unusedSimpArgs false
set_option linter.unusedVariables false
set_option maxRecDepth 100000
set_option maxHeartbeats 64000000
namespace Go.Proofs.YtmbpmbapelfobaaGreatDoor
open Tryz
namespace qy
open Go.RowKit lX
def dD:List UInt8→List (List UInt8)
 |[]=>[[]]
 |c::L=>if c=58 then[]::dD L else match dD L with
  |[]=>[[c]]
  |x::r=>(c::x)::r
theorem jJ:∀L:List UInt8,dD L≠[]
 |[]=>by simp[dD]
 |c::L=>by
  unfold dD
  split
  ·simp
  ·split<;>simp
theorem eF (L:List UInt8):dD (58::L)=[]::dD L:=by rw[dD,if_pos rfl]
theorem iU {c:UInt8} (h:c≠58) (L:List UInt8):∃x r,dD L=x::r∧dD (c::L)=(c::x)::r:=by
 cases e:dD L with
 |nil=>exact absurd e (jJ L)
 |cons x r=>exact⟨x,r,rfl,by rw[dD,if_neg h,e]⟩
theorem uS:∀(p:List UInt8),(∀c ∈ p,c≠58)→dD p=[p]
 |[],_=>rfl
 |c::p,h=>by
  obtain⟨x,r,e,a⟩:=iU (h c (by simp)) p
  rw[uS p fun d hd=>h d (by simp[hd])]at e
  injection e with e3 e4
  rw[a,←e3,←e4]
theorem tY:∀(p L:List UInt8),(∀c ∈ p,c≠58)→dD (p++58::L)=p::dD L
 |[],L,_=>eF L
 |c::p,L,h=>by
  obtain⟨x,r,e,a⟩:=iU (h c (by simp)) (p++58::L)
  rw[tY p L fun d hd=>h d (by simp[hd])]at e
  injection e with e3 e4
  rw[List.cons_append,a,←e3,←e4]
theorem Cc:∀(L:List UInt8),∃p,(∀c ∈ p,c≠58)∧((L=p∧dD L=[p])∨∃M,L=p++58::M∧dD L=p::dD M)
 |[]=>⟨[],by simp,.inl ⟨rfl,rfl⟩⟩
 | c :: L => by
  by_cases h:c=58
  ·subst h
   exact⟨[],by simp,.inr ⟨L,rfl,eF L⟩⟩
  ·obtain⟨p,f,g⟩:=Cc L
   have a:∀d ∈ c::p,d≠58:=by
    intro d e;rcases List.mem_cons.1 e with rfl|e
    ·exact h
    ·exact f d e
   refine⟨c::p,a,?_⟩;rcases g with⟨rfl,_⟩|⟨M,rfl,_⟩
   ·exact .inl ⟨rfl,uS _ a⟩
   ·exact .inr ⟨M,rfl,tY (c::p) M a⟩
theorem wE (L:List UInt8):(dD L).length≤L.length+1:=by
 induction L with
 |nil=>simp[dD]
 |cons c L ih=>
  by_cases h:c=58
  ·subst h;rw[eF];simp;omega
  obtain⟨x,r,e,a⟩:=iU h L;rw[e]at ih;rw[a];simp at ih⊢;omega
theorem xK:∀(L:List UInt8),∀x ∈ dD L,x.length≤L.length
 |[],x,h=>by simp[dD]at h;subst h;simp
 |c::L,x,h=>by
  by_cases hc:c=58
  ·subst hc
   rw[eF]at h
   rcases List.mem_cons.1 h with rfl|h
   ·simp
   ·have:=xK L x h;simp;omega
  ·obtain⟨y,r,e,a⟩:=iU hc L
   rw[a]at h
   rcases List.mem_cons.1 h with rfl|h
   ·have:=xK L y (by rw[e];simp);simp;omega
   ·have:=xK L x (by rw[e];simp[h]);simp;omega
def piece (p:List UInt8):Option Nat:=if 1≤p.length∧p.length≤4∧fV 16 p=true then some (val 16 p)else none
def small (p:List UInt8):Option Nat:=if 1≤p.length∧p.length≤3∧¬(1<p.length∧p.head?=some 48)∧fV 10 p=true∧val 10 p≤255 then some (val 10 p)else none
def smalls:List (List UInt8)→Option (List Nat)
 |[]=>some []
 |p::r=>match small p,smalls r with
  |some n,some l=>some (n::l)
  |_,_=>none
def two:List Nat→Option (List Nat)
 |[a,b,c,d]=>some [a*256+b,c*256+d]
 |_=>none
def kJ (p:List UInt8):Option (List Nat):=(smalls (dh p)).bind two
theorem piece_nil:piece []=none:=rfl
def lV (e : Bool) : List (List UInt8) → Option (List Nat)
 |[]=>some []
 |p::r=>if e=true∧r=[]∧p.contains 46=true then kJ p else match piece p with
  |none=>none
  |some n=>match lV e r with
   |none=>none
   |some l=>some (n::l)
def fC (e:Bool) (ps:List (List UInt8)):Option (List Nat):=if ps=[[]]then some []else lV e ps
def vK:List UInt8→Option (List UInt8×List UInt8)
 |[]=>none
 |[_]=>none
 |a::b::r=>if a=58∧b=58 then some ([],r)else match vK (b::r)with
  |none=>none
  |some p=>some (a::p.1,p.2)
def fill (a b:List Nat):List Nat:=a++List.replicate (8 - (a.length+b.length)) 0++b
def both (x y:Option (List Nat)) (l:List Nat):Option (List Nat):=match x,y with
 |some a,some b=>if l.length+a.length+b.length<8 then some (fill (l++a) b)else none
 |_,_=>none
def eight (x:Option (List Nat)) (l:List Nat):Option (List Nat):=match x with
 |some a=>if l.length+a.length=8 then some (l++a)else none
 |none=>none
def six (s:List UInt8):Option (List Nat):=match vK s with
 |none=>eight (lV true (dD s)) []
 |some p=>both (fC false (dD p.1)) (fC true (dD p.2)) []
def xY:List (List UInt8)→Option (List (List UInt8)×List (List UInt8))
 |[]=>none
 |[_]=>none
 |p::q::r=>if p=[]then some ([],q::r)else match xY (q::r)with
  |none=>none
  |some x=>some (p::x.1,x.2)
def OC:List (List UInt8)→Option (List (List UInt8)×List (List UInt8))
 |[]=>none
 |p::r=>match xY r with
  |none=>none
  |some x=>some (p::x.1,x.2)
theorem EN (p:List UInt8) (a:p≠[]) (r:List (List UInt8)):xY (p::r)=OC (p::r):=by
 cases r with
 |nil=>rfl
 |cons q r=>rw[xY,if_neg a];rfl
theorem zH (r:List (List UInt8)) (a:r≠[]):xY ([]::r)=some ([],r):=by
 cases r with
 |nil=>exact absurd rfl a
 |cons q r=>rw[xY,if_pos rfl]
theorem BA:∀s:List UInt8,OC (dD s)=match vK s with
  |none=>none
  |some p=>some (dD p.1,dD p.2)
 |[]=>rfl
 |[c]=>by
  by_cases h:c=58
  ·subst h;rfl
  ·obtain⟨x,r,e,f⟩:=iU h []
   rw[f]
   simp[dD]at e
   rw[e.2]
   rfl
 | a ::b::r=>by
  have d:=BA (b::r)
  rw[vK]
  by_cases ha:a=58
  ·subst ha
   rw[eF]
   by_cases hb:b=58
   ·subst hb
    rw[if_pos ⟨rfl,rfl⟩,eF]
    show(match xY ([]::dD r)with|none=>none|some x=>some ([]::x.1,x.2))=_
    rw[zH _ (jJ r)]
    rfl
   ·rw[if_neg (by simp[hb])]
    obtain⟨x,t,e,f⟩:=iU hb r
    rw[f]at d⊢
    show(match xY ((b::x)::t)with|none=>none|some x=>some ([]::x.1,x.2))=_
    rw[EN _ (by simp),d]
    cases hc:vK (b::r)with
    |none=>rfl
    |some p=>simp[eF]
  ·rw [if_neg (by simp [ha])]
   obtain⟨x,t,e,f⟩:=iU ha (b::r)
   rw[e]at d
   rw[f]
   replace d:(match xY t with|none=>none|some y=>some (x::y.1,y.2))=_:=d
   show(match xY t with|none=>none|some y=>some ((a::x)::y.1,y.2))=_
   cases hc:vK (b::r)with
   |none=>
    rw[hc]at d
    cases hf:xY t with
    |none=>rfl
    |some y=>rw[hf]at d;simp at d
   |some p=>
    rw[hc]at d
    cases hf:xY t with
    |none=>rw[hf]at d;simp at d
    |some y=>
     rw[hf]at d
     simp at d⊢
     obtain⟨u,v,i,g⟩:=iU ha p.1
     rw[g]
     rw[i]at d
     injection d.1 with g1 g2
     exact⟨by rw[g1,g2],d.2⟩
def R : List (List UInt8) → List Nat → Option Nat → Option (List Nat × Option Nat)
 |[],l,g=>some (l,g)
 | p ::r,l,g=>if p=[]∧r=[]then some (l,g)else if l.length=8 then none else if p=[]then(match g with
     |some _=>none
     |none=>R r l (some l.length))
  else if r=[]then(if p.contains 46=true then(match kJ p with
    |some x=>if l.length≤6 then some (l++x,g)else none
    |none=>none)
   else match piece p with
    |some n=>some (l++[n],g)
    |none=>none)
  else match piece p with
   |some n=>if r=[[]]then none else R r (l++[n]) g
   |none=>none
def fin:Option (List Nat×Option Nat)→Option (List Nat)
 |none=>none
 |some (l,none)=>if l.length=8 then some l else none
 |some (l,some g)=>if l.length≤7 then some (fill (l.take g) (l.drop g))else none
def doc (s:List UInt8):Option (List Nat×Option Nat):=match s with
 |[]=>R (dD []) [] none
 | a ::r=>if a=58 then(match r with
     |[]=>none
     |b::r=>if b=58 then R (dD r) [] (some 0)else none)
  else R (dD (a::r)) [] none
theorem Eb {l x:List Nat} (h:two l=some x):x.length=2:=by
 unfold two at h;split at h
 ·injection h with h;subst h;rfl
 cases h
theorem Ae {p:List UInt8} {x:List Nat} (h:kJ p=some x):x.length=2:=by
 unfold kJ at h;cases e:smalls (dh p)with
 |none=>rw[e]at h;cases h
 |some l=>rw[e]at h;exact Eb h
theorem Q8 (e:Bool) (p:List UInt8) (r:List (List UInt8)) (x:List Nat) (h:lV e (p::r)=some x):1≤x.length:=by
 unfold lV at h;split at h
 ·have:=Ae h;omega
 split at h
 ·cases h
 split at h
 ·cases h
 injection h with h;subst h;simp
theorem wI (e:Bool) (p q:List UInt8) (r:List (List UInt8)):lV e (p::q::r)=match piece p with
  |none=>none
  |some n=>match lV e (q::r)with
   |none=>none
   |some l=>some (n::l):=by rw[lV,if_neg (by simp)]
theorem BQ (p:List UInt8) (r:List (List UInt8)):lV false (p::r)=match piece p with
  |none=>none
  |some n=>match lV false r with
   |none=>none
   |some l=>some (n::l):=by rw[lV,if_neg (by simp)]
theorem vZ (l:List Nat) (g:Nat):fin (some (l,some g))=if l.length≤7 then some (fill (l.take g) (l.drop g))else none:=rfl
theorem zG (l:List Nat):fin (some (l,none))=if l.length=8 then some l else none:=rfl
theorem mG (e:Bool) {ps:List (List UInt8)} (h:ps≠[[]]):fC e ps=lV e ps:=if_neg h
theorem U6 : ∀ (ps : List (List UInt8)) (l : List Nat) (g : Nat), ps ≠ [] → g ≤ l.length → fin (R ps l (some g)) = match fC true ps with
  |some b=>if l.length+b.length<8 then some (fill (l.take g) (l.drop g++b))else none
  |none=>none
 |[],_,_,h,_=>absurd rfl h
 | [p], l, g, _, hg => by
  rw[R]
  by_cases hp:p=[]
  ·subst hp
   rw[if_pos ⟨rfl,rfl⟩,vZ,fC,if_pos rfl]
   simp only[List.length_nil,Nat.add_zero,List.append_nil]
   by_cases h7:l.length≤7
   ·rw[if_pos h7,if_pos (by omega)]
   ·rw[if_neg h7,if_neg (by omega)]
  ·rw [if_neg (by simp[hp]),mG _ (by simp[hp]),if_neg hp,if_pos rfl]
   by_cases h8:l.length=8
   ·rw[if_pos h8]
    cases h:lV true [p]with
    |none=>rfl
    |some x=>simp only[];rw[if_neg (by omega)];rfl
   ·rw [if_neg h8,lV]
    by_cases hd:p.contains 46=true
    ·rw [if_pos hd, if_pos ⟨rfl, rfl, hd⟩]
     cases hq:kJ p with
     |none=>rfl
     |some x=>
      have:=Ae hq
      simp only[]
      by_cases h6:l.length≤6
      ·rw[if_pos h6,vZ,List.length_append,List.take_append_of_le_length hg,List.drop_append_of_le_length hg,this]
       by_cases h5:l.length+2<8
       ·rw[if_pos (by omega),if_pos h5]
       ·rw[if_neg (by omega),if_neg h5]
      ·rw[if_neg h6,if_neg (by omega)]
       rfl
    ·rw[if_neg hd,if_neg (by simp;simpa using hd)]
     cases hq:piece p with
     |none=>rfl
     |some n=>
      simp only[lV]
      rw[vZ,List.length_append,List.take_append_of_le_length hg,List.drop_append_of_le_length hg]
      simp only[List.length_cons,List.length_nil,Nat.zero_add]
      by_cases h7:l.length+1≤7
      ·rw[if_pos h7,if_pos (by omega)]
      ·rw[if_neg h7,if_neg (by omega)]
 | p :: q :: r, l, g, _, hg => by
  rw[R,if_neg (by simp),mG _ (by simp),wI]
  by_cases h8:l.length=8
  ·rw[if_pos h8]
   cases hq:piece p with
   |none=>rfl
   |some n=>cases lV true (q::r)with
    |none=>rfl
    |some x=>simp only[];rw[if_neg (by omega)];rfl
  ·rw [if_neg h8]
   by_cases hp:p=[]
   ·subst hp
    rw[if_pos rfl]
    rfl
   ·rw [if_neg hp,if_neg (by simp)]
    cases hq:piece p with
    |none=>rfl
    | some n=>
     simp only[]
     by_cases hr:q::r=[[]]
     ·rw[if_pos hr,hr]
      rfl
     ·rw[if_neg hr,U6 (q::r) (l++[n]) g (by simp) (by simp;omega),mG _ hr]
      cases lV true (q::r)with
      |none=>rfl
      |some x=>
       simp only[List.length_append,List.length_cons,List.length_nil,List.take_append_of_le_length hg,List.drop_append_of_le_length hg,List.append_assoc,List.cons_append,List.nil_append]
       by_cases h7:l.length+(x.length+1)<8
       ·rw[if_pos (by omega),if_pos (by omega)]
       ·rw[if_neg (by omega),if_neg (by omega)]
def CB (ps:List (List UInt8)) (l:List Nat):Option (List Nat):=match xY ps with
 |none=>eight (lV true ps) l
 |some x=>both (lV false x.1) (fC true x.2) l
theorem Qb:∀(ps:List (List UInt8)) (l:List Nat),ps≠[]→(ps=[[]]→l=[])→fin (R ps l none)=CB ps l
 |[],_,h,_=>absurd rfl h
 | [p], l, _, hl => by
  rw[R]
  show _=eight (lV true [p]) l
  by_cases hp:p=[]
  ·subst hp
   rw[hl rfl]
   rfl
  ·rw [if_neg (by simp[hp]),if_neg hp,if_pos rfl]
   by_cases a:l.length=8
   ·rw[if_pos a]
    cases h:lV true [p]with
    |none=>rfl
    |some x=>have:=Q8 _ _ _ _ h;unfold eight;simp only[];rw[if_neg (by omega)];rfl
   ·rw [if_neg a,lV]
    by_cases hd:p.contains 46=true
    ·rw [if_pos hd, if_pos ⟨rfl, rfl, hd⟩]
     cases hq:kJ p with
     |none=>rfl
     |some x=>
      have:=Ae hq
      unfold eight
      simp only[]
      by_cases h6:l.length≤6
      ·rw[if_pos h6,zG,List.length_append]
      ·rw[if_neg h6,if_neg (by omega)]
       rfl
    ·rw[if_neg hd,if_neg (by simp;simpa using hd)]
     cases hq:piece p with
     |none=>rfl
     |some n=>
      simp only[lV]
      rw[zG,List.length_append]
      rfl
 | p :: q :: r, l, _, _ => by
  rw[R,if_neg (by simp)]
  unfold CB
  by_cases hp:p=[]
  ·subst hp
   rw[if_pos rfl,zH _ (by simp)]
   show _=both (some []) (fC true (q::r)) l
   by_cases a:l.length=8
   ·rw[if_pos a]
    cases hq:fC true (q::r)with
    |none=>rfl
    |some x=>
     show _=if l.length+([]:List Nat).length+x.length<8 then some (fill (l++[]) x)else none
     rw[if_neg (by omega)]
     rfl
   ·rw[if_neg a]
    rw[U6 (q::r) l l.length (by simp) (Nat.le_refl _)]
    cases hq:fC true (q::r)with
    |none=>rfl
    |some x=>simp[both]
  ·rw [if_neg hp,xY,if_neg hp]
   have c:l.length=8∨piece p=none→(match (match xY (q::r)with|none=>none|some x=>some (p::x.1,x.2))with
     |none=>eight (lV true (p::q::r)) l
     |some x=>both (lV false x.1) (fC true x.2) l)=none:=by
    rintro(a|hq)
    ·cases xY (q::r)with
     |none=>
      simp only[];cases h:lV true (p::q::r)with
      |none=>rfl
      |some x=>have:=Q8 _ _ _ _ h;unfold eight;simp only[];rw[if_neg (by omega)]
     |some y=>
      simp only[];unfold both;split
      ·rw[if_neg (by omega)]
      ·rfl
    ·cases xY (q::r)with
     |none=>simp only[];rw[wI,hq];rfl
     |some y=>simp only[];rw[BQ,hq];rfl
   by_cases a:l.length=8
   ·rw[if_pos a,c (.inl a)];rfl
   ·rw [if_neg a,if_neg (show ¬(q::r=[])by simp)];cases hq:piece p with
    |none=>rw[c (.inr hq)];rfl
    | some n=>
     simp only[];by_cases hr:q::r=[[]]
     ·rw[if_pos hr,hr];show _=eight (lV true [p,[]]) l;rw[wI,hq];rfl
     ·rw [if_neg hr,Qb (q::r) (l++[n]) (by simp) (fun h=>absurd h hr)];unfold CB;cases xY (q::r)with
      |none=>
       simp only[];rw[wI,hq];simp only[];cases lV true (q::r)with
       |none=>rfl
       |some x=>
        unfold eight;simp only[List.length_append,List.length_cons,List.length_nil,List.append_assoc,List.cons_append,List.nil_append];by_cases h7:l.length+(x.length+1)=8
        ·rw[if_pos (by omega),if_pos h7]
        ·rw[if_neg (by omega),if_neg h7]
      | some y=>
       simp only[];rw[BQ,hq];simp only[];cases lV false y.1 with
       |none=>rfl
       |some x=>
        cases fC true y.2 with
        |none=>rfl
        |some z=>
         unfold both;simp only[List.length_append,List.length_cons,List.length_nil,List.append_assoc,List.cons_append,List.nil_append];by_cases h7:l.length+(x.length+1)+z.length<8
         ·rw[if_pos (by omega),if_pos h7]
         ·rw[if_neg (by omega),if_neg h7]
theorem Y8 (s:List UInt8):fin (doc s)=six s:=by
 have H:=BA s;have c:six s=match OC (dD s)with
  |none=>eight (lV true (dD s)) []
  |some p=>both (fC false p.1) (fC true p.2) []:=by
  rw[H];unfold six;cases vK s<;>rfl
 rw[c];cases s with
 |nil=>rfl
 | cons a r=>
  unfold doc;simp only[];by_cases ha:a=58
  ·subst ha;rw[if_pos rfl,eF];cases r with
   |nil=>rfl
   | cons b r=>
    simp only[];by_cases hb:b=58
    ·subst hb;rw[if_pos rfl,eF];show _=match (match xY ([]::dD r)with|none=>none|some x=>some ([]::x.1,x.2))with
      |none=>eight (lV true ([]::[]::dD r)) []
      |some p=>both (fC false p.1) (fC true p.2) []
     rw[zH _ (jJ r),U6 _ _ 0 (jJ r) (Nat.zero_le _)];show _=both (some []) (fC true (dD r)) [];unfold both;cases fC true (dD r)with
     |none=>rfl
     |some x=>simp
    rw[if_neg hb];obtain⟨x,t,e,d⟩:=iU hb r;rw[d];show none=match (match xY ((b::x)::t)with|none=>none|some x=>some ([]::x.1,x.2))with
     |none=>eight (lV true ([]::(b::x)::t)) []
     |some p=>both (fC false p.1) (fC true p.2) []
    rw[EN _ (by simp)];show none=match (match (match xY t with|none=>none|some z=>some ((b::x)::z.1,z.2))with|none=>none|some x=>some ([]::x.1,x.2))with
     |none=>eight (lV true ([]::(b::x)::t)) []
     |some p=>both (fC false p.1) (fC true p.2) []
    cases xY t with
    |none=>
     simp only[];rw[wI,piece_nil];rfl
    |some y=>
     simp only[];rw[mG _ (by simp),BQ,piece_nil];rfl
  rw[if_neg ha];obtain⟨x,t,e,d⟩:=iU ha r;rw[Qb _ _ (jJ _) (fun _=>rfl),d];unfold CB;rw[EN _ (by simp)];show(match (match xY t with|none=>none|some z=>some ((a::x)::z.1,z.2))with
    |none=>eight (lV true ((a::x)::t)) []
    |some p=>both (lV false p.1) (fC true p.2) [])=match (match xY t with|none=>none|some z=>some ((a::x)::z.1,z.2))with
    |none=>eight (lV true ((a::x)::t)) []
    |some p=>both (fC false p.1) (fC true p.2) []
  cases xY t with
  |none=>rfl
  |some y=>
   simp only[];rw[mG false (ps:=(a::x)::y.1) (by simp)]
end qy
