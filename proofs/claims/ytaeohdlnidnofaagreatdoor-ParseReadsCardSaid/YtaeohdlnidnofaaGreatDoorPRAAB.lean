/- Lemmas. -/
import Derived.Test.YtaeohdlnidnofaaGreatDoorPRAAA
import Derived.Lib.IndexMore
set_option linter.unusedSimpArgs false
set_option linter.unusedVariables false
set_option maxRecDepth 100000
set_option maxHeartbeats 64000000
namespace Go.Proofs.YtaeohdlnidnofaaGreatDoor
open Tryz
namespace qm
open Go.RowKit lS
def dB:List UInt8→List (List UInt8)
 |[]=>[[]]
 |c::L=>if c=58 then[]::dB L else match dB L with
  |[]=>[[c]]
  |x::r=>(c::x)::r
theorem jI:∀L:List UInt8,dB L≠[]
 |[]=>by simp[dB]
 |c::L=>by
  unfold dB
  split
  ·simp
  ·split<;>simp
theorem eY (L:List UInt8):dB (58::L)=[]::dB L:=by rw[dB,if_pos rfl]
theorem iT {c:UInt8} (h:c≠58) (L:List UInt8):∃x r,dB L=x::r∧dB (c::L)=(c::x)::r:=by
 cases e:dB L with
 |nil=>exact absurd e (jI L)
 |cons x r=>exact⟨x,r,rfl,by rw[dB,if_neg h,e]⟩
theorem uY:∀(p:List UInt8),(∀c ∈ p,c≠58)→dB p=[p]
 |[],_=>rfl
 |c::p,h=>by
  obtain⟨x,r,e,a⟩:=iT (h c (by simp)) p
  rw[uY p fun d hd=>h d (by simp[hd])]at e
  injection e with e3 e4
  rw[a,←e3,←e4]
theorem tY:∀(p L:List UInt8),(∀c ∈ p,c≠58)→dB (p++58::L)=p::dB L
 |[],L,_=>eY L
 |c::p,L,h=>by
  obtain⟨x,r,e,a⟩:=iT (h c (by simp)) (p++58::L)
  rw[tY p L fun d hd=>h d (by simp[hd])]at e
  injection e with e3 e4
  rw[List.cons_append,a,←e3,←e4]
theorem Ce:∀(L:List UInt8),∃p,(∀c ∈ p,c≠58)∧((L=p∧dB L=[p])∨∃M,L=p++58::M∧dB L=p::dB M)
 |[]=>⟨[],by simp,.inl ⟨rfl,rfl⟩⟩
 | c :: L => by
  by_cases h:c=58
  ·subst h
   exact⟨[],by simp,.inr ⟨L,rfl,eY L⟩⟩
  ·obtain⟨p,f,g⟩:=Ce L
   have a:∀d ∈ c::p,d≠58:=by
    intro d e;rcases List.mem_cons.1 e with rfl|e
    ·exact h
    ·exact f d e
   refine⟨c::p,a,?_⟩;rcases g with⟨rfl,_⟩|⟨M,rfl,_⟩
   ·exact .inl ⟨rfl,uY _ a⟩
   ·exact .inr ⟨M,rfl,tY (c::p) M a⟩
theorem wL (L:List UInt8):(dB L).length≤L.length+1:=by
 induction L with
 |nil=>simp[dB]
 |cons c L ih=>
  by_cases h:c=58
  ·subst h;rw[eY];simp;omega
  obtain⟨x,r,e,a⟩:=iT h L;rw[e]at ih;rw[a];simp at ih⊢;omega
theorem yg:∀(L:List UInt8),∀x ∈ dB L,x.length≤L.length
 |[],x,h=>by simp[dB]at h;subst h;simp
 |c::L,x,h=>by
  by_cases hc:c=58
  ·subst hc
   rw[eY]at h
   rcases List.mem_cons.1 h with rfl|h
   ·simp
   ·have:=yg L x h;simp;omega
  ·obtain⟨y,r,e,a⟩:=iT hc L
   rw[a]at h
   rcases List.mem_cons.1 h with rfl|h
   ·have:=yg L y (by rw[e];simp);simp;omega
   ·have:=yg L x (by rw[e];simp[h]);simp;omega
def piece (p:List UInt8):Option Nat:=if 1≤p.length∧p.length≤4∧dM 16 p=true then some (val 16 p)else none
def small (p:List UInt8):Option Nat:=if 1≤p.length∧p.length≤3∧¬(1<p.length∧p.head?=some 48)∧dM 10 p=true∧val 10 p≤255 then some (val 10 p)else none
def smalls:List (List UInt8)→Option (List Nat)
 |[]=>some []
 |p::r=>match small p,smalls r with
  |some n,some l=>some (n::l)
  |_,_=>none
def two:List Nat→Option (List Nat)
 |[a,b,c,d]=>some [a*256+b,c*256+d]
 |_=>none
def kF (p:List UInt8):Option (List Nat):=(smalls (cO p)).bind two
theorem piece_nil:piece []=none:=rfl
def lN (e : Bool) : List (List UInt8) → Option (List Nat)
 |[]=>some []
 |p::r=>if e=true∧r=[]∧p.contains 46=true then kF p else match piece p with
  |none=>none
  |some n=>match lN e r with
   |none=>none
   |some l=>some (n::l)
def fG (e:Bool) (ps:List (List UInt8)):Option (List Nat):=if ps=[[]]then some []else lN e ps
def vS:List UInt8→Option (List UInt8×List UInt8)
 |[]=>none
 |[_]=>none
 |a::b::r=>if a=58∧b=58 then some ([],r)else match vS (b::r)with
  |none=>none
  |some p=>some (a::p.1,p.2)
def fill (a b:List Nat):List Nat:=a++List.replicate (8 - (a.length+b.length)) 0++b
def both (x y:Option (List Nat)) (l:List Nat):Option (List Nat):=match x,y with
 |some a,some b=>if l.length+a.length+b.length<8 then some (fill (l++a) b)else none
 |_,_=>none
def eight (x:Option (List Nat)) (l:List Nat):Option (List Nat):=match x with
 |some a=>if l.length+a.length=8 then some (l++a)else none
 |none=>none
def six (s:List UInt8):Option (List Nat):=match vS s with
 |none=>eight (lN true (dB s)) []
 |some p=>both (fG false (dB p.1)) (fG true (dB p.2)) []
def yB:List (List UInt8)→Option (List (List UInt8)×List (List UInt8))
 |[]=>none
 |[_]=>none
 |p::q::r=>if p=[]then some ([],q::r)else match yB (q::r)with
  |none=>none
  |some x=>some (p::x.1,x.2)
def Oa:List (List UInt8)→Option (List (List UInt8)×List (List UInt8))
 |[]=>none
 |p::r=>match yB r with
  |none=>none
  |some x=>some (p::x.1,x.2)
theorem EK (p:List UInt8) (a:p≠[]) (r:List (List UInt8)):yB (p::r)=Oa (p::r):=by
 cases r with
 |nil=>rfl
 |cons q r=>rw[yB,if_neg a];rfl
theorem zW (r:List (List UInt8)) (a:r≠[]):yB ([]::r)=some ([],r):=by
 cases r with
 |nil=>exact absurd rfl a
 |cons q r=>rw[yB,if_pos rfl]
theorem BG:∀s:List UInt8,Oa (dB s)=match vS s with
  |none=>none
  |some p=>some (dB p.1,dB p.2)
 |[]=>rfl
 |[c]=>by
  by_cases h:c=58
  ·subst h;rfl
  ·obtain⟨x,r,e,f⟩:=iT h []
   rw[f]
   simp[dB]at e
   rw[e.2]
   rfl
 | a ::b::r=>by
  have d:=BG (b::r)
  rw[vS]
  by_cases ha:a=58
  ·subst ha
   rw[eY]
   by_cases hb:b=58
   ·subst hb
    rw[if_pos ⟨rfl,rfl⟩,eY]
    show(match yB ([]::dB r)with|none=>none|some x=>some ([]::x.1,x.2))=_
    rw[zW _ (jI r)]
    rfl
   ·rw[if_neg (by simp[hb])]
    obtain⟨x,t,e,f⟩:=iT hb r
    rw[f]at d⊢
    show(match yB ((b::x)::t)with|none=>none|some x=>some ([]::x.1,x.2))=_
    rw[EK _ (by simp),d]
    cases hc:vS (b::r)with
    |none=>rfl
    |some p=>simp[eY]
  ·rw [if_neg (by simp [ha])]
   obtain⟨x,t,e,f⟩:=iT ha (b::r)
   rw[e]at d
   rw[f]
   replace d:(match yB t with|none=>none|some y=>some (x::y.1,y.2))=_:=d
   show(match yB t with|none=>none|some y=>some ((a::x)::y.1,y.2))=_
   cases hc:vS (b::r)with
   |none=>
    rw[hc]at d
    cases hf:yB t with
    |none=>rfl
    |some y=>rw[hf]at d;simp at d
   |some p=>
    rw[hc]at d
    cases hf:yB t with
    |none=>rw[hf]at d;simp at d
    |some y=>
     rw[hf]at d
     simp at d⊢
     obtain⟨u,v,i,g⟩:=iT ha p.1
     rw[g]
     rw[i]at d
     injection d.1 with g1 g2
     exact⟨by rw[g1,g2],d.2⟩
def R : List (List UInt8) → List Nat → Option Nat → Option (List Nat × Option Nat)
 |[],l,g=>some (l,g)
 | p ::r,l,g=>if p=[]∧r=[]then some (l,g)else if l.length=8 then none else if p=[]then(match g with
     |some _=>none
     |none=>R r l (some l.length))
  else if r=[]then(if p.contains 46=true then(match kF p with
    |some x=>if l.length≤6 then some (l++x,g)else none
    |none=>none)
   else match piece p with
    |some n=>some (l++[n],g)
    |none=>none)
  else match piece p with
   |some n=>if r=[[]]then none else R r (l++[n]) g
   |none=>none
def fin:Option (List Nat×Option Nat)→Option (List Nat)
 |none=>none
 |some (l,none)=>if l.length=8 then some l else none
 |some (l,some g)=>if l.length≤7 then some (fill (l.take g) (l.drop g))else none
def doc (s:List UInt8):Option (List Nat×Option Nat):=match s with
 |[]=>R (dB []) [] none
 | a ::r=>if a=58 then(match r with
     |[]=>none
     |b::r=>if b=58 then R (dB r) [] (some 0)else none)
  else R (dB (a::r)) [] none
theorem D8 {l x:List Nat} (h:two l=some x):x.length=2:=by
 unfold two at h;split at h
 ·injection h with h;subst h;rfl
 cases h
theorem Aw {p:List UInt8} {x:List Nat} (h:kF p=some x):x.length=2:=by
 unfold kF at h;cases e:smalls (cO p)with
 |none=>rw[e]at h;cases h
 |some l=>rw[e]at h;exact D8 h
theorem Qy (e:Bool) (p:List UInt8) (r:List (List UInt8)) (x:List Nat) (h:lN e (p::r)=some x):1≤x.length:=by
 unfold lN at h;split at h
 ·have:=Aw h;omega
 split at h
 ·cases h
 split at h
 ·cases h
 injection h with h;subst h;simp
theorem wQ (e:Bool) (p q:List UInt8) (r:List (List UInt8)):lN e (p::q::r)=match piece p with
  |none=>none
  |some n=>match lN e (q::r)with
   |none=>none
   |some l=>some (n::l):=by rw[lN,if_neg (by simp)]
theorem BR (p:List UInt8) (r:List (List UInt8)):lN false (p::r)=match piece p with
  |none=>none
  |some n=>match lN false r with
   |none=>none
   |some l=>some (n::l):=by rw[lN,if_neg (by simp)]
theorem wI (l:List Nat) (g:Nat):fin (some (l,some g))=if l.length≤7 then some (fill (l.take g) (l.drop g))else none:=rfl
theorem zV (l:List Nat):fin (some (l,none))=if l.length=8 then some l else none:=rfl
theorem l7 (e:Bool) {ps:List (List UInt8)} (h:ps≠[[]]):fG e ps=lN e ps:=if_neg h
theorem Ue : ∀ (ps : List (List UInt8)) (l : List Nat) (g : Nat), ps ≠ [] → g ≤ l.length → fin (R ps l (some g)) = match fG true ps with
  |some b=>if l.length+b.length<8 then some (fill (l.take g) (l.drop g++b))else none
  |none=>none
 |[],_,_,h,_=>absurd rfl h
 | [p], l, g, _, hg => by
  rw[R]
  by_cases hp:p=[]
  ·subst hp
   rw[if_pos ⟨rfl,rfl⟩,wI,fG,if_pos rfl]
   simp only[List.length_nil,Nat.add_zero,List.append_nil]
   by_cases h7:l.length≤7
   ·rw[if_pos h7,if_pos (by omega)]
   ·rw[if_neg h7,if_neg (by omega)]
  ·rw [if_neg (by simp[hp]),l7 _ (by simp[hp]),if_neg hp,if_pos rfl]
   by_cases h8:l.length=8
   ·rw[if_pos h8]
    cases h:lN true [p]with
    |none=>rfl
    |some x=>simp only[];rw[if_neg (by omega)];rfl
   ·rw [if_neg h8,lN]
    by_cases hd:p.contains 46=true
    ·rw [if_pos hd, if_pos ⟨rfl, rfl, hd⟩]
     cases hq:kF p with
     |none=>rfl
     |some x=>
      have:=Aw hq
      simp only[]
      by_cases h6:l.length≤6
      ·rw[if_pos h6,wI,List.length_append,List.take_append_of_le_length hg,List.drop_append_of_le_length hg,this]
       by_cases h5:l.length+2<8
       ·rw[if_pos (by omega),if_pos h5]
       ·rw[if_neg (by omega),if_neg h5]
      ·rw[if_neg h6,if_neg (by omega)]
       rfl
    ·rw[if_neg hd,if_neg (by simp;simpa using hd)]
     cases hq:piece p with
     |none=>rfl
     |some n=>
      simp only[lN]
      rw[wI,List.length_append,List.take_append_of_le_length hg,List.drop_append_of_le_length hg]
      simp only[List.length_cons,List.length_nil,Nat.zero_add]
      by_cases h7:l.length+1≤7
      ·rw[if_pos h7,if_pos (by omega)]
      ·rw[if_neg h7,if_neg (by omega)]
 | p :: q :: r, l, g, _, hg => by
  rw[R,if_neg (by simp),l7 _ (by simp),wQ]
  by_cases h8:l.length=8
  ·rw[if_pos h8]
   cases hq:piece p with
   |none=>rfl
   |some n=>cases lN true (q::r)with
    |none=>rfl
    |some x=>simp only[];rw[if_neg (by omega)];rfl
  ·rw [if_neg h8]
   by_cases hp:p=[]
   ·subst hp
    rw[if_pos rfl]
    rfl
   ·rw [if_neg hp,if_neg (by simp)]
    cases hq:piece p with
    |none=>rfl
    | some n=>
     simp only[]
     by_cases hr:q::r=[[]]
     ·rw[if_pos hr,hr]
      rfl
     ·rw[if_neg hr,Ue (q::r) (l++[n]) g (by simp) (by simp;omega),l7 _ hr]
      cases lN true (q::r)with
      |none=>rfl
      |some x=>
       simp only[List.length_append,List.length_cons,List.length_nil,List.take_append_of_le_length hg,List.drop_append_of_le_length hg,List.append_assoc,List.cons_append,List.nil_append]
       by_cases h7:l.length+(x.length+1)<8
       ·rw[if_pos (by omega),if_pos (by omega)]
       ·rw[if_neg (by omega),if_neg (by omega)]
def CB (ps:List (List UInt8)) (l:List Nat):Option (List Nat):=match yB ps with
 |none=>eight (lN true ps) l
 |some x=>both (lN false x.1) (fG true x.2) l
theorem Px:∀(ps:List (List UInt8)) (l:List Nat),ps≠[]→(ps=[[]]→l=[])→fin (R ps l none)=CB ps l
 |[],_,h,_=>absurd rfl h
 | [p], l, _, hl => by
  rw[R]
  show _=eight (lN true [p]) l
  by_cases hp:p=[]
  ·subst hp
   rw[hl rfl]
   rfl
  ·rw [if_neg (by simp[hp]),if_neg hp,if_pos rfl]
   by_cases a:l.length=8
   ·rw[if_pos a]
    cases h:lN true [p]with
    |none=>rfl
    |some x=>have:=Qy _ _ _ _ h;unfold eight;simp only[];rw[if_neg (by omega)];rfl
   ·rw [if_neg a,lN]
    by_cases hd:p.contains 46=true
    ·rw [if_pos hd, if_pos ⟨rfl, rfl, hd⟩]
     cases hq:kF p with
     |none=>rfl
     |some x=>
      have:=Aw hq
      unfold eight
      simp only[]
      by_cases h6:l.length≤6
      ·rw[if_pos h6,zV,List.length_append]
      ·rw[if_neg h6,if_neg (by omega)]
       rfl
    ·rw[if_neg hd,if_neg (by simp;simpa using hd)]
     cases hq:piece p with
     |none=>rfl
     |some n=>
      simp only[lN]
      rw[zV,List.length_append]
      rfl
 | p :: q :: r, l, _, _ => by
  rw[R,if_neg (by simp)]
  unfold CB
  by_cases hp:p=[]
  ·subst hp
   rw[if_pos rfl,zW _ (by simp)]
   show _=both (some []) (fG true (q::r)) l
   by_cases a:l.length=8
   ·rw[if_pos a]
    cases hq:fG true (q::r)with
    |none=>rfl
    |some x=>
     show _=if l.length+([]:List Nat).length+x.length<8 then some (fill (l++[]) x)else none
     rw[if_neg (by omega)]
     rfl
   ·rw[if_neg a]
    rw[Ue (q::r) l l.length (by simp) (Nat.le_refl _)]
    cases hq:fG true (q::r)with
    |none=>rfl
    |some x=>simp[both]
  ·rw [if_neg hp,yB,if_neg hp]
   have c:l.length=8∨piece p=none→(match (match yB (q::r)with|none=>none|some x=>some (p::x.1,x.2))with
     |none=>eight (lN true (p::q::r)) l
     |some x=>both (lN false x.1) (fG true x.2) l)=none:=by
    rintro(a|hq)
    ·cases yB (q::r)with
     |none=>
      simp only[];cases h:lN true (p::q::r)with
      |none=>rfl
      |some x=>have:=Qy _ _ _ _ h;unfold eight;simp only[];rw[if_neg (by omega)]
     |some y=>
      simp only[];unfold both;split
      ·rw[if_neg (by omega)]
      ·rfl
    ·cases yB (q::r)with
     |none=>simp only[];rw[wQ,hq];rfl
     |some y=>simp only[];rw[BR,hq];rfl
   by_cases a:l.length=8
   ·rw[if_pos a,c (.inl a)];rfl
   ·rw [if_neg a,if_neg (show ¬(q::r=[])by simp)];cases hq:piece p with
    |none=>rw[c (.inr hq)];rfl
    | some n=>
     simp only[];by_cases hr:q::r=[[]]
     ·rw[if_pos hr,hr];show _=eight (lN true [p,[]]) l;rw[wQ,hq];rfl
     ·rw [if_neg hr,Px (q::r) (l++[n]) (by simp) (fun h=>absurd h hr)];unfold CB;cases yB (q::r)with
      |none=>
       simp only[];rw[wQ,hq];simp only[];cases lN true (q::r)with
       |none=>rfl
       |some x=>
        unfold eight;simp only[List.length_append,List.length_cons,List.length_nil,List.append_assoc,List.cons_append,List.nil_append];by_cases h7:l.length+(x.length+1)=8
        ·rw[if_pos (by omega),if_pos h7]
        ·rw[if_neg (by omega),if_neg h7]
      | some y=>
       simp only[];rw[BR,hq];simp only[];cases lN false y.1 with
       |none=>rfl
       |some x=>
        cases fG true y.2 with
        |none=>rfl
        |some z=>
         unfold both;simp only[List.length_append,List.length_cons,List.length_nil,List.append_assoc,List.cons_append,List.nil_append];by_cases h7:l.length+(x.length+1)+z.length<8
         ·rw[if_pos (by omega),if_pos h7]
         ·rw[if_neg (by omega),if_neg h7]
theorem XP (s:List UInt8):fin (doc s)=six s:=by
 have H:=BG s;have c:six s=match Oa (dB s)with
  |none=>eight (lN true (dB s)) []
  |some p=>both (fG false p.1) (fG true p.2) []:=by
  rw[H];unfold six;cases vS s<;>rfl
 rw[c];cases s with
 |nil=>rfl
 | cons a r=>
  unfold doc;simp only[];by_cases ha:a=58
  ·subst ha;rw[if_pos rfl,eY];cases r with
   |nil=>rfl
   | cons b r=>
    simp only[];by_cases hb:b=58
    ·subst hb;rw[if_pos rfl,eY];show _=match (match yB ([]::dB r)with|none=>none|some x=>some ([]::x.1,x.2))with
      |none=>eight (lN true ([]::[]::dB r)) []
      |some p=>both (fG false p.1) (fG true p.2) []
     rw[zW _ (jI r),Ue _ _ 0 (jI r) (Nat.zero_le _)];show _=both (some []) (fG true (dB r)) [];unfold both;cases fG true (dB r)with
     |none=>rfl
     |some x=>simp
    rw[if_neg hb];obtain⟨x,t,e,d⟩:=iT hb r;rw[d];show none=match (match yB ((b::x)::t)with|none=>none|some x=>some ([]::x.1,x.2))with
     |none=>eight (lN true ([]::(b::x)::t)) []
     |some p=>both (fG false p.1) (fG true p.2) []
    rw[EK _ (by simp)];show none=match (match (match yB t with|none=>none|some z=>some ((b::x)::z.1,z.2))with|none=>none|some x=>some ([]::x.1,x.2))with
     |none=>eight (lN true ([]::(b::x)::t)) []
     |some p=>both (fG false p.1) (fG true p.2) []
    cases yB t with
    |none=>
     simp only[];rw[wQ,piece_nil];rfl
    |some y=>
     simp only[];rw[l7 _ (by simp),BR,piece_nil];rfl
  rw[if_neg ha];obtain⟨x,t,e,d⟩:=iT ha r;rw[Px _ _ (jI _) (fun _=>rfl),d];unfold CB;rw[EK _ (by simp)];show(match (match yB t with|none=>none|some z=>some ((a::x)::z.1,z.2))with
    |none=>eight (lN true ((a::x)::t)) []
    |some p=>both (lN false p.1) (fG true p.2) [])=match (match yB t with|none=>none|some z=>some ((a::x)::z.1,z.2))with
    |none=>eight (lN true ((a::x)::t)) []
    |some p=>both (fG false p.1) (fG true p.2) []
  cases yB t with
  |none=>rfl
  |some y=>
   simp only[];rw[l7 false (ps:=(a::x)::y.1) (by simp)]
end qm
