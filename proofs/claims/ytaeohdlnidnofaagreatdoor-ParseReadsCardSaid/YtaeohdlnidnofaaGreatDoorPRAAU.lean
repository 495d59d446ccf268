/- Lemmas. -/
import Derived.Test.YtaeohdlnidnofaaGreatDoorPRAAT
set_option linter.unusedSimpArgs false
set_option linter.unusedVariables false
set_option maxRecDepth 100000
set_option maxHeartbeats 64000000
namespace Go.Proofs.YtaeohdlnidnofaaGreatDoor
open Tryz
namespace Xl
open Go.RowKit mG iJ jy aJ jX
structure Bs where
 u:Nat
 t:Nat
 p:Nat
def QX (s:Bs) (b:U):Prop:=b.bU.length+b.bW.length≤s.u∧b.txt.length≤s.t∧b.aF.length≤s.p
structure Bq (s:Bs) (m:M) (z:Int):Prop where
 p0:0≤z
 buf:(m.buf.length:Int)≤z
 cr:(m.u.bU.length:Int)+m.u.bW.length+9*m.buf.length≤s.u+9*z
 tx:(m.u.txt.length:Int)≤s.t+3*z
 pt:(m.u.aF.length:Int)≤s.p+1+z
 lo:m.st≤1→m.u.bU=[]∧m.u.bW=[]∧m.u.txt=[]
 lp:m.st≤14→m.u.aF=[]∧m.u.txt=[]
def Bd (s:Bs) (N:Nat) (m:M):Prop:=Bq s m (m.p+1)∧m.p≤N
def Bn (s:Bs) (R:List UInt8) (p:Int) (m:M):Prop:=m.st=19∨(R=[]∧m.p=p)∨Bq s m (m.p+2)
theorem Bq.more {s:Bs} {m:M} {z y:Int} (h:Bq s m z) (a:z≤y):Bq s m y:=
 ⟨by have:=h.p0;omega,by have:=h.buf;omega,by have:=h.cr;omega,by have:=h.tx;omega,by have:=h.pt;omega,h.lo,h.lp⟩
variable {s:Bs} {m:M} {R:List UInt8} {N:Nat}
theorem nI:∀(L:List UInt8) (m:M),(iw L m).p=m.p∧(iw L m).st=m.st∧(iw L m).buf=m.buf∧(iw L m).u.txt=m.u.txt∧(iw L m).u.aF=m.u.aF∧(iw L m).u.bU.length+(iw L m).u.bW.length≤m.u.bU.length+m.u.bW.length+3*L.length
 |[],m=>⟨rfl,rfl,rfl,rfl,rfl,Nat.le_add_right _ _⟩
 | c :: L, m => by
  unfold iw
  have i:=aG.fO 5 [c]
  simp only[List.length_cons,List.length_nil]at i
  split
  ·obtain⟨h,g,f,e,d,a⟩:=nI L {m with pass:=true}
   exact⟨h,g,f,e,d,by simp only[List.length_cons];simp only at a;omega⟩
  ·split
   ·obtain⟨h,g,f,e,d,a⟩:=nI L {m with u:={m.u with bW:=m.u.bW++aG.enc 5 [c]}}
    exact⟨h,g,f,e,d,by simp only[List.length_cons];simp only[List.length_append]at a;omega⟩
   ·obtain⟨h,g,f,e,d,a⟩:=nI L {m with u:={m.u with bU:=m.u.bU++aG.enc 5 [c]}}
    exact⟨h,g,f,e,d,by simp only[List.length_cons];simp only[List.length_append]at a;omega⟩
theorem zo {m:M} {p:Int} (h:0≤m.p+2) (g:(m.buf.length:Int)≤m.p+2) (f:(m.u.bU.length:Int)+m.u.bW.length+9*m.buf.length≤s.u+9*(m.p+2)) (q3:(m.u.txt.length:Int)≤s.t+3*(m.p+2)) (e:(m.u.aF.length:Int)≤s.p+1+(m.p+2)) (j:2≤m.st) (i:m.p=p) (d:bV R=true∨(m.st≤14→m.u.aF=[]∧m.u.txt=[])):Bn s R p (tail m R):=by
 unfold tail
 match R,d with
 |[],_=>exact .inr (.inl ⟨rfl,i⟩)
 |c::R,d=>
  simp only;split
  ·exact .inr (.inr ⟨h,g,f,q3,e,fun x=>absurd x (by simp[mv]),fun x=>absurd x (by simp[mv])⟩)
  split
  ·exact .inr (.inr ⟨h,g,f,q3,e,fun x=>absurd x (by simp[mv]),fun x=>absurd x (by simp[mv])⟩)
  rename_i a b;refine .inr (.inr ⟨h,g,f,q3,e,fun x=>absurd x (by omega),?_⟩);rcases d with d|d
  ·simp[bV,a,b]at d
  exact d
theorem lX (c:UInt8):(gJ.lower [c]).length=1:=rfl
theorem abC (base:Option U) (l:∀b,base=some b→QX s b) (h:Bd s N m) (J:0≤m.p) (aU:m.st≤19):Bn s R m.p (aY base m R):=by
 obtain⟨h,L⟩:=h;obtain⟨H,G,F,q3,E,v,j⟩:=h;have B:QX s (base.getD U0):=by
  match base,l with
  |none,_=>exact⟨Nat.zero_le _,Nat.zero_le _,Nat.zero_le _⟩
  |some b,l=>exact l b rfl
 obtain⟨b1,b2,z⟩:=B;unfold aY;split
 ·
  rename_i e;obtain⟨i,g,f⟩:=v (by omega);obtain⟨a,d⟩:=j (by omega);unfold kS;split
  ·exact .inr (.inr ⟨by simp[mv,lX,i,g,f,a];omega,by simp[mv,lX,i,g,f,a];omega,by simp[mv,lX,i,g,f,a];omega,by simp[mv,lX,i,g,f,a];omega,by simp[mv,lX,i,g,f,a];omega,fun _=>⟨i,g,f⟩,fun _=>⟨a,d⟩⟩)
  exact .inr (.inr ⟨by simp[mv,i,g,f,a];omega,by simp[mv,i,g,f,a];omega,by simp[mv,i,g,f,a];omega,by simp[mv,i,g,f,a];omega,by simp[mv,i,g,f,a];omega,fun x=>absurd x (by simp[mv,i,g,f,a];try omega),fun _=>⟨a,d⟩⟩)
 ·
  rename_i e;obtain⟨i,g,f⟩:=v (by omega);obtain⟨a,d⟩:=j (by omega);unfold fD;split
  ·exact .inr (.inr ⟨by simp only;omega,by simp only[List.length_append,lX];omega,by simp only[List.length_append,lX,i,g,List.length_nil];omega,by simp only[f,List.length_nil];omega,by simp only[a,List.length_nil];omega,fun _=>⟨i,g,f⟩,fun _=>⟨a,d⟩⟩)
  split
  ·exact .inr (.inr ⟨by simp only;omega,by simp only[List.length_nil];omega,by simp only[i,g,List.length_nil];omega,by simp only[f,List.length_nil];omega,by simp only[a,List.length_nil];omega,fun x=>absurd x (by simp),fun _=>⟨a,d⟩⟩)
  simp only;split
  ·exact .inr (.inr ⟨by simp[mv,i,g,f,a];omega,by simp[mv,i,g,f,a];omega,by simp[mv,i,g,f,a];omega,by simp[mv,i,g,f,a];omega,by simp[mv,i,g,f,a];omega,fun x=>absurd x (by simp[mv,i,g,f,a];try omega),fun _=>⟨a,d⟩⟩)
  split
  ·exact .inr (.inr ⟨by simp[mv,i,g,f,a];omega,by simp[mv,i,g,f,a];omega,by simp[mv,i,g,f,a];omega,by simp[mv,i,g,f,a];omega,by simp[mv,i,g,f,a];omega,fun x=>absurd x (by simp[mv,i,g,f,a];try omega),fun _=>⟨a,d⟩⟩)
  split
  ·exact .inr (.inr ⟨by simp[mv,i,g,f,a];omega,by simp[mv,i,g,f,a];omega,by simp[mv,i,g,f,a];omega,by simp[mv,i,g,f,a];omega,by simp[mv,i,g,f,a];omega,fun x=>absurd x (by simp[mv,i,g,f,a];try omega),fun _=>⟨a,d⟩⟩)
  split
  ·exact .inr (.inr ⟨by simp[mv,i,g,f,a];omega,by simp[mv,i,g,f,a];omega,by simp[mv,i,g,f,a];omega,by simp[mv,i,g,f,a];omega,by simp[mv,i,g,f,a];omega,fun x=>absurd x (by simp[mv,i,g,f,a];try omega),fun _=>⟨a,d⟩⟩)
  exact .inr (.inr ⟨by simp[mv,i,g,f,a];omega,by simp[mv,i,g,f,a];omega,by simp[mv,i,g,f,a];omega,by simp[mv,i,g,f,a];omega,by simp[mv,i,g,f,a];omega,fun x=>absurd x (by simp[mv,i,g,f,a];try omega),fun x=>absurd x (by simp[mv,i,g,f,a];try omega)⟩)
 ·
  rename_i e;obtain⟨a,d⟩:=j (by omega);unfold wY
  match base,l with
  |none,_=>exact .inl rfl
  | some b,l=>
   obtain⟨b1,b2,z⟩:=l b rfl;simp only;split
   ·exact .inl rfl
   split
   ·exact zo (by simp only;omega) (by simp only;omega) (by simp only;omega) (by simp only;omega) (by simp only[a,List.length_nil];omega) (by simp only;omega) rfl (.inl (by
     rename_i k n
     match R,k with
     |[],k=>exact absurd ⟨n,.inl rfl⟩ k
     |c::R,k=>
      by_cases hc:c=35
      ·simp[bV,hc]
      exact absurd ⟨n,.inr hc⟩ k))
   split
   ·exact .inr (.inr ⟨by simp[mv,a,d];omega,by simp[mv,a,d];omega,by simp[mv,a,d];omega,by simp[mv,a,d];omega,by simp[mv,a,d];omega,fun x=>absurd x (by simp[mv,a,d];try omega),fun _=>⟨a,d⟩⟩)
   exact .inr (.inr ⟨by simp[mv,a,d];omega,by simp[mv,a,d];omega,by simp[mv,a,d];omega,by simp[mv,a,d];omega,by simp[mv,a,d];omega,fun x=>absurd x (by simp[mv,a,d];try omega),fun _=>⟨a,d⟩⟩)
 ·
  rename_i e;obtain⟨a,d⟩:=j (by omega);unfold jq;split
  ·exact .inr (.inr ⟨by simp[mv,a,d];omega,by simp[mv,a,d];omega,by simp[mv,a,d];omega,by simp[mv,a,d];omega,by simp[mv,a,d];omega,fun x=>absurd x (by simp[mv,a,d];try omega),fun _=>⟨a,d⟩⟩)
  exact .inr (.inr ⟨by simp[mv,a,d];omega,by simp[mv,a,d];omega,by simp[mv,a,d];omega,by simp[mv,a,d];omega,by simp[mv,a,d];omega,fun x=>absurd x (by simp[mv,a,d];try omega),fun _=>⟨a,d⟩⟩)
 ·
  rename_i e;obtain⟨a,d⟩:=j (by omega);unfold kR;split
  ·exact .inr (.inr ⟨by simp[begin',mv,a,d];omega,by simp[begin',mv,a,d];omega,by simp[begin',mv,a,d];omega,by simp[begin',mv,a,d];omega,by simp[begin',mv,a,d];omega,fun x=>absurd x (by simp[begin',mv,a,d];try omega),fun _=>⟨a,d⟩⟩)
  exact .inr (.inr ⟨by simp[mv,a,d];omega,by simp[mv,a,d];omega,by simp[mv,a,d];omega,by simp[mv,a,d];omega,by simp[mv,a,d];omega,fun x=>absurd x (by simp[mv,a,d];try omega),fun x=>absurd x (by simp[mv,a,d];try omega)⟩)
 ·
  rename_i e;obtain⟨a,d⟩:=j (by omega);unfold lH;have w:(jc false (base.getD U0).aF).length≤(base.getD U0).aF.length:=by rw[nN];split<;>omega
  simp only;split
  ·exact .inr (.inr ⟨by simp[mv,a,d];omega,by simp[mv,a,d];omega,by simp[mv,a,d];omega,by simp[mv,a,d];omega,by simp[mv,a,d];omega,fun x=>absurd x (by simp[mv,a,d];try omega),fun _=>⟨a,d⟩⟩)
  split
  ·rename_i aU;exact zo (by simp[lJ];omega) (by simp[lJ];omega) (by simp[lJ];omega) (by simp[lJ];omega) (by simp[lJ];omega) (by simp[lJ];omega) rfl (.inl aU)
  exact .inr (.inr ⟨by simp[lJ,mv];omega,by simp[lJ,mv];omega,by simp[lJ,mv];omega,by simp[lJ,mv];omega,by simp[lJ,mv];omega,fun x=>absurd x (by simp[lJ,mv];try omega),fun x=>absurd x (by simp[lJ,mv];try omega)⟩)
 ·
  rename_i e;obtain⟨a,d⟩:=j (by omega);unfold iZ;split
  ·exact .inr (.inr ⟨by simp[mv,a,d];omega,by simp[mv,a,d];omega,by simp[mv,a,d];omega,by simp[mv,a,d];omega,by simp[mv,a,d];omega,fun x=>absurd x (by simp[mv,a,d];try omega),fun _=>⟨a,d⟩⟩)
  split
  ·exact .inr (.inr ⟨by simp[begin',mv,a,d];omega,by simp[begin',mv,a,d];omega,by simp[begin',mv,a,d];omega,by simp[begin',mv,a,d];omega,by simp[begin',mv,a,d];omega,fun x=>absurd x (by simp[begin',mv,a,d];try omega),fun _=>⟨a,d⟩⟩)
  exact .inr (.inr ⟨by simp[lJ,mv,a,d];omega,by simp[lJ,mv,a,d];omega,by simp[lJ,mv,a,d];omega,by simp[lJ,mv,a,d];omega,by simp[lJ,mv,a,d];omega,fun x=>absurd x (by simp[lJ,mv,a,d];try omega),fun x=>absurd x (by simp[lJ,mv,a,d];try omega)⟩)
 ·
  rename_i e;obtain⟨a,d⟩:=j (by omega);unfold DI;split
  ·exact .inr (.inr ⟨by simp[begin',mv,a,d];omega,by simp[begin',mv,a,d];omega,by simp[begin',mv,a,d];omega,by simp[begin',mv,a,d];omega,by simp[begin',mv,a,d];omega,fun x=>absurd x (by simp[begin',mv,a,d];try omega),fun _=>⟨a,d⟩⟩)
  exact .inr (.inr ⟨by omega,by omega,by omega,by omega,by omega,fun x=>absurd x (by omega),fun _=>⟨a,d⟩⟩)
 ·
  rename_i e;obtain⟨a,d⟩:=j (by omega);unfold kG;split
  ·obtain⟨k,n,D,t,r,C⟩:=nI (if m.sign=true then[37,52,48]++m.buf else m.buf) {m with sign:=true};have O:(if m.sign=true then[37,52,48]++m.buf else m.buf).length≤m.buf.length+3:=by split<;>simp
   simp only at k n D t r C;exact .inr (.inr ⟨by simp only[k];omega,by simp only[k,List.length_nil];omega,by simp only[k,List.length_nil];omega,by simp only[k,t,d,List.length_nil];omega,by simp only[k,r,a,List.length_nil];omega,fun x=>absurd x (by simp only[n];omega),fun _=>by simp only[r,t];exact⟨a,d⟩⟩)
  split
  ·split
   ·exact .inl rfl
   exact .inr (.inr ⟨by simp only;omega,by simp only[List.length_nil];omega,by simp only[List.length_nil];omega,by simp only[d,List.length_nil];omega,by simp only[a,List.length_nil];omega,fun x=>absurd x (by simp),fun _=>⟨a,d⟩⟩)
  exact .inr (.inr ⟨by simp only;omega,by simp only[List.length_append,List.length_cons,List.length_nil];omega,by simp only[List.length_append,List.length_cons,List.length_nil];omega,by simp only;omega,by simp only;omega,fun x=>absurd x (by simp only;omega),fun _=>⟨a,d⟩⟩)
 ·
  rename_i e;obtain⟨a,d⟩:=j (by omega);unfold kH;split
  ·split
   ·exact .inl rfl
   split
   ·exact .inl rfl
   exact .inr (.inr ⟨by simp[meet,mv,a,d];omega,by simp[meet,mv,a,d];omega,by simp[meet,mv,a,d];omega,by simp[meet,mv,a,d];omega,by simp[meet,mv,a,d];omega,fun x=>absurd x (by simp[meet,mv,a,d];try omega),fun _=>⟨a,d⟩⟩)
  split
  ·split
   ·exact .inl rfl
   split
   ·exact .inl rfl
   exact .inr (.inr ⟨by simp[meet,mv,a,d];omega,by simp[meet,mv,a,d];omega,by simp[meet,mv,a,d];omega,by simp[meet,mv,a,d];omega,by simp[meet,mv,a,d];omega,fun x=>absurd x (by simp[meet,mv,a,d];try omega),fun _=>⟨a,d⟩⟩)
  exact .inr (.inr ⟨by simp only;omega,by simp only[List.length_append,List.length_cons,List.length_nil];omega,by simp only[List.length_append,List.length_cons,List.length_nil];omega,by simp only;omega,by simp only;omega,fun x=>absurd x (by simp only;omega),fun _=>⟨a,d⟩⟩)
 ·
  rename_i e;obtain⟨a,d⟩:=j (by omega);unfold gZ;split
  ·exact .inr (.inr ⟨by simp only;omega,by simp only[List.length_append,List.length_cons,List.length_nil];omega,by simp only[List.length_append,List.length_cons,List.length_nil];omega,by simp only;omega,by simp only;omega,fun x=>absurd x (by simp only;omega),fun _=>⟨a,d⟩⟩)
  split
  ·exact .inl rfl
  split
  ·exact .inr (.inr ⟨by simp[mv,a,d];omega,by simp[mv,a,d];omega,by simp[mv,a,d];omega,by simp[mv,a,d];omega,by simp[mv,a,d];omega,fun x=>absurd x (by simp[mv,a,d];try omega),fun _=>⟨a,d⟩⟩)
  split
  ·exact .inl rfl
  exact .inr (.inr ⟨by simp[mv,a,d];omega,by simp[mv,a,d];omega,by simp[mv,a,d];omega,by simp[mv,a,d];omega,by simp[mv,a,d];omega,fun x=>absurd x (by simp[mv,a,d];try omega),fun _=>⟨a,d⟩⟩)
 ·
  rename_i e;obtain⟨a,d⟩:=j (by omega);unfold je;simp only;split
  ·exact .inr (.inr ⟨by simp[mv,a,d];omega,by simp[mv,a,d];omega,by simp[mv,a,d];omega,by simp[mv,a,d];omega,by simp[mv,a,d];omega,fun x=>absurd x (by simp[mv,a,d];try omega),fun _=>⟨a,d⟩⟩)
  split
  ·exact .inr (.inr ⟨by simp[mv,a,d];omega,by simp[mv,a,d];omega,by simp[mv,a,d];omega,by simp[mv,a,d];omega,by simp[mv,a,d];omega,fun x=>absurd x (by simp[mv,a,d];try omega),fun x=>absurd x (by simp[mv,a,d];try omega)⟩)
  rename_i b hf;have q:base=some b:=by
   match base,hf with
   |some c,hf=>simp only[Option.filter]at hf;split at hf<;>simp_all
  obtain⟨b1,b2,z⟩:=l b q;have w:(jc true b.aF).length≤b.aF.length:=by rw[nN];split<;>omega
  split
  ·rename_i aU;exact zo (by simp only;omega) (by simp only;omega) (by simp only;omega) (by simp only;omega) (by simp only;omega) (by simp only;omega) rfl (.inl aU)
  refine .inr (.inr ⟨by simp[mv];omega,by simp[mv];omega,by simp[mv];omega,by simp[mv];omega,?_,fun x=>absurd x (by simp[mv]),fun x=>absurd x (by simp[mv])⟩);simp only[mv,if_true];split
  ·simp only[List.length_nil];omega
  omega
 ·
  rename_i e;obtain⟨a,d⟩:=j (by omega);unfold dV;split
  ·exact .inr (.inr ⟨by simp[mv,a,d];omega,by simp[mv,a,d];omega,by simp[mv,a,d];omega,by simp[mv,a,d];omega,by simp[mv,a,d];omega,fun x=>absurd x (by simp[mv,a,d];try omega),fun _=>⟨a,d⟩⟩)
  split
  ·exact .inr (.inr ⟨by simp[mv,a,d];omega,by simp[mv,a,d];omega,by simp[mv,a,d];omega,by simp[mv,a,d];omega,by simp[mv,a,d];omega,fun x=>absurd x (by simp[mv,a,d];try omega),fun x=>absurd x (by simp[mv,a,d];try omega)⟩)
  rename_i b hf;have I:(b.aF.take 1).length≤1:=by rw[List.length_take];omega
  refine .inr (.inr ⟨by simp[mv];omega,by simp[mv];omega,by simp[mv];omega,by simp[mv];omega,?_,fun x=>absurd x (by simp[mv]),fun x=>absurd x (by simp[mv])⟩);simp only[mv,if_true,a,List.nil_append];split
  ·omega
  simp only[List.length_nil];omega
 ·
  rename_i e;obtain⟨a,d⟩:=j (by omega);unfold dA;split
  ·exact .inr (.inr ⟨by simp only;omega,by simp only[List.length_append,List.length_cons,List.length_nil];omega,by simp only[List.length_append,List.length_cons,List.length_nil];omega,by simp only;omega,by simp only;omega,fun x=>absurd x (by simp only;omega),fun _=>⟨a,d⟩⟩)
  split
  ·exact .inr (.inr ⟨by simp[mv,a,d];omega,by simp[mv,a,d];omega,by simp[mv,a,d];omega,by simp[mv,a,d];omega,by simp[mv,a,d];omega,fun x=>absurd x (by simp[mv,a,d];try omega),fun x=>absurd x (by simp[mv,a,d];try omega)⟩)
  split
  ·exact .inr (.inr ⟨by simp[mv,a,d];omega,by simp[mv,a,d];omega,by simp[mv,a,d];omega,by simp[mv,a,d];omega,by simp[mv,a,d];omega,fun x=>absurd x (by simp[mv,a,d];try omega),fun _=>⟨a,d⟩⟩)
  split
  ·exact .inl rfl
  exact .inr (.inr ⟨by simp[meet,mv,a,d];omega,by simp[meet,mv,a,d];omega,by simp[meet,mv,a,d];omega,by simp[meet,mv,a,d];omega,by simp[meet,mv,a,d];omega,fun x=>absurd x (by simp[meet,mv,a,d];try omega),fun _=>⟨a,d⟩⟩)
 ·
  rename_i e;obtain⟨a,d⟩:=j (by omega);unfold eH;have y:∀x:Bool,Bn s R m.p (mv m 15 x):=fun x=>by
   cases x
   ·exact .inr (.inr ⟨by simp[mv,a,d];omega,by simp[mv,a,d];omega,by simp[mv,a,d];omega,by simp[mv,a,d];omega,by simp[mv,a,d];omega,fun x=>absurd x (by simp[mv,a,d];try omega),fun x=>absurd x (by simp[mv,a,d];try omega)⟩)
   exact .inr (.inr ⟨by simp[mv,a,d];omega,by simp[mv,a,d];omega,by simp[mv,a,d];omega,by simp[mv,a,d];omega,by simp[mv,a,d];omega,fun x=>absurd x (by simp[mv,a,d];try omega),fun x=>absurd x (by simp[mv,a,d];try omega)⟩)
  split
  ·exact y _
  split
  ·rename_i aU;exact zo (by omega) (by omega) (by omega) (by omega) (by omega) (by omega) rfl (.inl aU)
  exact y _
 ·
  rename_i e;unfold iE;split
  ·exact .inr (.inr ⟨by simp only;omega,by simp only[List.length_append,List.length_cons,List.length_nil];omega,by simp only[List.length_append,List.length_cons,List.length_nil];omega,by simp only;omega,by simp only;omega,fun x=>absurd x (by simp only;omega),fun x=>absurd x (by simp only;omega)⟩)
  have w:=nO (decide (m.u.au=ay)) (!kM (sp m) R) m.u.aF m.buf;exact zo (by simp only;omega) (by simp only[List.length_nil];omega) (by simp only[List.length_nil];omega) (by simp only;omega) (by simp only;omega) (by simp only;omega) rfl (.inr fun x=>absurd x (by simp only;omega))
 ·
  rename_i e;unfold qH;split
  ·exact zo (by omega) (by omega) (by omega) (by omega) (by omega) (by omega) rfl (.inr fun x=>absurd x (by omega))
  split
  ·exact .inr (.inr ⟨by simp only;omega,by simp only;omega,by simp only;omega,by simp only[List.length_append,List.length_cons,List.length_nil];omega,by simp only;omega,fun x=>absurd x (by simp only;omega),fun x=>absurd x (by simp only;omega)⟩)
  have A:=aG.fO 0 [cc R];simp only[List.length_cons,List.length_nil]at A;exact .inr (.inr ⟨by simp only;omega,by simp only;omega,by simp only;omega,by simp only[List.length_append];omega,by simp only;omega,fun x=>absurd x (by simp only;omega),fun x=>absurd x (by simp only;omega)⟩)
 ·
  rename_i e;unfold pG;split
  ·exact .inr (.inr ⟨by simp only;omega,by simp only[List.length_append,List.length_cons,List.length_nil];omega,by simp only[List.length_append,List.length_cons,List.length_nil];omega,by simp only;omega,by simp only;omega,fun x=>absurd x (by simp only;omega),fun x=>absurd x (by simp only;omega)⟩)
  exact zo (by simp only;omega) (by simp only[List.length_nil];omega) (by simp only[List.length_nil];omega) (by simp only;omega) (by simp only;omega) (by simp only;omega) rfl (.inr fun x=>absurd x (by simp only;omega))
 ·
  rename_i e;unfold wW;split
  ·exact .inr (.inr ⟨by simp only;omega,by simp only[List.length_append,List.length_cons,List.length_nil];omega,by simp only[List.length_append,List.length_cons,List.length_nil];omega,by simp only;omega,by simp only;omega,fun x=>absurd x (by simp only;omega),fun x=>absurd x (by simp only;omega)⟩)
  rename_i hr;exact .inr (.inl ⟨by simpa using hr,rfl⟩)
 simp only[imp_false]at*;exact .inl (by omega)
end Xl
namespace Xn
open Go.RowKit aJ jX Xl
inductive Gs (S:List UInt8) (base:Option U):Nat→M→Option U→Prop
 |stop {m:M} {o:Option U} (h:Ij S base m=.stop o):Gs S base 0 m o
 |go {i:Nat} {m n:M} {o:Option U} (h:Ij S base m=.go n) (r:Gs S base i n o):Gs S base (i+1) m o
variable {S:List UInt8} {base:Option U} {m n:M} {o:Option U} {R:List UInt8}
theorem Iy (h:Run S base m o):∃i,Gs S base i m o:=by
 induction h with
 |stop h=>exact⟨0,.stop h⟩
 |go h r ih=>obtain⟨i,hi⟩:=ih;exact⟨i+1,.go h hi⟩
theorem Wi {i:Nat} (h:Gs S base i m o) (e:Ij S base m=.go n):∃j,j<i∧Gs S base j n o:=by
 cases h with
 |stop h=>rw[h]at e;cases e
 |go h r=>rw[h]at e;cases e;exact⟨_,Nat.lt_succ_self _,r⟩
theorem run_end {i:Nat} {x:Option U} (h:Gs S base i m o) (e:Ij S base m=.stop x):x=o:=by
 cases h with
 |stop h=>rw[h]at e;cases e;rfl
 |go h r=>rw[h]at e;cases e
theorem xG (m:M) (R:List UInt8):(tail m R).p=m.p:=by
 unfold tail;split
 ·rfl
 split
 ·rfl
 split<;>rfl
theorem vT (m:M) (s:Nat) (b:Bool):(mv m s b).p≤m.p:=by
 unfold mv;cases b
 ·exact Int.le_refl _
 show m.p - 1≤m.p;omega
theorem PL (L:List UInt8) (m:M):(iw L m).p=m.p:=(nI L m).1
theorem D8 (h:two R=true):2≤R.length:=by
 unfold two Lib.hasPrefix at h
 match R,h with
 |[],h=>exact absurd h (by decide)
 |[c],h=>simp at h
 |_::_::_,_=>exact Nat.le_add_left 2 _
theorem UF (h:(R.drop 1).head?=some 47):2≤R.length:=by
 match R,h with
 |[],h=>cases h
 |[c],h=>cases h
 |_::_::_,_=>exact Nat.le_add_left 2 _
theorem OV (a:0≤m.p):(fD base m R).p≤m.p∨(2≤R.length∧(fD base m R).p=m.p+1):=by
 unfold fD;split
 ·exact .inl (Int.le_refl _)
 split
 ·exact .inl (by show(-1:Int)≤m.p;omega)
 dsimp only;split
 ·exact .inl (Int.le_refl _)
 split
 ·exact .inl (Int.le_refl _)
 split
 ·exact .inl (Int.le_refl _)
 split
 ·rename_i h;exact .inr ⟨UF h,rfl⟩
 exact .inl (Int.le_refl _)
theorem WQ (a:0≤m.p):(aY base m R).p≤m.p∨(2≤R.length∧(aY base m R).p=m.p+1):=by
 unfold aY;split
 ·unfold kS;split<;>exact .inl (vT _ _ _)
 ·exact OV a
 ·refine .inl ?_;unfold wY;split
  ·exact Int.le_refl _
  split
  ·exact Int.le_refl _
  split
  ·rw[xG];exact Int.le_refl _
  split<;>exact vT _ _ _
 ·unfold jq;split
  ·rename_i h;exact .inr ⟨D8 h,rfl⟩
  exact .inl (vT _ _ _)
 ·refine .inl ?_;unfold kR;split
  ·exact vT m 8 false
  exact vT _ _ _
 ·refine .inl ?_;unfold lH;dsimp only;split
  ·exact vT _ _ _
  split
  ·rw[xG];exact Int.le_refl _
  exact vT _ _ _
 ·refine .inl ?_;unfold iZ;split
  ·exact vT _ _ _
  split
  ·exact vT m 8 false
  exact vT _ _ _
 ·refine .inl ?_;unfold DI;split
  ·show m.p - 1≤m.p;omega
  exact Int.le_refl _
 ·refine .inl ?_;unfold kG;split
  ·show(iw _ _).p≤_;rw[PL];exact Int.le_refl _
  split
  ·split
   ·exact Int.le_refl _
   show m.p - (m.buf.length:Int) - 1≤m.p;omega
  exact Int.le_refl _
 ·refine .inl ?_;unfold kH
  repeat' split
  all_goals first|exact Int.le_refl _|exact vT (meet m) _ _
 ·refine .inl ?_;unfold gZ
  repeat' split
  all_goals first|exact Int.le_refl _|exact vT m _ _|exact vT {m with u:={m.u with port:=_},buf:=[]} _ _
 ·refine .inl ?_;unfold je;dsimp only
  repeat' split
  all_goals first|(rw[xG];exact Int.le_refl _)|exact vT _ _ _
 ·refine .inl ?_;unfold dV
  repeat' split
  all_goals exact vT _ _ _
 ·refine .inl ?_;unfold dA
  repeat' split
  all_goals first|exact Int.le_refl _|exact vT m _ _|exact vT {meet m with u:=_} _ _
 ·refine .inl ?_;unfold eH
  repeat' split
  all_goals first|(rw[xG];exact Int.le_refl _)|exact vT _ _ _
 ·refine .inl ?_;unfold iE;split
  ·exact Int.le_refl _
  rw[xG];exact Int.le_refl _
 ·refine .inl ?_;unfold qH
  repeat' split
  all_goals first|(rw[xG];exact Int.le_refl _)|exact Int.le_refl _
 ·refine .inl ?_;unfold pG;split
  ·exact Int.le_refl _
  rw[xG];exact Int.le_refl _
 ·refine .inl ?_;unfold wW;split<;>exact Int.le_refl _
 exact .inl (Int.le_refl _)
theorem QS (h:m.st≤19):(tail m R).st≤19:=by
 unfold tail;split
 ·exact h
 split
 ·exact(by decide:(17:Nat)≤19)
 split
 ·exact(by decide:(18:Nat)≤19)
 exact h
theorem zF (L:List UInt8) (m:M):(iw L m).st=m.st:=(nI L m).2.1
theorem Zl (h:m.st≤19):(aY base m R).st≤19:=by
 unfold aY;split
 all_goals(first|unfold kS|unfold fD|unfold wY|unfold jq|unfold kR|unfold lH|unfold iZ|unfold DI|unfold kG|unfold kH|unfold gZ|unfold je|unfold dV|unfold dA|unfold eH|unfold iE|unfold qH|unfold pG|unfold wW|skip)
 all_goals(try dsimp only)
 all_goals repeat' split
 all_goals first|exact h|exact QS h|(refine QS ?_;exact h)|(show(_:Nat)≤19;simp[mv,fail,begin',meet,zF];done)|(simp[mv,fail,begin',meet,zF];omega)
theorem QO (h:m.st≠10):(tail m R).st≠10:=by
 unfold tail;split
 ·exact h
 split
 ·exact(by decide:(17:Nat)≠10)
 split
 ·exact(by decide:(18:Nat)≠10)
 exact h
theorem Zk (a:m.st≠9) (h:m.st≠10):(aY base m R).st≠10:=by
 unfold aY;split
 all_goals(try(rename_i e;first|exact absurd e a|exact absurd e h))
 all_goals(first|unfold kS|unfold fD|unfold wY|unfold jq|unfold kR|unfold lH|unfold iZ|unfold DI|unfold kG|unfold je|unfold dV|unfold dA|unfold eH|unfold iE|unfold qH|unfold pG|unfold wW|skip)
 all_goals(try dsimp only)
 all_goals repeat' split
 all_goals first|exact h|exact QO h|(refine QO ?_;exact h)|(simp[mv,fail,begin',meet,zF];done)|(simp[mv,fail,begin',meet,zF];omega)
theorem abB (h:m.st=10→m.buf.all nZ=true) (e:(aY base m R).st=10):(aY base m R).buf.all nZ=true:=by
 by_cases h9:m.st=9
 ·rw [ms9 h9] at e ⊢;unfold kH at e⊢;split
  ·rename_i a;rw[if_pos a]at e;split
   ·rename_i b;rw[if_pos b]at e;cases e
   rename_i b;rw[if_neg b]at e;split
   ·rename_i c;rw[if_pos c]at e;cases e
   rfl
  rename_i a;rw[if_neg a]at e;split
  ·rename_i b;rw[if_pos b]at e;split
   ·rename_i c;rw[if_pos c]at e;cases e
   rename_i c;rw[if_neg c]at e;split
   ·rename_i d;rw[if_pos d]at e;cases e
   rename_i d;rw[if_neg d]at e;cases e
  rename_i b;rw[if_neg b]at e;have e:m.st=10:=e;omega
 by_cases h10:m.st=10
 ·have f:=h h10;rw[Yn h10]at e⊢;unfold gZ at e⊢;split
  ·rename_i a;show(m.buf++[cc R]).all nZ=true;rw[List.all_append,f];simp[a.2]
  rename_i a;rw[if_neg a]at e;split
  ·exact f
  rename_i b;rw[if_neg b]at e;split
  ·exact f
  rename_i c;rw[if_neg c]at e;split
  ·exact f
  rfl
 exact absurd e (Zk h9 h10)
def Inv (s:Bs) (S:List UInt8) (m:M):Prop:=m.st≤19∧(m.st=19∨(-1≤m.p∧m.p≤S.length∧Bq s m (m.p+1)∧(m.st=10→m.buf.all nZ=true)))
theorem U7 {s:Bs} (v:∀b,base=some b→QX s b) (h:Inv s S m) (e:Ij S base m=.go n):Inv s S n:=by
 unfold Ij at e;split at e
 ·cases e
 rename_i h19;obtain⟨q,l⟩:=h;rcases l with l|⟨a,b,c,d⟩
 ·exact absurd l h19
 split at e
 ·rename_i hp;cases e;have i:=c.more (y:=m.p+1+1) (by omega);exact⟨q,.inr ⟨by show -1≤m.p+1;omega,by show m.p+1≤_;omega,⟨i.p0,i.buf,i.cr,i.tx,i.pt,i.lo,i.lp⟩,d⟩⟩
 rename_i hp;obtain⟨R,t⟩:∃R,S.drop m.p.toNat=R:=⟨_,rfl⟩;rw[t]at e;obtain⟨g,k⟩:∃g,aY base m R=g:=⟨_,rfl⟩;have f:=abC (R:=R) base v (show Bd s S.length m from⟨c,b⟩) (by omega) q;have j:=WQ (m:=m) (base:=base) (R:=R) (by omega);have q3:=Zl (base:=base) (R:=R) q;have r:=abB (base:=base) (R:=R) d;rw[k]at e f j q3 r;have A:R.length=S.length - m.p.toNat:=by rw[←t,List.length_drop]
 unfold out at e;split at e
 ·cases e
 rename_i hn;cases e;refine⟨q3,?_⟩;rcases f with f|⟨f,q5⟩|f
 ·exact .inl f
 ·have:R.length=0:=by rw[f];rfl
  exact absurd ⟨decide_eq_true (by omega),by omega⟩ hn
 have z:=f.p0;have w:g.p+1+1=g.p+2:=by omega
 refine .inr ⟨by show -1≤g.p+1;omega,?_,?_,r⟩
 ·show g.p+1≤_;by_cases hlen:(S.length:Int)≤m.p
  ·have:¬(S.length:Int)≤g.p:=fun x=>hn ⟨decide_eq_true hlen,x⟩;omega
  rcases j with j|⟨j,q6⟩<;>omega
 show Bq s _ (g.p+1+1);rw[w];exact⟨f.p0,f.buf,f.cr,f.tx,f.pt,f.lo,f.lp⟩
theorem exists_least {P:Nat→Prop} (h:∃i,P i):∃i,P i∧∀j,P j→i≤j:=by
 obtain⟨i,hi⟩:=h;induction i using Nat.strongRecOn with
 |ind i ih=>
  by_cases hx:∃j,j<i∧P j
  ·obtain⟨j,a,c⟩:=hx;exact ih j a c
  exact⟨i,hi,fun j a=>Nat.le_of_not_lt fun hlt=>hx ⟨j,hlt,a⟩⟩
open Classical in
noncomputable def least (P:Nat→Prop):Nat:=if h:∃i,P i then Classical.choose (exists_least h)else 0
theorem Ve {P:Nat→Prop} (h:∃i,P i):P (least P):=by
 unfold least;rw[dif_pos h];exact(Classical.choose_spec (exists_least h)).1
theorem least_le {P:Nat→Prop} {i:Nat} (h:P i):least P≤i:=by
 unfold least;rw[dif_pos ⟨i,h⟩];exact(Classical.choose_spec (exists_least ⟨i,h⟩)).2 i h
end Xn
namespace acH
open Go.RowKit Base aJ jX fJ vW yw yK Xn
variable {k:K} {m:M} {q:Value} {w:World} {j:Nat} {R:List UInt8}
theorem abM (a b:UInt8) (L:List UInt8):two (a::b::L)=decide ([a,b]=[47,47]):=by
 unfold two Lib.hasPrefix;rw[Bool.eq_iff_iff];simp[List.isPrefixOf];constructor<;>(rintro⟨rfl,rfl⟩;exact⟨rfl,rfl⟩)
theorem KE (h:MX k m q w) (s:m.p=(j:Int)) (y:k.T.drop j=R):Calls prog 77 #[.pointer (some ⟨k.g,0,none⟩),.string (ah [47,47])] w fun e w'=>e=.returned (.bool (two R))∧Below w.heap.size w w':=by
 have d:=hid h;have E:=hid s;obtain⟨X,r⟩:∃X,X=ah R:=⟨_,rfl⟩;have D:Hid (ah (k.T.drop j)=X):=by show _=_;rw[r,y]
 have sN:X.size=R.length:=by rw[r];exact ak _
 obtain⟨Z,l⟩:∃Z,Z=ah [47,47]:=⟨_,rfl⟩;have H:Z.size=2:=by rw[l];rfl
 have A:Hid (Z.toList=[47,47]):=by show _=_;rw[l,mF.tl];rfl
 rw[←l];by_cases hl:R.length<2
 ·have B:Hid (two R=false):=by
   show _=_;cases h2:two R with
   |false=>rfl
   |true=>exact absurd (D8 h2) (by omega)
  have G:¬(2:Int)≤(X.size:Int):=by omega
  clear h s y r sN l hl;go_enter func77,ntmps77;have z:=d.x1;rw[E.out]at z;go_wp2_with fail
  refine(qJ d j).mono ?_;rintro J F ⟨rfl,c⟩;rw[D.out];have i:=hid c;clear c;go_wp2;go_ret;exact⟨by rw[B.out];rfl,i⟩
 obtain⟨a,b,L,f⟩:∃a b L,R=a::b::L:=by
  match R,hl with
  |[],hl=>exact absurd (by decide) hl
  |[a],hl=>exact absurd (by decide:(1:Nat)<2) hl
  |a::b::L,_=>exact⟨a,b,L,rfl⟩
 have G:(2:Int)≤(X.size:Int):=by omega
 have N:2≤X.size:=by omega
 obtain⟨Y,x⟩:∃Y,Y=X.extract 0 2:=⟨_,rfl⟩;have n:Y.toList=[a,b]:=by rw[x,r,f,mF.tl];simp[ah,Array.toList_extract,List.extract_eq_take_drop]
 obtain⟨v,t⟩:∃v,v=decide ([a,b]=[47,47]):=⟨_,rfl⟩;have B:Hid (two R=v):=by show _=_;rw[f,abM,t]
 have C:Hid ((Y.toList==Z.toList)=v):=by show _=_;rw[n,A.out,t,Bool.eq_iff_iff];simp
 have I:X.extract 0 2=Y:=x.symm;clear h s y r sN l hl x n t f;go_enter func77,ntmps77;have z:=d.x1;rw[E.out]at z;go_wp2_with fail
 refine(qJ d j).mono ?_;rintro J F ⟨rfl,c⟩;rw[D.out];have i:=hid c;clear c;have O:=C.out;go_wp2;go_ret;exact⟨by rw[B.out];rfl,i⟩
theorem Zc (dp:Dp) (h:MX k m q w) (z:m.p=(j:Int)) (B:k.T.drop j=R) (E:k.T.length≤4611686018427387904) (F:j≤k.T.length) (r:m.buf.length≤900000) (n:m.u.txt.length≤100000000) (l:m.st=10→m.buf.all nZ=true) (i:j+1≤4611686018427387904) (f:m.st=3):Calls prog 29 #[.pointer (some ⟨k.g,0,none⟩)] w fun e w'=>e=.returned (.tuple #[])∧MX k (aY k.base m R) q w'∧True:=by
 have a:=hid h;have d:=hid z;have x:=hid B;have L:Hid (-4611686018427387904≤m.p∧m.p≤4611686018427387904):=⟨by omega,by omega⟩;have G:=hid f;obtain⟨v,A⟩:∃v,(cc R).toNat=v:=⟨_,rfl⟩;have HV:=hid A;obtain⟨b,s⟩:∃b,two R=b:=⟨_,rfl⟩;have H:=hid s;have C:Hid (-4611686018427387904≤(j:Int)+1∧(j:Int)+1≤4611686018427387904):=⟨by omega,by omega⟩;have D:Hid ((j:Int)≤4611686018427387904):=by show _≤_;omega
 rcases b with _|_
 ·have y:Hid (aY k.base m R=mv m 5 true):=by
   show _=_;rw[ms3 f];unfold jq;rw[if_neg (by rw[s];decide)]
  clear h z B E F dp r n l i f A s;go_enter func29,ntmps29;go_wp2_with fail
  refine dQ a (yQ a d x HV) fun w2 HM2=>?_;have t:=HM2.x2;rw[G.out]at t;go_wp2_with fail
  refine dQ HM2 (KE HM2 d x) fun w3 HM3=>?_;rw[H.out];clear t;go_wp2_with fail
  refine jw (iy HM3 L 5 true) fun w4 c=>?_;go_wp2
  go_end0
  exact⟨rfl,by rw[y.out];exact c,trivial⟩
 have y:Hid (aY k.base m R=mv {m with p:=m.p+1} 7 false):=by
  show _=_;rw[ms3 f];unfold jq;rw[if_pos s]
 clear h z B E F dp r n l i f A s;go_enter func29,ntmps29;go_wp2_with fail
 refine dQ a (yQ a d x HV) fun w2 HM2=>?_;have t:=HM2.x2;rw[G.out]at t;go_wp2_with fail
 refine dQ HM2 (KE HM2 d x) fun w3 HM3=>?_;rw[H.out];clear t;have J:=HM3.x1;have N:=HM3.thaw 1;rw[d.out]at J;have I:=D.out;have c:=hid (HM3.p ((j:Int)+1));rw[show m.p=(j:Int)from d.out]at y;go_wp2_with fail
 refine jw (iy c C 7 false) fun w5 HM5=>?_;go_wp2
 go_end0
 exact⟨rfl,by rw[y.out];exact HM5,trivial⟩
end acH
namespace acI
open Go.RowKit Base dJ gJ aJ jy jX fJ vW yw yK TU
variable {k:K} {m:M} {q:Value} {w:World} {j:Nat} {R:List UInt8}
theorem Y9 (dp:Dp) (h:MX k m q w) (I:m.p=(j:Int)) (J:k.T.drop j=R) (N:k.T.length≤4611686018427387904) (O:j≤k.T.length) (t:m.buf.length≤900000) (s:m.u.txt.length≤100000000) (n:m.st=10→m.buf.all nZ=true) (l:j+1≤4611686018427387904) (i:m.st=0):Calls prog 29 #[.pointer (some ⟨k.g,0,none⟩)] w fun e w'=>e=.returned (.tuple #[])∧MX k (aY k.base m R) q w'∧True:=by
 have d:=hid h;have G:=hid I;have F:=hid J;have Q:Hid (-4611686018427387904≤m.p∧m.p≤4611686018427387904):=⟨by omega,by omega⟩;have W:=hid i;obtain⟨v,L⟩:∃v,(cc R).toNat=v:=⟨_,rfl⟩;obtain⟨c,r⟩:∃c,cc R=c:=⟨_,rfl⟩;have z:=hid r;obtain⟨b,A⟩:∃b,decide (R=[])=b:=⟨_,rfl⟩;have HB:=hid A;obtain⟨lt,a⟩:∃x,letter (c.toNat:Int)=x:=⟨_,rfl⟩;have y:=hid a;obtain⟨E,D⟩:∃E,lower [c]=E:=⟨_,rfl⟩;have Y:=hid D;have aU:=fun w:World=>aT (P:=prog) (w:=w.alloc (.cells #[.int .u8 (c.toNat:Int)] 5)) 45 9 5 underlying45 underlying5 underlying9 [c] 1 (ac4.one_row c w);have V:=hid aU;clear aU;rcases lt with _|_
 ·skip
  have H:Hid (aY k.base m R=mv m 2 true):=by
   show _=_;refine(ms0 i).trans ?_;unfold kS;rw[if_neg (fun x=>by rw[r,a]at x;exact absurd x.1 (by decide))]
  clear h I J N O dp t s n l i L r A a D;go_enter func29,ntmps29;go_wp2_with fail
  refine dQ d (ZG d G F) fun w2 HM2=>?_;rw[z.out];have B:=HM2.x2;rw[W.out]at B;go_wp2_with fail
  refine(iD.dO (c.toNat:Int) _).mono ?_;rintro e7 Z ⟨rfl,rfl⟩;rw[y.out];go_wp2_with fail
  refine jw (iy HM2 Q 2 true) fun w3 HM3=>?_;go_wp2
  go_end0
  exact⟨rfl,by rw[H.out];exact HM3,trivial⟩
 rcases b with _|_
 ·skip
  have H:Hid (aY k.base m R=mv {m with buf:=E} 1 false):=by
   show _=_;refine(ms0 i).trans ?_;unfold kS;rw[if_pos ⟨by rw[r,a],of_decide_eq_false A⟩,r,D]
  clear h I J N O dp t s n l i L r A a D;go_enter func29,ntmps29;go_wp2_with fail
  refine dQ d (ZG d G F) fun w2 HM2=>?_;rw[z.out];have B:=HM2.x2;rw[W.out]at B;go_wp2_with fail
  refine(iD.dO (c.toNat:Int) _).mono ?_;rintro e7 Z ⟨rfl,rfl⟩;rw[y.out];go_wp2_with fail
  refine dQ HM2 (lC HM2 G F HB) fun w3 HM3=>?_;have aU:=V.out;clear B;go_wp2_with fail
  clear aU;refine(iD.jP (ah [c]) _ (by rw[ak];exact(by decide:(1:Nat)≤1073741824))).mono ?_;rintro e4 w4 ⟨rfl,C⟩;rw[show lower (ah [c]).data.toList=E from Y.out];have f:=hid ((HM3.below ((Below.refl _ _).alloc (Nat.le_refl _) _)).below C);clear C;have c3:=f.x3;have z3:=f.thaw 3;have X:=hid (f.buf E);go_wp2_with fail
  refine jw (iy X Q 1 false) fun w6 HM6=>?_;go_wp2
  go_end0
  exact⟨rfl,by rw[H.out];exact HM6,trivial⟩
 skip
 have H:Hid (aY k.base m R=mv m 2 true):=by
  show _=_;refine(ms0 i).trans ?_;unfold kS;rw[if_neg (fun x=>x.2 (of_decide_eq_true A))]
 clear h I J N O dp t s n l i L r A a D;go_enter func29,ntmps29;go_wp2_with fail
 refine dQ d (ZG d G F) fun w2 HM2=>?_;rw[z.out];have B:=HM2.x2;rw[W.out]at B;go_wp2_with fail
 refine(iD.dO (c.toNat:Int) _).mono ?_;rintro e7 Z ⟨rfl,rfl⟩;rw[y.out];go_wp2_with fail
 refine dQ HM2 (lC HM2 G F HB) fun w3 HM3=>?_;go_wp2_with fail
 refine jw (iy HM3 Q 2 true) fun w4 f=>?_;go_wp2
 go_end0
 exact⟨rfl,by rw[H.out];exact f,trivial⟩
theorem Zf (dp:Dp) (h:MX k m q w) (D:m.p=(j:Int)) (F:k.T.drop j=R) (H:k.T.length≤4611686018427387904) (I:j≤k.T.length) (t:m.buf.length≤900000) (r:m.u.txt.length≤100000000) (n:m.st=10→m.buf.all nZ=true) (i:j+1≤4611686018427387904) (f:m.st=6):Calls prog 29 #[.pointer (some ⟨k.g,0,none⟩)] w fun e w'=>e=.returned (.tuple #[])∧MX k (aY k.base m R) q w'∧True:=by
 have d:=hid h;have B:=hid D;have A:=hid F;have J:Hid (-4611686018427387904≤m.p∧m.p≤4611686018427387904):=⟨by omega,by omega⟩;have L:=hid f;obtain⟨v,E⟩:∃v,(cc R).toNat=v:=⟨_,rfl⟩;have HV:=hid E;obtain⟨s,c⟩:∃s,sp m=s:=⟨_,rfl⟩;have z:=hid c;obtain⟨l,a⟩:∃l,kM (sp m) R=l:=⟨_,rfl⟩;have G:=hid a;rcases s with _|_
 ·rcases l with _|_
  ·have C:Hid (aY k.base m R=mv (lJ k.b m) 15 true):=by
    show _=_;refine(ms6 f).trans ?_;unfold iZ;rw[if_neg (fun x=>by rw[c]at x;exact absurd x.1 (by decide)),if_neg (by rw[a];decide)];try rfl
   clear h D F H I dp t r n i f E c a;go_enter func29,ntmps29;go_wp2_with fail
   refine dQ d (yQ d B A HV) fun w2 HM2=>?_;have y:=HM2.x2;rw[L.out]at y;go_wp2_with fail
   refine dQ HM2 (dX HM2 z) fun w3 HM3=>?_;go_wp2_with fail
   refine dQ HM3 (bM HM3 B A G) fun w4 HM4=>?_;go_wp2_with fail
   refine jw (J3 HM4) fun w5 HM5=>?_;clear y;go_wp2_with fail
   refine jw (iy HM5 J 15 true) fun w6 HM6=>?_;go_wp2
   go_end0
   exact⟨rfl,by rw[C.out];exact HM6,trivial⟩
  have C:Hid (aY k.base m R=begin' m):=by
   show _=_;refine(ms6 f).trans ?_;unfold iZ;rw[if_neg (fun x=>by rw[c]at x;exact absurd x.1 (by decide)),if_pos a];try rfl
  clear h D F H I dp t r n i f E c a;go_enter func29,ntmps29;go_wp2_with fail
  refine dQ d (yQ d B A HV) fun w2 HM2=>?_;have y:=HM2.x2;rw[L.out]at y;go_wp2_with fail
  refine dQ HM2 (dX HM2 z) fun w3 HM3=>?_;go_wp2_with fail
  refine dQ HM3 (bM HM3 B A G) fun w4 HM4=>?_;go_wp2_with fail
  refine jw (DK HM4 J) fun w5 HM5=>?_;go_wp2
  go_end0
  exact⟨rfl,by rw[C.out];exact HM5,trivial⟩
 rcases l with _|_
 ·have C:Hid (aY k.base m R=mv (lJ k.b m) 15 true):=by
   show _=_;refine(ms6 f).trans ?_;unfold iZ;rw[if_neg (fun x=>by rw[a]at x;exact absurd x.2 (by decide)),if_neg (by rw[a];decide)];try rfl
  clear h D F H I dp t r n i f E c a;go_enter func29,ntmps29;go_wp2_with fail
  refine dQ d (yQ d B A HV) fun w2 HM2=>?_;have y:=HM2.x2;rw[L.out]at y;go_wp2_with fail
  refine dQ HM2 (dX HM2 z) fun w3 HM3=>?_;go_wp2_with fail
  refine dQ HM3 (bM HM3 B A G) fun w4 HM4=>?_;go_wp2_with fail
  refine dQ HM4 (bM HM4 B A G) fun w5 HM5=>?_;go_wp2_with fail
  refine jw (J3 HM5) fun w6 HM6=>?_;clear y;go_wp2_with fail
  refine jw (iy HM6 J 15 true) fun w7 HM7=>?_;go_wp2
  go_end0
  exact⟨rfl,by rw[C.out];exact HM7,trivial⟩
 have C:Hid (aY k.base m R=mv m 7 false):=by
  show _=_;refine(ms6 f).trans ?_;unfold iZ;rw[if_pos ⟨c,a⟩];try rfl
 clear h D F H I dp t r n i f E c a;go_enter func29,ntmps29;go_wp2_with fail
 refine dQ d (yQ d B A HV) fun w2 HM2=>?_;have y:=HM2.x2;rw[L.out]at y;go_wp2_with fail
 refine dQ HM2 (dX HM2 z) fun w3 HM3=>?_;go_wp2_with fail
 refine dQ HM3 (bM HM3 B A G) fun w4 HM4=>?_;go_wp2_with fail
 refine jw (iy HM4 J 7 false) fun w5 HM5=>?_;go_wp2
 go_end0
 exact⟨rfl,by rw[C.out];exact HM5,trivial⟩
end acI
namespace fJ
open Go.RowKit Base bC vU jX
variable {k:K} {m:M} {q:Value} {w w':World}
theorem MX.ug (h:MX k m q w) {v:Value} {P:List ByteArray} (a:w.ownsRow k.B 9 1 v P.length (P.map Value.string)):MX k {m with u:={m.u with aF:=P}} v (w.setCell ⟨k.g,12,none⟩ v):=⟨heap_setCell_same w k.g 12 _ _ _ h.row,gQ a (iP h.row a),h.bF.setCell h.le _,h.le⟩
structure Nv (k:K) (m:M) (q:Value) (w:World):Prop where
 row:w.heap[k.g]?=some (.cells (Ou k m q) 61 (0,0))
 bF:Below k.B k.w0 w
 le:k.B≤k.g
theorem Nv.thaw (h:Nv k m q w) (i:Nat):w.frozen? ⟨k.g,i,none⟩=false:=frozen_of_row w k.g i _ _ h.row
theorem Nv.ug (h:Nv k m q w) {v:Value} {P:List ByteArray} (a:w.ownsRow k.B 9 1 v P.length (P.map Value.string)):MX k {m with u:={m.u with aF:=P}} v (w.setCell ⟨k.g,12,none⟩ v):=⟨heap_setCell_same w k.g 12 _ _ _ h.row,gQ a (iP h.row a),h.bF.setCell h.le _,h.le⟩
theorem MX.grown (h:MX k m q w) (a:w.grownBy w' q.ownBlock):Nv k m q w':=
 ⟨(a.block _ h.lt (fun e=>iP h.row h.own e.symm)).trans h.row,h.bF.grown a h.size (fun g' hg'=>(h.own.lt g' hg').1),h.le⟩
theorem Nv.x12 (h:Nv k m q w):w.cell? ⟨k.g,12,none⟩=some q:=cell_of_row w k.g 12 _ _ _ h.row
theorem Nv.x3 (h:Nv k m q w):w.cell? ⟨k.g,3,none⟩=some (.string (ah m.buf)):=cell_of_row w k.g 3 _ _ _ h.row
theorem MX.BP (h:MX k m q w) {P:List ByteArray} {N:Nat} (a:m.u.aF=P) (c:P.length=N):w.ownsRow k.B 9 1 q N (P.map Value.string):=by
 have:=h.own;rw[a,c]at this;exact this
theorem Am {w:World} {B N:Nat} {v:Value} {P:List ByteArray} {x:ByteArray} (a:P.length=N) (h:w.ownsRow B 9 1 v (N+1) (P.map Value.string++[Value.string x])):w.ownsRow B 9 1 v (P++[x]).length ((P++[x]).map Value.string):=by
 rw[List.length_append,a,List.map_append];exact h
end fJ
namespace eU
open Go.RowKit
section
variable {P:Program} {md:Region.Mode} {ops:Array Oper} {Q:Exit→Act→World→Prop}
def JM (md:Region.Mode) (ops:Array Oper) (ns:List (List Nat)) (n:Nat) (pre:List Nat):Bool:=
 decide (n<ops.size)&&wM md ops ns&&((List.range n).all fun k=>pre.contains k||(ns.getD n []).contains k)&&
 ((List.range ops.size).all fun i=>decide (i≤n)||match ops[i]? with
  |none=>false
  |some o=>o.after.any fun e=>Region.binds md e&&decide (n≤e.on))&&
 Region.seqB md ops (ops.size - n) n (List.replicate n true++List.replicate (ops.size - n) false).toArray
theorem Gi {A:(Nat→Value)→Act} {w0:World} {R:List Keep} {ns:List (List Nat)} {n:Nat} {pre:List Nat} (I:JM md ops ns n pre=true) (r:Steps P ops Q A w0 R 0 (ops.toList.take n) ns)
  (fin:∀t w,Below w0.heap.size w0 w→Have R t w (List.range n)→wpList P ops Q (ops.toList.drop n) (A t) w):
  ∀(c:Nat) (a:Array Bool) (t:Nat→Value) (w:World),Xk ops w0 R ns n a t w→(∀k ∈ pre,a.getD k false=true)→J6 ops a=c→wpAny P md ops Q c a (A t) w:=by
 unfold JM at I;simp only[Bool.and_eq_true,decide_eq_true_eq]at I;obtain⟨⟨⟨⟨Y,N⟩,F⟩,H⟩,C⟩:=I
 -- all of the head is a:the tail,in its order
 have done : ∀ (c : Nat) (a : Array Bool) (t : Nat → Value) (w : World), Xk ops w0 R ns n a t w → J6 ops a = c → (∀ i, i < n → a.getD i false = true) → wpAny P md ops Q c a (A t) w := by
  intro c a t w h B s;have z:a=(List.replicate n true++List.replicate (ops.size - n) false).toArray:=by
   apply Array.ext
   ·simp[h.size];omega
   ·intro i l J;have W:=h.size;simp only[List.getElem_toArray];by_cases hi:i<n
    ·have:=s i hi;simp[Array.getD,l]at this;rw[List.getElem_append_left (by simpa using hi)];simpa using this
    ·have:=h.tail i (by omega);simp[Array.getD,l]at this;rw[List.getElem_append_right (by simpa using hi)];simpa using this
  have hf:c=(ops.toList.drop n).length:=by
   rw[←B];unfold J6;have e:ops.size=n+(ops.size - n):=by omega
   rw[e,List.range_add,List.countP_append];have T:(List.range n).countP (fun i=> !a.getD i true)=0:=by
    rw[List.countP_eq_zero];intro i hi;have x:=List.mem_range.1 hi;rw[qW (by rw[h.size];omega) true false,s i x];decide
   have O:((List.range (ops.size - n)).map (n+·)).countP (fun i=> !a.getD i true)=((List.range (ops.size - n)).map (n+·)).length:=by
    rw[List.countP_eq_length];intro i hi;obtain⟨j,y,rfl⟩:=List.mem_map.1 hi;have X:=List.mem_range.1 y;rw[qW (by rw[h.size];omega) true false,h.tail (n+j) (by omega)];rfl
   rw[T,O];simp
  have V:=fin t w h.below (mQ _ fun k f=>(h.held k (s k (by simpa using f))).1);rw[hf];refine wpAny_of_seq (md:=md) (ops.toList.drop n) n a (A t) w (fun j=>by simp[List.getElem?_drop]) ?_ V;rw[z];simpa using C
 intro c;induction c with
 |zero=>
  intro a t w h _ B;refine done 0 a t w h B fun i hi=>?_;cases e:a.getD i false with
  |true=>rfl
  |false=>
   have:=nY h.size (show i<ops.size by omega) (by rw[qW (by rw[h.size];omega) true false];exact e);omega
 | succ c ih=>
  intro a t w h q B;by_cases s:∀i,i<n→a.getD i false=true
  ·exact done (c+1) a t w h B s
  have G:Region.ready md ops a≠[]:=fun hr=>s fun i hi=>qo N h.size hr (i+1) i (by omega) (by omega);refine⟨fun L=>absurd L G,fun i hi=>?_⟩;obtain⟨L,o,D,d⟩:=mem_ready.1 hi;have E:=(Array.getElem?_eq_some_iff.1 D).1;have g:∀k ∈ ns.getD i [],a.getD k false=true:=fun k f=>by
   obtain⟨e,z,m,f⟩:=(qF N D).2 k f;rcases f with rfl|f
   ·exact d e z m
   ·exact(h.held e.on (d e z m)).2 k f
  have x:i<n:=by
   rcases Nat.lt_trichotomy i n with hlt'|rfl|hgt
   ·exact hlt'
   ·exact absurd (fun k f=>by
     have l:=List.all_eq_true.1 F k (List.mem_range.2 f);simp only[Bool.or_eq_true,List.contains_iff_mem]at l;exact l.elim (fun l=>q k l) (fun l=>g k l)) s
   ·have l:=List.all_eq_true.1 H i (List.mem_range.2 E);simp only[D,Bool.or_eq_true,decide_eq_true_eq]at l;rcases l with l|l
    ·omega
    ·obtain⟨e,z,m⟩:=Array.any_eq_true'.1 l;simp only[Bool.and_eq_true,decide_eq_true_eq]at m;have J:=d e z m.1;rw[h.tail e.on m.2]at J;cases J
  have aU:=Steps.at (ops.toList.take n) 0 ns r i o (by rw[List.getElem?_take,if_pos x];simpa using D);rw[Nat.zero_add]at aU;refine wpOp_step D fun K hK=>aU t w h.below (mQ _ fun k f=>(h.held k (g k f)).1) K fun v w' m hv=>hK _ _ (ih _ _ _ ⟨⟨h.below.trans (m.mono h.below.size),by simpa using h.size,fun j y=>?_⟩,fun j y=>?_⟩ (fun k f=>getD_set_true (q k f)) ?_)
  ·by_cases hji:j=i
   ·subst hji;refine⟨by simpa[upd]using hv,fun k f=>getD_set_true (g k f)⟩
   ·rw[getD_set_ne false (Ne.symm hji)]at y;have:=h.held j y;refine⟨by simp only[upd,if_neg hji];exact(pick R j).stays _ _ _ m this.1,fun k f=>getD_set_true (this.2 k f)⟩
  ·rw[getD_set_ne false (by omega)];exact h.tail j y
  ·have:=nY h.size E L;omega
def Wv (k:Nat) (listed:Array Bool) (ns:List (List Nat)) (n:Nat) (pre:List Nat):Bool:=
 decide (listed.size=k)&&((List.range k).all fun i=>listed.getD i false==pre.contains i)&&(pre.all fun i=>decide (i<n)&&(ns.getD i []).all fun j=>pre.contains j)
theorem Gh {l:List Oper} {a:Act} {w:World} (n:Nat) (R:List Keep) (ns:List (List Nat)) (pre:List Nat) {c:Array Bool} {d:Nat} (q:JM .any l.toArray ns n pre=true) (s:Wv l.length c ns n pre=true) (z:J6 l.toArray c=d)
  (D:∀k ∈ pre,(pick R k).says (now (l.take n) a k) w)
  (g:Steps P l.toArray Q (fun t=>dS t n l 0 a) w R 0 (l.take n) ns)
  (fin:∀t w',Below w.heap.size w w'→Have R t w' (List.range n)→wpList P l.toArray Q (l.drop n) (dS t n l 0 a) w'):wpAny P .any l.toArray Q d c a w:=by
 unfold Wv at s;simp only[Bool.and_eq_true,decide_eq_true_eq]at s;obtain⟨⟨m,y⟩,r⟩:=s;have f:∀i,c.getD i false=pre.contains i:=fun i=>by
  by_cases hi:i<l.length
  ·have:=List.all_eq_true.1 y i (List.mem_range.2 hi);simpa using this
  ·have C:c.getD i false=false:=by simp[Array.getD,m,hi]
   have B:pre.contains i=false:=by
    cases e:pre.contains i with
    |false=>rfl
    |true=>
     have:=List.all_eq_true.1 r i (by simpa using e);simp only[Bool.and_eq_true,decide_eq_true_eq]at this;have x:n<l.toArray.size:=by
      unfold JM at q;simp only[Bool.and_eq_true,decide_eq_true_eq]at q;exact q.1.1.1.1
     simp at x;omega
   rw[C,B]
 have h := Gi (P := P) (Q := Q) (md := .any) (ops := l.toArray) (A := fun t => dS t n l 0 a) (w0 := w) (R := R) (ns := ns) (n := n) (pre := pre) q (by simpa using g) (by simpa using fin) d c (now (l.take n) a) w
  ⟨⟨Below.refl _ _,by simpa using m,fun i hi=>by
   rw[f]at hi;have v:i ∈ pre:=by simpa using hi
   have:=List.all_eq_true.1 r i v;simp only[Bool.and_eq_true,decide_eq_true_eq]at this;exact⟨D i v,fun k hk=>by rw[f];exact List.all_eq_true.1 this.2 k hk⟩⟩,fun i hi=>by
    rw[f];cases e:pre.contains i with
    |false=>rfl
    |true=>
     have:=List.all_eq_true.1 r i (by simpa using e);simp only[Bool.and_eq_true,decide_eq_true_eq]at this;omega⟩ (fun k hk=>by rw[f];simpa using hk) z
 have e:dS (now (l.take n) a) n l 0 a=a:=by rw[uJ];exact qy a (l.take n) (l.take n) 0 (fun j=>by simp)
 have E:wpAny P .any l.toArray Q d c (dS (now (l.take n) a) n l 0 a) w:=h
 rwa[e]at E
end
end eU
