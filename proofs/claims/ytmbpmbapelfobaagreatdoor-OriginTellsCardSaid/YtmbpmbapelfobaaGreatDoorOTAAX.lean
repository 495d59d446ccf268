/- Lemmas. -/
import Derived.Test.YtmbpmbapelfobaaGreatDoorOTAAW
set_option linter.unusedSimpArgs false
set_option linter.unusedVariables false
set_option maxRecDepth 100000
set_option maxHeartbeats 64000000
namespace Go.Proofs.YtmbpmbapelfobaaGreatDoor
open Tryz
namespace abP
open Go.RowKit iy mJ ig fJ jq aC jY UY YE abO
variable {S:List UInt8} {base:Option U}
theorem Yn (f sp:Bool):∀(W:List UInt8) (l:List ByteArray) (b P:List UInt8),(∀c ∈ W,bU sp c=false)→wb f sp l b (W++P)=wb f sp l (b++W) P
 |[],l,b,P,_=>by rw[List.nil_append,List.append_nil]
 |c::W,l,b,P,h=>by
  rw[List.cons_append,wb,if_neg (by rw[h c List.mem_cons_self];decide),Yn f sp W l (b++[c]) P (fun d hd=>h d (List.mem_cons_of_mem _ hd)),List.append_assoc]
  rfl
theorem Vj {P T:List UInt8} (e:bY T=true):pR (P++T)=pR P:=by
 match T,e with
 |[],_=>rw[List.append_nil]
 | t :: T, e =>
  have f:t=63∨t=35:=by simpa[bY]using e
  match P with
  |[]=>
   have d:∀b,mO [t,b]=false:=by
    intro b;rcases f with rfl|rfl<;>rfl
   match T with
   |[]=>rfl
   |[b]=>exact d b
   |b::c::_=>
    show(mO [t,b]&&_)=false;rw[d];rfl
  |[a]=>
   have d:mO [a,t]=false:=by
    rcases f with rfl|rfl<;>simp[mO]
   match T with
   |[]=>exact d
   |c::_=>
    show(mO [a,t]&&_)=false;rw[d];rfl
  |[a,b]=>
   show(mO [a,b]&&(decide (t=47)||decide (t=92)||decide (t=63)||decide (t=35)))=mO [a,b];rcases f with rfl|rfl<;>simp
  |a::b::c::P=>rfl
theorem Yg {P T:List UInt8} (c:bY T=true):two (P++T)=two P:=by
 match T,c with
 |[],_=>rw[List.append_nil]
 |t::T,c=>
  have f:¬t=47:=by
   intro e;rw[e]at c;simp[bY]at c
  have d:((47:UInt8)==t)=false:=by simpa using fun e=>f e.symm
  match P with
  |[]=>simp[two,Lib.hasPrefix,List.isPrefixOf,d]
  |[a]=>simp[two,Lib.hasPrefix,List.isPrefixOf,d]
  |a::b::P=>simp[two,Lib.hasPrefix,List.isPrefixOf]
theorem EU (sp:Bool) (k:Nat):iL sp [] k=false:=by simp[iL]
theorem BI (sp:Bool) (c:UInt8) (P:List UInt8):iL sp (c::P) 0=bU sp c:=rfl
theorem Io (sp:Bool) (c:UInt8) (P:List UInt8):iL sp (c::P) 1=iL sp P 0:=by simp[iL]
theorem o7 (sp:Bool) {P T:List UInt8} (a:bY T=true):kR sp (P++T)=iL sp P 0:=by
 match P with
 |[]=>rw[List.nil_append,J4 sp a,EU]
 |c::P=>rfl
theorem NG {P T:List UInt8} (a:Mid P) (d:bY T=true):bY (P++T)=decide (P=[]):=by
 match P,a with
 |[],_=>rw[List.nil_append,d];rfl
 |c::P,a=>rw[kP a];rfl
theorem drop_one {P T:List UInt8} (h:P≠[]):(P++T).drop 1=P.drop 1++T:=by
 match P,h with
 |c::P,_=>rfl
theorem oQ {P:List UInt8} (a:Mid P) (k:Nat):Mid (P.drop k):=fun c hc=>a c (List.mem_of_mem_drop hc)
theorem uQ {au P:List UInt8} (h:iL (aj au) P 0=true):aG au P=walk au [] (P.drop 1):=by
 unfold aG;rw[if_neg (by rintro⟨rfl,_⟩;rw[EU]at h;cases h),if_pos h]
theorem drop_at {k:Nat} {P T:List UInt8} (a:S.drop k=P++T) (h:P≠[]):S.drop (k+1)=P.drop 1++T∧k<S.length:=by
 match P,h with
 |c::P,_=>exact drop_cons a
theorem kN {sp:Bool} {P:List UInt8} (h:iL sp P 0=true):P≠[]:=by
 rintro rfl;rw[EU]at h;cases h
theorem Eo {P T:List UInt8} (h:P≠[]):decide (P++T=[])=false:=by
 match P,h with
 |c::P,_=>rfl
theorem rM {V:U} {P T:List UInt8} {k:Nat} {m:M} (e:m.p=k) (i:S.drop k=P++T) (g:k≤S.length) (d:m.st=15) (a:m.u=V) (h:m.buf=[]) (f:Mid P) (c:bY T=true):Run S base m (some (fG {V with aF:=walk V.au V.aF P} T)):=by
 subst a;have:=tu (base:=base) P T k m e i g d f c;rw[h]at this;exact this
theorem tail_at {V:U} {T:List UInt8} {k:Nat} {m:M} (e:m.p=k) (h:S.drop k=T) (f:k≤S.length) (g:m.buf=[]) (d:m.st≠19) (a:m.u=V) (c:bY T=true):lY S base (out S (decide (T=[])) (jY.tail m T)) (some (fG V T)):=by
 subst a;exact Aw e h f g d c
def aak (b:U) (P T:List UInt8):Option U:=if iL (aj b.au) P 0=true then(authority b.au (if aj b.au=true then(P.drop 1).dropWhile (bU true)else P.drop 1)).map fun u=>fG u T else some (fG {aN b with aF:=walk b.au [] P} T)
theorem Ug {b:U} {P T:List UInt8} {k:Nat} {m:M} (f:m.p=k) (j:S.drop k=P++T) (i:k≤S.length) (e:m.st=6) (d:CJ m) (a:m.u.au=b.au) (l:Mid P) (g:bY T=true):
  Run S (some b) m (aak b P T):=by
 unfold aak;by_cases h1:iL (aj b.au) P 0=true
 ·obtain⟨n,q⟩:=drop_at j (kN h1);have c:kR (aj b.au) (P++T)=true:=by rw[o7 _ g];exact h1
  rw[if_pos h1];cases h2:aj b.au with
  |true=>
   rw[h2]at c;rw[if_pos rfl];refine bG f i j (by rw[e];decide) ?_;rw[ms6 e,Eo (kN h1)];show lY S (some b) (out S _ (jc b m _)) _;unfold jc sp;rw[a,h2,if_pos ⟨rfl,c⟩];refine fM (k:=k) f ?_;have:=PN (base:=some b) (P.drop 1) T (k+1) {mv m 7 false with p:=((k+1:Nat):Int)} rfl n (by omega) rfl ⟨d.u,d.buf,d.inn,d.sign,d.pass⟩ (by show aj m.u.au=true;rw[a,h2]) (oQ l 1) g;rw[show({mv m 7 false with p:=((k+1:Nat):Int)}:M).u.au=b.au from a]at this;exact this
  |false=>
   rw[h2]at c;rw[if_neg (by decide)];refine bG f i j (by rw[e];decide) ?_;rw[ms6 e,Eo (kN h1)];show lY S (some b) (out S _ (jc b m _)) _;unfold jc sp;rw[a,h2,if_neg (fun h=>by cases h.1),if_pos c];refine fM (k:=k) f ?_;have:=Bl (base:=some b) (m:={begin' m with p:=((k+1:Nat):Int)}) rfl n (by omega) rfl d.u rfl d.inn d.sign d.pass (oQ l 1) g;rw[show({begin' m with p:=((k+1:Nat):Int)}:M).u.au=b.au from a]at this;exact this
 ·have c:¬kR (aj b.au) (P++T)=true:=by rw[o7 _ g];exact h1
  rw[if_neg h1];refine bG f i j (by rw[e];decide) ?_;rw[ms6 e];show lY S (some b) (out S _ (jc b m _)) _;unfold jc sp;rw[a,if_neg (fun h=>c h.2),if_neg c];refine fB (k:=k) (by show m.p - 1=_;rw[f]) i ?_;refine rM (V:=aN b) (m:={mv (lN b m) 15 true with p:=(k:Int)}) rfl j i rfl ?_ d.buf l g;show({m.u with bT:=b.bT,bW:=b.bW,hh:=b.hh,aS:=b.aS,port:=b.port}:U)=_;rw[d.u,a];rfl
theorem Rn {b:U} {P T:List UInt8} {k:Nat} {m:M} (j:m.p=k) (n:S.drop k=P++T) (l:k≤S.length) (i:m.st=5) (f:CJ m) (q:Mid P) (g:bY T=true):
  Run S (some b) m ((dO P b).map fun u=>fG u T):=by
 have r:∀(st:Nat) (p:Int),CJ ({m with u:={m.u with au:=b.au},st:=st,p:=p}:M):=fun st p=>⟨by show({m.u with au:=b.au}:U)={U0 with au:=b.au,port:= -1};rw[f.u],f.buf,f.inn,f.sign,f.pass⟩;by_cases h1:iL (aj b.au) P 0=true
 ·obtain ⟨s,t⟩:=drop_at n (kN h1);have d:kR (aj b.au) (P++T)=true:=by rw[o7 _ g];exact h1
  have e:iL (aj b.au) P 1=iL (aj b.au) (P.drop 1) 0:=by
   match P,kN h1 with
   |c::P,_=>exact Io _ c P
  have a:(dO P b).map (fun u=>fG u T)=aak b (P.drop 1) T:=by
   unfold dO aak;rw[h1,e];by_cases h2:iL (aj b.au) (P.drop 1) 0=true
   ·rw[if_pos ⟨rfl,h2⟩,if_pos h2,List.drop_drop]
   ·rw[if_neg (fun h=>h2 h.2),if_pos rfl,if_neg h2,uQ h1];rfl
  rw[a];refine bG j l n (by rw[i];decide) ?_;rw[ms5 i,Eo (kN h1)];show lY S (some b) (out S _ (lJ b m _)) _;unfold lJ;rw[if_pos d];refine fM (k:=k) j ?_;exact Ug (b:=b) (P:=P.drop 1) (T:=T) (k:=k+1) (m:={m with u:={m.u with au:=b.au},st:=6,p:=((k+1:Nat):Int)}) rfl s (by omega) rfl (r _ _) rfl (oQ q 1) g
 ·have d:¬kR (aj b.au) (P++T)=true:=by rw[o7 _ g];exact h1
  by_cases hP:P=[]
  ·subst hP;have a:(dO [] b).map (fun u=>fG u T)=some (fG (along (aN b) b) T):=by
    unfold dO;rw[if_neg (fun h=>h1 h.1),if_neg h1,if_pos rfl];rfl
   rw[a];refine bG j l n (by rw[i];decide) ?_;rw[ms5 i];show lY S (some b) (out S _ (lJ b m _)) _;unfold lJ;rw[if_neg d,if_pos (show bY ([]++T)=true from g)];refine tail_at (V:=along (aN b) b) (k:=k) (m:={lN b {m with u:={m.u with au:=b.au}}with u:={(lN b {m with u:={m.u with au:=b.au}}).u with aF:=b.aF,hq:=b.hq,bQ:=b.bQ}}) j n l f.buf (by show m.st≠19;rw[i];decide) ?_ g;show({({m.u with au:=b.au}:U)with bT:=b.bT,bW:=b.bW,hh:=b.hh,aS:=b.aS,port:=b.port,aF:=b.aF,hq:=b.hq,bQ:=b.bQ}:U)=_;rw[f.u];rfl
  ·have a:(dO P b).map (fun u=>fG u T)=some (fG {aN b with aF:=walk b.au (jd false b.aF) P} T):=by
    unfold dO;rw[if_neg (fun h=>h1 h.1),if_neg h1,if_neg hP];rfl
   rw[a];refine bG j l n (by rw[i];decide) ?_;rw[ms5 i];show lY S (some b) (out S _ (lJ b m _)) _;unfold lJ;rw[if_neg d,if_neg (by rw[NG q g];simpa using hP)];refine fB (k:=k) (by show m.p - 1=_;rw[j]) l ?_;refine rM (V:={aN b with aF:=jd false b.aF}) (m:={m with u:={({m.u with au:=b.au}:U)with bT:=b.bT,bW:=b.bW,hh:=b.hh,aS:=b.aS,port:=b.port,aF:=jd false b.aF,hq:=false,bQ:=[]},st:=15,p:=(k:Int)}) rfl n l rfl ?_ f.buf q g;show({({m.u with au:=b.au}:U)with bT:=b.bT,bW:=b.bW,hh:=b.hh,aS:=b.aS,port:=b.port,aF:=jd false b.aF,hq:=false,bQ:=[]}:U)=_;rw[f.u];rfl
structure Bas (b:U):Prop where
 file:b.au=aB→b.bT=[]∧b.bW=[]∧b.port= -1∧b.hh=true
 bP:b.bP=true→b.bT=[]∧b.bW=[]∧b.aS=[]∧b.hh=false∧b.port= -1∧b.aF=[]
theorem spF:aj aB=true:=by decide
theorem SN:∀(P T W:List UInt8) (k:Nat) (m:M),m.p=k→S.drop k=P++T→k≤S.length→m.st=13→m.u=uF→m.buf=W→(∀c ∈ W,bU true c=false)→Mid P→bY T=true→Run S base m ((far (W++P)).map fun u=>fG u T):=by
 have fin : ∀ (P T W : List UInt8) (k : Nat) (m : M), m.p = k → S.drop k = P ++ T → k ≤ S.length → m.st = 13 → m.u = uF → m.buf = W → (∀ c ∈ W, bU true c = false) → Mid P → bY T = true → (bY (P ++ T) = true ∨ kR true (P ++ T) = true) → upto true P = 0 → Run S base m ((far (W ++ P)).map fun u => fG u T) := by
  intro P T W k m j n a r f l i s q v y;have g:sp m=true:=by unfold sp;rw[f];exact spF
  refine bG j a n (by rw[r];decide) ?_;rw[acD r];unfold dB;rw[if_neg (by rw[g];rintro⟨x,z⟩;rcases v with h|h<;>simp_all),l]
  have C:(W++P).take (upto true (W++P))=W:=by rw[pq _ _ _ i,y,Nat.add_zero,List.take_left'];rfl
  have B:(W++P).drop (upto true (W++P))=P:=by rw[pq _ _ _ i,y,Nat.add_zero,List.drop_left'];rfl
  unfold far;rw[C,B];by_cases t:mO W=true
  ·rw [if_pos t, if_pos t];refine fB (k:=k) (by show m.p - 1=_;rw[j]) a ?_;have:=tu (base:=base) P T k {mv m 15 true with p:=(k:Int)} rfl n a rfl s q;rw[show({mv m 15 true with p:=(k:Int)}:M).u=uF from f,show({mv m 15 true with p:=(k:Int)}:M).buf=W from l]at this;have A:aG aB (W++P)=wb true true [] W P:=by
    match W,t,i with
    |[],t,_=>cases t
    |c::W,_,i=>
     unfold aG walk;rw[if_neg (by rintro⟨h,_⟩;cases h),spF,if_neg (by rw[List.cons_append,BI,i c List.mem_cons_self];decide),Yn _ _ (c::W) [] [] P i];rfl
   rw[A];exact this
  rw[if_neg t,if_neg t];by_cases hw:W=[]
  ·rw[if_pos hw,if_pos hw];refine fB (k:=k) (by show m.p - 1=_;rw[j]) a ?_;have:=oD (base:=base) (m:={mv m 14 true with p:=(k:Int)}) rfl n a rfl (by show m.buf=[];rw[l,hw]) (by show m.u.aF=[];rw[f];rfl) s q;rw[show({mv m 14 true with p:=(k:Int)}:M).u=uF from f]at this;exact this
  rw[if_neg hw,if_neg hw];unfold met;rw[g,l];cases hh:aS W true with
  |none=>exact lI S base _ _ rfl
  |some H=>
   rw[Option.isSome_some,if_neg (by decide)];have e:meet m={m with u:={uF with aS:=H},buf:=[]}:=by
    unfold meet;rw[g,l,hh,f];rfl
   rw[e];refine fB (k:=k) (by show m.p - 1=_;rw[j]) a ?_;exact oD (base:=base) (m:={mv {m with u:={uF with aS:=if H=LOCAL then[]else H},buf:=[]} 14 true with p:=(k:Int)}) rfl n a rfl rfl rfl s q
 intro P;induction P with
 |nil=>
  intro T W k m j n a r f l i s q;exact fin [] T W k m j n a r f l i s q (.inl q) rfl
 |cons c P ih=>
  intro T W k m j n a r f l i s q;obtain⟨x,z⟩:=drop_cons n;by_cases hc:bU true c=true
  ·exact fin (c::P) T W k m j n a r f l i s q (.inr hc) (by rw[upto,if_pos hc])
  have w:bU true c=false:=by cases h:bU true c with|true=>exact absurd h hc|false=>rfl
  have g:sp m=true:=by unfold sp;rw[f];exact spF
  refine bG j a n (by rw[r];decide) ?_;rw[acD r,rZ];unfold dB;rw[g,if_pos ⟨kP s T,w⟩];refine fM (k:=k) j ?_;rw[show W++c::P=(W++[c])++P by simp];exact ih T (W++[c]) (k+1) {m with buf:=m.buf++[c],p:=((k+1:Nat):Int)} rfl x (by omega) r f (by show m.buf++[c]=_;rw[l]) (by
   intro d t;rcases List.mem_append.1 t with h|h
   ·exact i d h
   rw[List.mem_singleton.1 h];exact w) s.tail q
def xZ (base:Option U):Option U:=base.filter fun b=>b.au=aB
theorem Es {b:U} (h:xZ base=some b):base=some b∧b.au=aB:=by
 obtain⟨c,a⟩:=Option.filter_eq_some_iff.1 h;exact⟨c,by simpa using a⟩
theorem host_eq {b:U} (f:Bas b) (a:b.au=aB) (l:List ByteArray) (h:Bool) (q:List UInt8):({uF with aS:=b.aS,aF:=l,hq:=h,bQ:=q}:U)={aN b with aF:=l,hq:=h,bQ:=q}:=by
 obtain⟨e,d,q3,c⟩:=f.file a;show(⟨aB,[],[],b.aS,true,-1,false,[],l,h,false,q,[]⟩:U)=⟨b.au,b.bT,b.bW,b.aS,b.hh,b.port,false,[],l,h,false,q,[]⟩;rw[e,d,q3,c,a]
theorem walk_eq {b:U} (a:b.au=aB) (l:List ByteArray) (P:List UInt8):({({aN b with aF:=l}:U)with aF:=walk ({aN b with aF:=l}:U).au ({aN b with aF:=l}:U).aF P}:U)={aN b with aF:=walk aB l P}:=by
 show({aN b with aF:=walk b.au l P}:U)=_;rw[a]
def Qx (o:Option U) (P T:List UInt8):Option U:=if iL true P 0=true then(far (P.drop 1)).map fun u=>fG u T else some (fG {(o.elim uF aN)with aF:=walk aB (if wG ((o.elim [] U.aF).head?.elim [] fun x=>x.data.toList)=true∧pR P=false then(o.elim [] U.aF).take 1 else[]) P} T)
theorem Oy {P T:List UInt8} {k:Nat} {m:M} (y:∀b,base=some b→Bas b) (i:m.p=k) (j:S.drop k=P++T) (d:k≤S.length) (g:m.st=12) (n:m.u=uF) (v:m.buf=[]) (s:Mid P) (f:bY T=true):
  Run S base m (Qx (xZ base) P T):=by
 have a:sp m=true:=by unfold sp;rw[n];exact spF
 unfold Qx;by_cases h1:iL true P 0=true
 ·obtain⟨z,B⟩:=drop_at j (kN h1);rw[if_pos h1];refine bG i d j (by rw[g];decide) ?_;rw[ZF g,Eo (kN h1)];unfold dN;rw[a,if_pos (by rw[o7 _ f];exact h1)];refine fM (k:=k) i ?_;exact SN (base:=base) (P.drop 1) T [] (k+1) {mv m 13 false with p:=((k+1:Nat):Int)} rfl z (by omega) rfl n v (fun c hc=>by cases hc) (oQ s 1) f
 ·rw [if_neg h1];have q:¬kR true (P++T)=true:=by rw[o7 _ f];exact h1
  cases hf:xZ base with
  |none=>
   show Run S base m (some (fG {uF with aF:=walk aB (if wG []=true∧pR P=false then[]else[]) P} T));rw[if_neg (by rintro⟨h,_⟩;cases h)];refine bG i d j (by rw[g];decide) ?_;rw[ZF g];unfold dN;rw[a,if_neg q,show base.filter (fun b=>b.au=aB)=none from hf];refine fB (k:=k) (by show m.p - 1=_;rw[i]) d ?_;exact rM (V:=uF) (m:={mv m 15 true with p:=(k:Int)}) rfl j d rfl n v s f
  | some b=>
   obtain⟨t,r⟩:=Es hf;obtain⟨l,w⟩:∃l,l=if wG (b.aF.head?.elim [] fun x=>x.data.toList)=true∧pR P=false then b.aF.take 1 else[]:=⟨_,rfl⟩
   show Run S base m (some (fG {aN b with aF:=walk aB (if wG (b.aF.head?.elim [] fun x=>x.data.toList)=true∧pR P=false then b.aF.take 1 else[]) P} T));rw[←w];have A:(if pR (P++T)=false∧wG (b.aF.head?.elim [] fun x=>x.data.toList)=true then m.u.aF++b.aF.take 1 else m.u.aF)=l:=by
    rw[w,n,Vj f];by_cases h:pR P=false∧wG (b.aF.head?.elim [] fun x=>x.data.toList)=true
    ·rw[if_pos h,if_pos ⟨h.2,h.1⟩];rfl
    ·rw[if_neg h,if_neg (fun e=>h ⟨e.2,e.1⟩)];rfl
   refine bG i d j (by rw[g];decide) ?_;rw[ZF g];unfold dN;rw[a,if_neg q,show base.filter (fun b=>b.au=aB)=some b from hf];refine fB (k:=k) (by show m.p - 1=_;rw[i]) d ?_;have:=rM (S:=S) (base:=base) (V:={aN b with aF:=l}) (P:=P) (T:=T) (k:=k) (m:={mv {m with u:={m.u with aS:=b.aS,aF:=if pR (P++T)=false∧wG (b.aF.head?.elim [] fun x=>x.data.toList)=true then m.u.aF++b.aF.take 1 else m.u.aF}} 15 true with p:=(k:Int)}) rfl j d rfl (by
    show({m.u with aS:=b.aS,aF:=if pR (P++T)=false∧wG (b.aF.head?.elim [] fun x=>x.data.toList)=true then m.u.aF++b.aF.take 1 else m.u.aF}:U)=_;rw[A,n];exact host_eq (y b t) r l false []) v s f
   exact(congrArg (fun x=>Run S base _ (some (fG x T))) (walk_eq r l P)).mp this
theorem LH {P T:List UInt8} {k:Nat} {m:M} (w:∀b,base=some b→Bas b) (i:m.p=k) (j:S.drop k=P++T) (g:k≤S.length) (f:m.st=11) (s:CJ m) (v:Mid P) (d:bY T=true):
  Run S base m ((file P (xZ base)).map fun u=>fG u T):=by
 have t:({m.u with au:=aB,hh:=true,aS:=[]}:U)=uF:=by rw[s.u];rfl
 by_cases h1:iL true P 0=true
 ·obtain ⟨z,A⟩:=drop_at j (kN h1);have e:iL true P 1=iL true (P.drop 1) 0:=by
   match P,kN h1 with
   |c::P,_=>exact Io _ c P
  have a:(file P (xZ base)).map (fun u=>fG u T)=Qx (xZ base) (P.drop 1) T:=by
   unfold file Qx;rw[h1,e];by_cases h2:iL true (P.drop 1) 0=true
   ·rw[if_pos ⟨rfl,h2⟩,if_pos h2,List.drop_drop]
   ·rw[if_neg (fun h=>h2 h.2),if_pos rfl,if_neg h2];rfl
  rw[a];refine bG i g j (by rw[f];decide) ?_;rw[WA f,Eo (kN h1)];unfold jh;rw[t,if_pos (by rw[o7 _ d];exact h1)];refine fM (k:=k) i ?_;exact Oy (base:=base) (P:=P.drop 1) (T:=T) (k:=k+1) (m:={m with u:=uF,st:=12,p:=((k+1:Nat):Int)}) w rfl z (by omega) rfl rfl s.buf (oQ v 1) d
 ·have n:¬kR true (P++T)=true:=by rw[o7 _ d];exact h1
  cases hf:xZ base with
  |none=>
   have a:(file P none).map (fun u=>fG u T)=some (fG {uF with aF:=walk aB [] P} T):=by
    unfold file;rw[if_neg (fun h=>h1 h.1),if_neg h1];have e:(if pR P=true then[]else jd true [])=([]:List ByteArray):=by split<;>rfl
    show some (fG {uF with aF:=walk aB (if pR P=true then[]else jd true []) P} T)=_;rw[e]
   rw[a];refine bG i g j (by rw[f];decide) ?_;rw[WA f];unfold jh;rw[t,if_neg n,show base.filter (fun b=>b.au=aB)=none from hf];refine fB (k:=k) (by show m.p - 1=_;rw[i]) g ?_;exact rM (V:=uF) (m:={m with u:=uF,st:=15,p:=(k:Int)}) rfl j g rfl rfl s.buf v d
  | some b=>
   obtain⟨r,q⟩:=Es hf;by_cases hP:P=[]
   ·subst hP;have a:(file [] (some b)).map (fun u=>fG u T)=some (fG (along (aN b) b) T):=by
     unfold file;rw[if_neg (fun h=>h1 h.1),if_neg h1];show Option.map _ (if ([]:List UInt8)=[]then _ else _)=_;rw[if_pos rfl];rfl
    rw[a];refine bG i g j (by rw[f];decide) ?_;rw[WA f];unfold jh;rw[t,if_neg n,show base.filter (fun b=>b.au=aB)=some b from hf];show lY S base (out S _ (if bY ([]++T)=true then _ else _)) _;rw[if_pos (show bY ([]++T)=true from d)];refine tail_at (V:=along (aN b) b) (k:=k) (m:={m with u:={uF with aS:=b.aS,aF:=b.aF,hq:=b.hq,bQ:=b.bQ}}) i j g s.buf (by show m.st≠19;rw[f];decide) ?_ d;exact host_eq (w b r) q _ _ _
   ·obtain⟨l,y⟩:∃l,l=if pR P=true then[]else jd true b.aF:=⟨_,rfl⟩
    have a:(file P (some b)).map (fun u=>fG u T)=some (fG {aN b with aF:=walk aB l P} T):=by
     unfold file;rw[if_neg (fun h=>h1 h.1),if_neg h1];show Option.map _ (if P=[]then _ else _)=_;rw[if_neg hP,y];rfl
    rw[a];refine bG i g j (by rw[f];decide) ?_;rw[WA f];unfold jh;rw[t,if_neg n,show base.filter (fun b=>b.au=aB)=some b from hf];show lY S base (out S _ (if bY (P++T)=true then _ else _)) _;rw[if_neg (by rw[NG v d];simpa using hP)];refine fB (k:=k) (by show m.p - 1=_;rw[i]) g ?_;have:=rM (S:=S) (base:=base) (V:={aN b with aF:=l}) (P:=P) (T:=T) (k:=k) (m:={m with u:={uF with aS:=b.aS,hq:=false,bQ:=[],aF:=if pR (P++T)=true then[]else jd true b.aF},st:=15,p:=(k:Int)}) rfl j g rfl (by
     show({uF with aS:=b.aS,hq:=false,bQ:=[],aF:=if pR (P++T)=true then[]else jd true b.aF}:U)=_;rw[Vj d,←y];exact host_eq (w b r) q l false []) s.buf v d
    exact(congrArg (fun x=>Run S base _ (some (fG x T))) (walk_eq q l P)).mp this
end abP
namespace NU
open Go.RowKit fA dw ig fJ jq aC jY UY YE abO abP
variable {S:List UInt8} {base:Option U}
theorem MF (more:Bool) (c:UInt8):∀q:List UInt8,ZP more (q++[c])=aP.enc 0 q++(if c=32∧more=true then[37,50,48]else aP.enc 0 [c])
 |[]=>by
  show(if c=32∧([]:List UInt8)=[]∧more=true then[37,50,48]else aP.enc 0 [c])++[]=[]++_
  rw[List.append_nil,List.nil_append]
  by_cases h:c=32∧more=true
  ·rw[if_pos h,if_pos ⟨h.1,rfl,h.2⟩]
  ·rw[if_neg h,if_neg (fun e=>h ⟨e.1,e.2.2⟩)]
 |d::q=>by
  rw[List.cons_append,ZP,if_neg (by rintro⟨_,h,_⟩;simp at h),MF more c q,←List.append_assoc,←eP]
  rfl
theorem acO (more:Bool) (P:List UInt8):ZP more P=aC.bP more P:=by
 rcases List.eq_nil_or_concat P with rfl|⟨q,c,rfl⟩
 ·rfl
 rw[List.concat_eq_append,MF];unfold aC.bP;by_cases h:c=32
 ·subst h;have e:aP.enc 0 (q++[32])=aP.enc 0 q++[32]:=by rw[eP];rfl
  rw[e,yV.bV,decide_eq_true rfl];cases more with
  |true=>
   rw[if_pos ⟨rfl,rfl⟩,if_pos ⟨rfl,rfl⟩];congr 1;unfold Lib.trimSuffix;rw[yV.bV,decide_eq_true rfl,if_pos rfl];simp
  |false=>
   rw[if_neg (fun h=>by cases h.2),if_neg (fun h=>by cases h.2)];rfl
 have a:Lib.hasSuffix (aP.enc 0 (q++[c])) [32]=false:=yV.CW _ (by rw[yV.bV];exact decide_eq_false h);rw[a,if_neg (fun e=>h e.1),if_neg (fun e=>by cases e.1),eP]
def tq:List UInt8→List UInt8×List UInt8×Bool×Bool
 |[]=>([],[],false,false)
 |c::T=>if c=63 then((aT 35 T).1,(aT 35 T).2.1,true,(aT 35 T).2.2)else([],T,false,true)
theorem zk (b:UInt8):∀(P R:List UInt8),(∀c ∈ P,c≠b)→aT b (P++R)=(P++(aT b R).1,(aT b R).2.1,(aT b R).2.2)
 |[],R,_=>rfl
 |d::P,R,h=>by
  rw[List.cons_append,aT,if_neg (h d List.mem_cons_self),zk b P R (fun c hc=>h c (List.mem_cons_of_mem _ hc))]
  rfl
theorem Ll (b:UInt8) (P:List UInt8) (h:∀c ∈ P,c≠b):aT b P=(P,[],false):=by
 have:=zk b P [] h;rw[List.append_nil]at this;rw[this];show(P++[],([]:List UInt8),false)=_;rw[List.append_nil]
theorem apart_eq {P T:List UInt8} (h:Mid P) (f:bY T=true):aC.apart (P++T)=if ((aT 58 P).2.2&&iY (aT 58 P).1)=true then⟨lower (aT 58 P).1,(aT 58 P).2.1,(tq T).1,(tq T).2.1,(tq T).2.2.1,(tq T).2.2.2⟩else⟨[],P,(tq T).1,(tq T).2.1,(tq T).2.2.1,(tq T).2.2.2⟩:=by
 have g:∀c ∈ P,c≠35:=fun c hc=>(h c hc).2;have a:∀c ∈ P,c≠63:=fun c hc=>(h c hc).1;have d : (aT 63 (aT 35 (P ++ T)).1).1 = P ∧ (aT 63 (aT 35 (P ++ T)).1).2.1 = (tq T).1 ∧ (aT 35 (P ++ T)).2.1 = (tq T).2.1 ∧ (aT 63 (aT 35 (P ++ T)).1).2.2 = (tq T).2.2.1 ∧ (aT 35 (P ++ T)).2.2 = (tq T).2.2.2 := by
  rw[zk 35 P T g]
  match T,f with
  |[],_=>
   show(aT 63 (P++[])).1=P∧(aT 63 (P++[])).2.1=[]∧([]:List UInt8)=[]∧(aT 63 (P++[])).2.2=false∧false=false;rw[List.append_nil,Ll 63 P a];exact⟨rfl,rfl,rfl,rfl,rfl⟩
  | t :: T, f =>
   have n:t=63∨t=35:=by simpa[bY]using f
   rcases n with rfl|rfl
   ·have e:aT 35 (63::T)=(63::(aT 35 T).1,(aT 35 T).2.1,(aT 35 T).2.2):=by rw[aT,if_neg (by decide)]
    have q:∀X:List UInt8,aT 63 (P++63::X)=(P,X,true):=fun X=>by
     rw[zk 63 P _ a,aT,if_pos rfl];show(P++[],X,true)=_;rw[List.append_nil]
    rw[e];show(aT 63 (P++63::(aT 35 T).1)).1=P∧(aT 63 (P++63::(aT 35 T).1)).2.1=(aT 35 T).1∧(aT 35 T).2.1=(aT 35 T).2.1∧(aT 63 (P++63::(aT 35 T).1)).2.2=true∧(aT 35 T).2.2=(aT 35 T).2.2;rw[q];exact⟨rfl,rfl,rfl,rfl,rfl⟩
   have e:aT 35 (35::T)=([],T,true):=by rw[aT,if_pos rfl]
   rw[e];show(aT 63 (P++[])).1=P∧(aT 63 (P++[])).2.1=[]∧T=T∧(aT 63 (P++[])).2.2=false∧true=true;rw[List.append_nil,Ll 63 P a];exact⟨rfl,rfl,rfl,rfl,rfl⟩
 obtain⟨m,l,k,j,i⟩:=d;unfold aC.apart;simp only[m,l,k,j,i]
theorem VL (u:U) (s r T:List UInt8):fG u T=finish u ⟨s,r,(tq T).1,(tq T).2.1,(tq T).2.2.1,(tq T).2.2.2⟩:=by
 match T with
 |[]=>rfl
 |c::T=>
  unfold fG tq finish;by_cases h:c=63
  ·simp only[if_pos h];unfold LJ;simp only[List.nil_append];cases(aT 35 T).2.2<;>rfl
  simp only[if_neg h];rfl
theorem aaR {T:List UInt8}:((tq T).2.2.1||(tq T).2.2.2)=decide (T≠[]):=by
 match T with
 |[]=>rfl
 |c::T=>
  unfold tq;by_cases h:c=63
  ·simp[if_pos h]
  simp[if_neg h]
def sc:List UInt8→Option (List UInt8×List UInt8)
 |[]=>none
 |c::R=>if nH c=true then(sc R).map fun p=>(c::p.1,p.2)else if c=58 then some ([],R)else none
theorem aby {T:List UInt8} (a:bY T=true):∀P:List UInt8,sc (P++T)=(sc P).map fun p=>(p.1,p.2++T)
 |[]=>by
  match T,a with
  |[],_=>rfl
  |t::T,a=>
   have e:t=63∨t=35:=by simpa[bY]using a
   rcases e with rfl|rfl<;>rfl
 |c::P=>by
  have d:=aby a P
  rw[List.cons_append,sc,sc,d]
  split
  ·cases sc P<;>rfl
  ·split<;>rfl
theorem PL:∀P:List UInt8,sc P=if (aT 58 P).2.2=true∧(aT 58 P).1.all nH=true then some ((aT 58 P).1,(aT 58 P).2.1)else none
 |[]=>rfl
 | c :: P => by
  have a:=PL P
  rw[sc,aT,a]
  by_cases h:c=58
  ·subst h
   rw[if_pos rfl,if_neg (by decide)]
   rfl
  ·rw[if_neg h,if_neg h]
   cases hc:nH c with
   |true=>
    rw[if_pos rfl]
    simp only[List.all_cons,hc,Bool.true_and]
    split<;>rfl
   |false=>
    rw[if_neg (by decide)]
    simp only[List.all_cons,hc,Bool.false_and]
    rw[if_neg (fun h=>by cases h.2)]
theorem abx:∀{R a r:List UInt8},sc R=some (a,r)→R=a++58::r
 |[],a,r,h=>by cases h
 | c :: R, a, r, h => by
  rw[sc]at h
  split at h
  ·obtain⟨p,d,e⟩:=Option.map_eq_some_iff.1 h
   injection e with e1 e2
   have:=abx (R:=R) (a:=p.1) (r:=p.2) d
   rw[this,←e1,←e2]
   rfl
  ·split at h
   ·rename_i hc
    injection h with h
    injection h with e1 e2
    rw[←e1,←e2,hc]
    rfl
   ·cases h
theorem TF (a b:List UInt8):lower (a++b)=lower a++lower b:=by simp[lower]
theorem Rq (o:Option U):∀(R W:List UInt8) (k:Nat) (m:M),m.p=k→S.drop k=R→k≤S.length→m.st=1→m.buf=lower W→
  (match sc R with
   |none=>Run S base {m with p:=0,st:=2,buf:=[]} o
   |some p=>Run S base {m with p:=((k+p.1.length:Nat):Int),buf:=lower (W++p.1)} o)→Run S base m o
 |[],W,k,m,hp,hR,hk,hs,hb,h=>by
  refine bG hp hk hR (by rw[hs];decide) ?_
  rw[ms1 hs]
  unfold eX
  rw[if_neg (fun h=>h.1 rfl),if_pos (.inl rfl),nC (.inr (by show(-1:Int)<_;omega))]
  exact h
 | c :: R, W, k, m, hp, hR, hk, hs, hb, h => by
  obtain⟨a,d⟩:=drop_cons hR
  rw[sc]at h
  cases hc:nH c with
  |true=>
   rw[hc,if_pos rfl]at h
   refine bG hp hk hR (by rw[hs];decide) ?_
   rw[ms1 hs]
   unfold eX
   rw[if_pos ⟨by simp,hc⟩]
   refine fM (k:=k) hp ?_
   refine Rq o R (W++[c]) (k+1) _ rfl a (by omega) hs (by show m.buf++lower [c]=_;rw[hb,TF]) ?_
   cases e:sc R with
   |none=>rw[e]at h;exact h
   |some p=>
    rw[e]at h
    have h:Run S base {m with p:=((k+(c::p.1).length:Nat):Int),buf:=lower (W++c::p.1)} o:=h
    show Run S base {m with p:=((k+1+p.1.length:Nat):Int),buf:=lower (W++[c]++p.1)} o
    rw[List.append_assoc,List.singleton_append,show k+1+p.1.length=k+(c::p.1).length by simp;omega]
    exact h
  |false=>
   rw[hc,if_neg (by decide)]at h
   by_cases h58:c=58
   ·rw[if_pos h58]at h
    have h:Run S base {m with p:=((k+0:Nat):Int),buf:=lower (W++[])} o:=h
    rw[List.append_nil,←hb,Nat.add_zero,←hp]at h
    exact h
   ·rw[if_neg h58]at h
    refine bG hp hk hR (by rw[hs];decide) ?_
    rw[ms1 hs]
    unfold eX
    rw[if_neg (fun h=>by rw[show nH (cc (c::R))=nH c from rfl,hc]at h;cases h.2),if_pos (.inr h58),show decide (c::R=[])=false from rfl,nC (.inl rfl)]
    exact h
def m0:M:=⟨0,0,[],{U0 with port:= -1},false,false,false⟩
def res (base:Option U) (P T s:List UInt8):Option U:=(aC.resolve ⟨s,P,(tq T).1,(tq T).2.1,(tq T).2.2.1,(tq T).2.2.2⟩ base).map fun u=>fG u T
theorem adb (base:Option U) (P T:List UInt8):res base P T []=(match base with
  |none=>none
  |some b=>if b.bP=true then jw ⟨[],P,(tq T).1,(tq T).2.1,(tq T).2.2.1,(tq T).2.2.2⟩ b else if b.au=aB then file P (some b)else dO P b).map fun u=>fG u T:=by
 unfold res aC.resolve;rw[if_neg (show ¬([]:List UInt8)=aB by decide),if_neg (show ¬aj []=true by decide),if_neg (show ¬([]:List UInt8)≠[]from fun h=>h rfl)];rfl
theorem Xz (base:Option U) (P T:List UInt8):res base P T aB=(file P (xZ base)).map fun u=>fG u T:=by
 unfold res aC.resolve;rw[if_pos rfl];rfl
theorem MZ {base:Option U} {a:List UInt8} (hf:a≠aB) (c:aj a=true) (P T:List UInt8) (h:∀b,base=some b→¬(b.au=a∧Lib.hasPrefix P [47,47]=false)):res base P T a=(authority a (P.dropWhile (bU true))).map fun u=>fG u T:=by
 unfold res aC.resolve;rw[if_neg hf,if_pos c]
 match base,h with
 |none,_=>rfl
 |some b,h=>
  show Option.map _ (if b.au=a∧_ then _ else _)=_;rw[if_neg (h b rfl)]
theorem aal {b:U} {a:List UInt8} (hf:a≠aB) (c:aj a=true) (P T:List UInt8) (h:b.au=a∧Lib.hasPrefix P [47,47]=false):res (some b) P T a=(dO P b).map fun u=>fG u T:=by
 unfold res aC.resolve;rw[if_neg hf,if_pos c];show Option.map _ (if b.au=a∧_ then _ else _)=_;rw[if_pos h]
theorem Uh {base:Option U} {a:List UInt8} (hf:a≠aB) (c:aj a=false) (d:a≠[]) (P T:List UInt8):res base P T a=(if Lib.hasPrefix P [47,47]=true then authority a (P.drop 2)else if Lib.hasPrefix P [47]=true then some {U0 with au:=a,port:= -1,aF:=aG a P}else some {U0 with au:=a,port:= -1,bP:=true,txt:=ZP (decide (T≠[])) P}).map fun u=>fG u T:=by
 unfold res aC.resolve;rw[if_neg hf,if_neg (show ¬aj a=true by rw[c];decide),if_pos d,acO,←aaR];rfl
theorem O5 (n : ∀ b, base = some b → Bas b) {P T : List UInt8} (g : Mid P) (e : bY T = true) (y : S = P ++ T) : Run S base { m0 with st := 2 } (res base P T []) := by
 have f:S.drop 0=P++T:=y;have l:∀(st:Nat),CJ ({m0 with st:=st}:M):=fun st=>⟨rfl,rfl,rfl,rfl,rfl⟩;rw[adb];cases base with
 |none=>
  refine bG (k:=0) rfl (Nat.zero_le _) f (by decide) ?_;rw[ms2 rfl];exact lI S none _ _ rfl
 | some b =>
  cases ho:b.bP with
  | true=>
   obtain⟨w,v,q3,s,r,q⟩:=(n b rfl).bP ho;show Run S (some b) _ (Option.map _ (if b.bP=true then _ else _));rw[if_pos ho];by_cases hc:P++T=[]∨cc (P++T)≠35
   ·have d:jw ⟨[],P,(tq T).1,(tq T).2.1,(tq T).2.2.1,(tq T).2.2.2⟩ b=none:=by
     unfold jw;rw[if_pos ?_]
     match P,g with
     |c::P,_=>exact .inl (by simp)
     |[],_=>
      rw[List.nil_append]at hc
      match T,e with
      |[],_=>exact .inr (.inr rfl)
      |t::T,e=>
       have j:t=63∨t=35:=by simpa[bY]using e
       rcases j with rfl|rfl
       ·exact .inr (.inl rfl)
       rcases hc with h|h
       ·cases h
       exact absurd rfl h
    rw[d];refine bG (k:=0) rfl (Nat.zero_le _) f (by decide) ?_;rw[ms2 rfl];show lY S (some b) (out S _ (if b.bP=true∧(P++T=[]∨cc (P++T)≠35)then _ else if b.bP=true then _ else _)) _;rw[if_pos ⟨ho,hc⟩];exact lI S (some b) _ _ rfl
   have z:P=[]:=by
    match P,g with
    |[],_=>rfl
    |c::P,g=>exact absurd (.inr g.head.2) hc
   subst z;have x:∃a,T=35::a:=by
    match T,e with
    |[],_=>exact absurd (.inl rfl) hc
    |t::T,e=>
     have j:t=63∨t=35:=by simpa[bY]using e
     rcases j with rfl|rfl
     ·exact absurd (.inr (show ¬(63:UInt8)=35 by decide)) hc
     exact⟨T,rfl⟩
   obtain⟨a,rfl⟩:=x;have d:jw ⟨[],[],(tq (35::a)).1,(tq (35::a)).2.1,(tq (35::a)).2.2.1,(tq (35::a)).2.2.2⟩ b=some b:=by
    unfold jw;exact if_neg (by rintro(h|h|h);exact h rfl;cases h;cases h)
   have i:fG {({U0 with port:= -1}:U)with au:=b.au,bP:=true,txt:=b.txt,hq:=b.hq,bQ:=b.bQ} (35::a)=fG b (35::a):=by
    show(⟨b.au,[],[],[],false,-1,true,b.txt,[],b.hq,true,b.bQ,aP.enc 1 a⟩:U)=⟨b.au,b.bT,b.bW,b.aS,b.hh,b.port,b.bP,b.txt,b.aF,b.hq,true,b.bQ,aP.enc 1 a⟩;rw[w,v,q3,s,r,q,ho]
   rw[d];show Run S (some b) _ (some (fG b (35::a)));rw[←i];refine bG (k:=0) rfl (Nat.zero_le _) f (by decide) ?_;rw[ms2 rfl];show lY S (some b) (out S _ (if b.bP=true∧([]++35::a=[]∨cc ([]++35::a)≠35)then _ else if b.bP=true then _ else _)) _;rw[if_neg (fun h=>hc h.2),if_pos ho];exact tail_at (S:=S) (base:=some b) (V:={({U0 with port:= -1}:U)with au:=b.au,bP:=true,txt:=b.txt,hq:=b.hq,bQ:=b.bQ}) (T:=35::a) (k:=0) (m:={({m0 with st:=2}:M)with u:={({U0 with port:= -1}:U)with au:=b.au,bP:=true,txt:=b.txt,hq:=b.hq,bQ:=b.bQ}}) rfl f (Nat.zero_le _) rfl (show(2:Nat)≠19 by decide) rfl e
  |false=>
   show Run S (some b) _ (Option.map _ (if b.bP=true then _ else if b.au=aB then _ else _));rw[if_neg (by rw[ho];decide)];by_cases hf:b.au=aB
   ·rw[if_pos hf];refine bG (k:=0) rfl (Nat.zero_le _) f (by decide) ?_;rw[ms2 rfl];show lY S (some b) (out S _ (if b.bP=true∧(P++T=[]∨cc (P++T)≠35)then _ else if b.bP=true then _ else if b.au≠aB then _ else _)) _;rw[if_neg (fun h=>by rw[ho]at h;cases h.1),if_neg (by rw[ho];decide),if_neg (fun h=>h hf)];refine fB (k:=0) rfl (Nat.zero_le _) ?_;have:=LH (S:=S) (base:=some b) (P:=P) (T:=T) (k:=0) (m:={m0 with st:=11}) n rfl f (Nat.zero_le _) rfl (l 11) g e;rw[show xZ (some b)=some b by unfold xZ;simp[hf]]at this;exact this
   rw[if_neg hf];refine bG (k:=0) rfl (Nat.zero_le _) f (by decide) ?_;rw[ms2 rfl];show lY S (some b) (out S _ (if b.bP=true∧(P++T=[]∨cc (P++T)≠35)then _ else if b.bP=true then _ else if b.au≠aB then _ else _)) _;rw[if_neg (fun h=>by rw[ho]at h;cases h.1),if_neg (by rw[ho];decide),if_pos hf];refine fB (k:=0) rfl (Nat.zero_le _) ?_;exact Rn (S:=S) (b:=b) (P:=P) (T:=T) (k:=0) (m:={m0 with st:=5}) rfl f (Nat.zero_le _) rfl (l 5) g e
theorem YZ (F : ∀ b, base = some b → Bas b) {a r P T : List UInt8} {k : Nat} {m : M} (H : r = P ++ T) (y : m.p = k) (N : S.drop k = 58 :: r) (W : k ≤ S.length) (G : m.st = 1) (X : m.buf = a) (Y : a ≠ []) (D : m.u = { U0 with port := -1 }) (hi : m.inn = false) (J : m.sign = false) (z : m.pass = false) (j : Mid P) (g : bY T = true) : Run S base m (res base P T a) := by
 obtain⟨q,O⟩:=drop_cons N;rw[H]at q;have B:∀(st:Nat) (p:Int),CJ ({m with u:={m.u with au:=a},buf:=[],st:=st,p:=p}:M):=fun st p=>⟨by show({m.u with au:=a}:U)=_;rw[D],rfl,hi,J,z⟩
 -- behind the colon
 have w:∀o:Option U,lY S base (out S false (if a=aB then mv {m with u:={m.u with au:=a},buf:=[]} 11 false else if aj a=true∧(base.elim false fun b=>decide (b.au=a))=true then mv {m with u:={m.u with au:=a},buf:=[]} 3 false else if aj a=true then mv {m with u:={m.u with au:=a},buf:=[]} 7 false else if ((58::r).drop 1).head?=some 47 then mv {m with u:={m.u with au:=a},buf:=[],p:=m.p+1} 4 false else mv {m with u:={({m.u with au:=a}:U)with bP:=true},buf:=[]} 16 false)) o→Run S base m o:=by
  intro o h;refine bG y W N (by rw[G];decide) ?_;rw[ms1 G,show decide (58::r=[])=false from rfl];unfold eX;rw[if_neg (fun h=>absurd (show nH 58=true from h.2) (by decide)),if_neg (fun h=>h.elim (fun h=>by cases h) (fun h=>h rfl)),X];exact h
 by_cases hf:a=aB
 ·subst hf;rw[Xz];refine w _ ?_;rw[if_pos rfl];refine fM (k:=k) y ?_;exact LH (S:=S) (base:=base) (P:=P) (T:=T) (k:=k+1) (m:={m with u:={m.u with au:=aB},buf:=[],st:=11,p:=((k+1:Nat):Int)}) F rfl q (by omega) rfl (B 11 _) j g
 cases hsp:aj a with
 | true =>
  by_cases sG:(base.elim false fun b=>decide (b.au=a))=true
  ·match base,F,sG,w with
   | some b,F,sG,w=>
    have E:b.au=a:=by simpa using sG
    cases h22:two P with
    | true=>
     have s:Lib.hasPrefix P [47,47]=true:=h22;rw[MZ hf hsp P T (fun c hc=>by rw[s];exact fun h=>by cases h.2)];refine w _ ?_;rw[if_neg hf,if_pos ⟨hsp,sG⟩];refine fM (k:=k) y ?_;refine bG (k:=k+1) rfl (by omega) q (by show(3:Nat)≠19;decide) ?_;rw[ms3 rfl];unfold jA;rw[Yg g,h22,if_pos rfl];obtain⟨Q,rfl⟩:∃Q,P=47::47::Q:=by
      match P,h22 with
      |[],h=>cases h
      |[c],h=>simp[two,Lib.hasPrefix,List.isPrefixOf]at h
      |c::d::Q,h=>
       simp[two,Lib.hasPrefix,List.isPrefixOf]at h;exact⟨Q,by rw[←h.1,←h.2]⟩
     have l:=(drop_cons q).1;have C:=drop_cons l;have I:=C.2;rw[show decide (47::47::Q++T=[])=false from rfl];refine fM (k:=k+1+1) (by show((k+1:Nat):Int)+1=_;omega) ?_;have:=PN (S:=S) (base:=some b) Q T (k+1+1+1) {m with u:={m.u with au:=a},buf:=[],st:=7,p:=((k+1+1+1:Nat):Int)} rfl C.1 (by omega) rfl (B 7 _) hsp j.tail.tail g;exact this
    |false=>
     have s:Lib.hasPrefix P [47,47]=false:=h22;rw[aal hf hsp P T ⟨E,s⟩];refine w _ ?_;rw[if_neg hf,if_pos ⟨hsp,sG⟩];refine fM (k:=k) y ?_;refine bG (k:=k+1) rfl (by omega) q (by show(3:Nat)≠19;decide) ?_;rw[ms3 rfl];unfold jA;rw[Yg g,h22,if_neg (by decide)];refine fB (k:=k+1) rfl (by omega) ?_;exact Rn (S:=S) (b:=b) (P:=P) (T:=T) (k:=k+1) (m:={m with u:={m.u with au:=a},buf:=[],st:=5,p:=((k+1:Nat):Int)}) rfl q (by omega) rfl (B 5 _) j g
  rw[MZ hf hsp P T (fun b hbb h=>sG (by rw[hbb];simpa using h.1))];refine w _ ?_;rw[if_neg hf,if_neg (fun h=>sG h.2),if_pos hsp];refine fM (k:=k) y ?_;exact PN (S:=S) (base:=base) P T (k+1) {m with u:={m.u with au:=a},buf:=[],st:=7,p:=((k+1:Nat):Int)} rfl q (by omega) rfl (B 7 _) hsp j g
 | false=>
  have i:¬aj a=true:=by rw[hsp];decide
  have v:((58::r).drop 1).head?=(P++T).head?:=by rw[H];rfl
  rw[Uh hf hsp Y];have f:¬(P++T).head?=some 47→Run S base m (some (fG {U0 with au:=a,port:= -1,bP:=true,txt:=ZP (decide (T≠[])) P} T)):=by
   intro A;refine w _ ?_;rw[if_neg hf,if_neg (fun h=>i h.1),if_neg i,v,if_neg A];refine fM (k:=k) y ?_;have:=Q5 (S:=S) (base:=base) P T (k+1) {m with u:={({m.u with au:=a}:U)with bP:=true},buf:=[],st:=16,p:=((k+1:Nat):Int)} rfl q (by omega) rfl rfl j g;refine(congrArg (fun x=>Run S base _ (some (fG x T))) ?_).mp this;rw[D];rfl
  match P,j,q,v,f with
  | [],j,q,v,f=>
   have A:¬(([]:List UInt8)++T).head?=some 47:=by
    match T,g with
    |[],_=>simp
    |t::T,g=>
     have O:t=63∨t=35:=by simpa[bY]using g
     rcases O with rfl|rfl<;>simp
   rw[if_neg (by decide),if_neg (by decide)];exact f A
  | c ::Q,j,q,v,f=>
   by_cases hc:c=47
   ·subst hc;have l:=drop_cons q;have n:∀o:Option U,lY S base (out S (decide (Q++T=[])) (if cc (Q++T)=47∧Q++T≠[]then begin' {m with u:={m.u with au:=a},buf:=[],st:=4,p:=((k+1+1:Nat):Int)}else mv {m with u:={m.u with au:=a},buf:=[],st:=4,p:=((k+1+1:Nat):Int)} 15 true)) o→Run S base m o:=by
     intro o h;refine w _ ?_;rw[if_neg hf,if_neg (fun h=>i h.1),if_neg i,v,if_pos (show(47::Q++T).head?=some 47 from rfl)];refine fM (k:=k+1) (by show m.p+1=_;rw[y];rfl) ?_;refine bG (k:=k+1+1) rfl (by have:=l.2;omega) l.1 (by show(4:Nat)≠19;decide) ?_;rw[ms4 rfl];exact h
    match Q,j,l,n with
    |d::Q,j,l,n=>
     by_cases v:d=47
     ·subst v;have C:=drop_cons l.1;rw[if_pos (by simp[Lib.hasPrefix,List.isPrefixOf])];refine n _ ?_;rw[if_pos ⟨rfl,by simp⟩];refine fM (k:=k+1+1) rfl ?_;exact Bl (S:=S) (base:=base) (P:=Q) (T:=T) (k:=k+1+1+1) (m:={m with u:={m.u with au:=a},buf:=[],st:=8,p:=((k+1+1+1:Nat):Int)}) rfl C.1 (by have:=C.2;omega) rfl (B 8 0).u rfl hi J z j.tail.tail g
     have hx:¬Lib.hasPrefix (47::d::Q) [47,47]=true:=by
      simp[Lib.hasPrefix,List.isPrefixOf];exact fun e=>v e.symm
     rw[if_neg hx,if_pos (by simp[Lib.hasPrefix,List.isPrefixOf])];refine n _ ?_;rw[if_neg (fun h=>v h.1)];refine fB (k:=k+1+1) rfl (by have:=l.2;omega) ?_;have:=rM (S:=S) (base:=base) (V:={({U0 with port:= -1}:U)with au:=a}) (P:=d::Q) (T:=T) (k:=k+1+1) (m:={m with u:={m.u with au:=a},buf:=[],st:=15,p:=((k+1+1:Nat):Int)}) rfl l.1 (by have:=l.2;omega) rfl (by show({m.u with au:=a}:U)=_;rw[D]) rfl j.tail g;refine(congrArg (fun x=>Run S base _ (some (fG x T))) ?_).mp this;show({U0 with au:=a,port:= -1,aF:=walk a [] (d::Q)}:U)={U0 with au:=a,port:= -1,aF:=aG a (47::d::Q)};rw[uQ (by rw[BI,hsp];decide)];rfl
    | [],j,l,n=>
     have A:¬(cc ([]++T)=47∧[]++T≠[]):=by
      rintro⟨h,Z⟩
      match T,g with
      |[],_=>exact Z rfl
      |t::T,g=>
       have h:t=47:=h;subst h;simp[bY]at g
     rw[if_neg (by decide),if_pos (by decide)];refine n _ ?_;rw[if_neg A];refine fB (k:=k+1+1) rfl (by have:=l.2;omega) ?_;have:=rM (S:=S) (base:=base) (V:={({U0 with port:= -1}:U)with au:=a}) (P:=[]) (T:=T) (k:=k+1+1) (m:={m with u:={m.u with au:=a},buf:=[],st:=15,p:=((k+1+1:Nat):Int)}) rfl l.1 (by have:=l.2;omega) rfl (by show({m.u with au:=a}:U)=_;rw[D]) rfl j.tail g;refine(congrArg (fun x=>Run S base _ (some (fG x T))) ?_).mp this;show({U0 with au:=a,port:= -1,aF:=walk a [] []}:U)={U0 with au:=a,port:= -1,aF:=aG a [47]};rw[uQ (by rw[BI,hsp];decide)];rfl
   have hx:∀L,¬Lib.hasPrefix (c::Q) (47::L)=true:=fun L=>by
    simp[Lib.hasPrefix,List.isPrefixOf];exact fun e=>absurd e.symm hc
   rw[if_neg (hx _),if_neg (hx _)];exact f (by simpa using hc)
theorem wV (C:List UInt8):∃P T,C=P++T∧Mid P∧bY T=true:=by
 induction C with
 |nil=>exact⟨[],[],rfl,(fun c hc=>by cases hc),rfl⟩
 |cons c C ih=>
  by_cases h:c=63∨c=35
  ·exact⟨[],c::C,rfl,(fun c hc=>by cases hc),by simpa[bY]using h⟩
  obtain⟨P,T,g,f,a⟩:=ih;refine⟨c::P,T,by rw[g];rfl,fun d hd=>?_,a⟩;rcases List.mem_cons.1 hd with rfl|hd
  ·exact⟨fun e=>h (.inl e),fun e=>h (.inr e)⟩
  exact f d hd
theorem OT (c:UInt8) (h:letter c.toNat=true):nH c=true:=by unfold nH;rw[h];rfl
theorem Zy (B:∀b,base=some b→Bas b) (C:List UInt8):Run C base m0 ((aC.resolve (aC.apart C) base).map fun u=>finish u (aC.apart C)):=by
 obtain⟨P,T,rfl,g,f⟩:=wV C;have m:((aT 58 P).2.2&&iY (aT 58 P).1)=false→(aC.resolve (aC.apart (P++T)) base).map (fun u=>finish u (aC.apart (P++T)))=res base P T []:=by
  intro h;rw[apart_eq g f,h,if_neg (by decide)];unfold res;congr 1
  funext u
  exact(VL u _ _ T).symm
 have z:(P++T).drop 0=P++T:=rfl;have j:Run (P++T) base {m0 with st:=2} (res base P T [])→lY (P++T) base (out (P++T) (decide (P++T=[])) (mv m0 2 true)) (res base P T []):=fun h=>fB (k:=0) rfl (Nat.zero_le _) h
 match P,g with
 |[],g=>
  rw[m rfl];refine bG (k:=0) rfl (Nat.zero_le _) z (by decide) ?_;rw[ms0 rfl];unfold kX;rw[if_neg ?_]
  ·exact j (O5 B g f rfl)
  rintro⟨h,H⟩
  match T,f with
  |[],_=>exact H rfl
  |t::T,f=>
   have L:t=63∨t=35:=by simpa[bY]using f
   rcases L with rfl|rfl
   ·exact absurd (show letter ((63:UInt8).toNat)=true from h) (by decide)
   exact absurd (show letter ((35:UInt8).toNat)=true from h) (by decide)
 | c ::Q,g=>
  have I:=drop_cons z;cases hl:letter c.toNat with
  |false=>
   have l:((aT 58 (c::Q)).2.2&&iY (aT 58 (c::Q)).1)=false:=by
    rw[aT];by_cases h58:c=58
    ·rw[if_pos h58];rfl
    rw[if_neg h58];show((aT 58 Q).2.2&&(letter c.toNat&&_))=false;rw[hl,Bool.false_and,Bool.and_false]
   rw[m l];refine bG (k:=0) rfl (Nat.zero_le _) z (by decide) ?_;rw[ms0 rfl];unfold kX;rw[if_neg (fun h=>by rw[show letter (cc (c::Q++T)).toNat=letter c.toNat from rfl,hl]at h;cases h.1)];exact j (O5 B g f rfl)
  | true=>
   refine bG (k:=0) rfl (Nat.zero_le _) z (by decide) ?_;rw[ms0 rfl,rZ];unfold kX;rw[if_pos ⟨hl,by simp⟩];refine fM (k:=0) rfl ?_;refine Rq _ (Q++T) [c] 1 _ rfl I.1 (by have:=I.2;omega) rfl rfl ?_;rw[aby f,PL];have G:nH c=true:=OT c hl;have F:c≠58:=by rintro rfl;exact absurd G (by decide)
   have w:aT 58 (c::Q)=(c::(aT 58 Q).1,(aT 58 Q).2.1,(aT 58 Q).2.2):=by rw[aT,if_neg F]
   have v:iY (c::(aT 58 Q).1)=(aT 58 Q).1.all nH:=by
    show(letter c.toNat&&_)=_;rw[hl,Bool.true_and]
   by_cases hx:(aT 58 Q).2.2=true∧(aT 58 Q).1.all nH=true
   ·rw[if_pos hx];have E:sc Q=some ((aT 58 Q).1,(aT 58 Q).2.1):=by rw[PL,if_pos hx]
    have A:=abx E;have jZ:aC.apart (c::Q++T)=⟨lower (c::(aT 58 Q).1),(aT 58 Q).2.1,(tq T).1,(tq T).2.1,(tq T).2.2.1,(tq T).2.2.2⟩:=by
     rw[apart_eq g f,w];show(if ((aT 58 Q).2.2&&iY (c::(aT 58 Q).1))=true then _ else _)=_;rw[v,hx.1,hx.2];rfl
    rw[jZ];have i:Mid (aT 58 Q).2.1:=by
     intro d J;refine g d (List.mem_cons_of_mem _ ?_);rw[A];simp[J]
    have s:(aC.resolve ⟨lower (c::(aT 58 Q).1),(aT 58 Q).2.1,(tq T).1,(tq T).2.1,(tq T).2.2.1,(tq T).2.2.2⟩ base).map (fun u=>finish u ⟨lower (c::(aT 58 Q).1),(aT 58 Q).2.1,(tq T).1,(tq T).2.1,(tq T).2.2.1,(tq T).2.2.2⟩)=res base (aT 58 Q).2.1 T (lower (c::(aT 58 Q).1)):=by
     unfold res;congr 1
     funext u
     exact(VL u _ _ T).symm
    rw[s];obtain⟨x,D⟩:∃x,x=(aT 58 Q).1:=⟨_,rfl⟩;obtain⟨y,q⟩:∃y,y=(aT 58 Q).2.1:=⟨_,rfl⟩;rw[←D,←q]at A⊢;rw[←q]at i;have n:(c::Q++T).drop (1+x.length)=58::(y++T):=by
     rw[A];have e:c::(x++58::y)++T=(c::x)++(58::(y++T)):=by simp
     rw[e,show 1+x.length=(c::x).length by simp;omega,List.drop_left'];rfl
    show Run _ base {({m0 with buf:=lower [c],st:=1,p:=1}:M)with p:=((1+x.length:Nat):Int),buf:=lower ([c]++x)} _;exact YZ B (a:=lower (c::x)) (r:=y++T) (P:=y) (T:=T) (k:=1+x.length) rfl rfl n (by rw[A];simp;omega) rfl rfl (by simp[lower]) rfl rfl rfl rfl i f
   rw[if_neg hx];have l:((aT 58 (c::Q)).2.2&&iY (aT 58 (c::Q)).1)=false:=by
    rw[w];show((aT 58 Q).2.2&&iY (c::(aT 58 Q).1))=false;rw[v];cases h1:(aT 58 Q).2.2 with
    |false=>rfl
    |true=>
     cases H:(aT 58 Q).1.all nH with
     |false=>rfl
     |true=>exact absurd ⟨h1,H⟩ hx
   rw[m l];exact O5 B g f rfl
theorem QT (a:∀b,base=some b→Bas b) (s:List UInt8):Run (clean s) base m0 (aC.url s base):=Zy a (clean s)
end NU
namespace aek
open Go.RowKit Base aV fA lX qy kS jq Jc Gv pJ
theorem J9 {s:ByteArray} (h:s.size=0):s.toList=[]:=by
 rw[Lib.toList_data];exact List.eq_nil_of_length_eq_zero (by rw[Array.length_toList];exact h)
theorem yH (s:ByteArray) (h:0<s.size) (hh:¬s.data.toList.head?=some 91):(s.toList==[])=false∧s.toList.isEmpty=false∧¬s.toList=[]∧∃x:UInt8,s[0]=x∧((x.toNat:Int)==91)=false∧¬(x.toNat:Int)=91:=by
 have g:s.data.toList.length=s.size:=Array.length_toList;obtain⟨a,r,d⟩:∃a r,s.data.toList=a::r:=by
  cases e:s.data.toList with
  |nil=>rw[e]at g;simp at g;omega
  |cons a r=>exact⟨a,r,rfl⟩
 have c:s[0]=a:=by
  have:s.data.toList[0]'(by omega)=s[0]:=rfl;rw[←this];simp only[d,List.getElem_cons_zero]
 have i:a≠91:=by
  intro e;rw[d,e]at hh;exact hh rfl
 have f:¬(a.toNat:Int)=91:=fun e=>i (UInt8.toNat_inj.1 (by show _=91;omega));rw[Lib.toList_data,d];exact⟨rfl,rfl,by simp,a,c,by rw[beq_eq_false_iff_ne];exact f,f⟩
theorem WW (s : ByteArray) (w : World) (hs : s.size ≤ 900000) (hh : ¬ s.data.toList.head? = some 91) : Calls prog 146 #[.string s, .bool true] w fun e w' => e = .returned (HV (aS s.data.toList true)) ∧ Below w.heap.size w w' := by
 have hl:s.data.toList.length=s.size:=Array.length_toList;have a2:=hid hl;obtain⟨H,hH⟩:∃H,H=HV (aS s.data.toList true):=⟨_,rfl⟩;rw[←hH];clear hl;have C:H=HV (if oks true (lower (nN.dec s.data.toList))=true then Jo (lower (nN.dec s.data.toList))else none):=by
  rw[hH];unfold aS;rw[if_neg hh,if_pos rfl];unfold Oq;rw[II]
 obtain⟨D,hD⟩:∃D:ByteArray,D=ah (nN.dec s.data.toList):=⟨_,rfl⟩;obtain⟨M,Z⟩:∃M:ByteArray,M=ah (lower D.data.toList):=⟨_,rfl⟩;have V:nN.dec s.data.toList=D.data.toList:=by rw[hD];rfl
 have T:lower D.data.toList=M.data.toList:=by rw[Z];rfl
 have a1:D.size≤900000:=by
  rw[hD,ak];have:=nN.pU s.data.toList;rw[a2.out]at this;omega
 have Q:M.size≤900000:=by
  rw[Z,ak,Ir];have:D.data.toList.length=D.size:=Array.length_toList;omega
 have Y:Hid (∀w,Calls prog 170 #[.string s] w fun e w'=>e=.returned (.string D)∧Below w.heap.size w w'):=by
  show ∀w,_;rw[hD];exact fun w=>abL.Oo s w (by omega)
 have X:Hid (∀w,Calls prog 45 #[.string D] w fun e w'=>e=.returned (.string M)∧Below w.heap.size w w'):=by
  show ∀w,_;rw[Z];exact fun w=>nK.jQ D w (by omega)
 rw[V,T]at C;have I:=hid C;have O:M.data.toList.length=M.size:=Array.length_toList;have z:=hid O;have r:=hid Q;clear hH C hD Z V T a1 Q O;rcases Nat.eq_zero_or_pos s.size with h0|h0
 ·have hq:s.toList=[]:=J9 h0;have t:(s.toList==[])=true:=by rw[hq];rfl
  clear hh h0 hs hq;go_enter func146,ntmps146;go_wp2_with fail
  refine(Y _).mono ?_;rintro e w1 ⟨rfl,v⟩;have G:=hid v;clear v;go_wp2_with fail
  refine qV G (X _) fun wm HB2=>?_;go_wp2;go_loopw [8,50] (fun _ vk wr=>∃k:Nat,k≤M.size∧vk=.int .i64 (k:Int)∧wr=wm∧Hid (oks true (M.data.toList.take k)=true)) (fun _ vk _=>M.size - (intOf vk).toNat)
  case atStart=>exact⟨0,Nat.zero_le _,rfl,rfl,rfl⟩
  case round=>
   obtain⟨k,hk,rfl,rfl,W⟩:=hrel;have a0:M.size≤900000:=r.out;by_cases hlt:k<M.size
   ·obtain ⟨c,hc⟩:∃c,M[k]=c:=⟨_,rfl⟩;have g:k<M.data.toList.length:=by rw[z.out];exact hlt
    have h:M.data.toList[k]=c:=hc;cases hf:yS true c with
    |true=>
     have l:Hid (H=.tuple #[.string (ah []),.bool false]):=by
      show _=_;rw[I.out,if_neg (by rw[uM true _ k g (by rw[h,qI,hf];rfl)];exact Bool.false_ne_true)];rfl
     have a:=fun w=>dV c true w;rw[hf]at a;have y:=hid a;clear g h hf a;go_wp2_with fail
     refine(y _).mono ?_;rintro e J ⟨rfl,rfl⟩;go_wp2;go_ret2;exact⟨by rw[l.out];rfl,HB2⟩
    | false=>
     by_cases h126:(126:Int)<(c.toNat:Int)
     ·have l:Hid (H=.tuple #[.string (ah []),.bool false]):=by
       show _=_;rw[I.out,if_neg]
       ·rfl
       rw[uM true _ k g (by rw[h,qI,decide_eq_false (by omega),Bool.and_false])];exact Bool.false_ne_true
      have a:=fun w=>dV c true w;rw[hf]at a;have y:=hid a;clear g h hf a;go_wp2_with fail
      refine(y _).mono ?_;rintro e J ⟨rfl,rfl⟩;go_wp2;go_ret2;exact⟨by rw[l.out];rfl,HB2⟩
     have A:¬(126:Int)<(c.toNat:Int):=h126;have HN:Hid (oks true (M.data.toList.take (k+1))=true):=by
      show _=_;rw[jR true _ k g,W.out,h];unfold okb;rw[hf];rw[decide_eq_true (by omega)];rfl
     have a:=fun w=>dV c true w;rw[hf]at a;have y:=hid a;clear g h hf a;go_wp2_with fail
     refine(y _).mono ?_;rintro e J ⟨rfl,rfl⟩;go_wp2;go_roundw
     case rel=>exact⟨k+1,by omega,by go_num,by first|rfl|trivial,HN⟩
     case measure=>simp[intOf];omega
   have P:oks true M.data.toList=true:=by
    have:=W.out;rw[List.take_of_length_le (by rw[z.out];omega)]at this;exact this
   have j:H=HV (Jo M.data.toList):=by rw[I.out,if_pos P]
   have d:=fun w=>N7.Dc M w r;clear P;by_cases hM0:M.data.toList=[]
   ·have l:Hid (H=.tuple #[.string (ah []),.bool false]):=by show _=_;rw[j,hM0];rfl
    have hq:M.toList=[]:=by rw[Lib.toList_data];exact hM0
    have t:(M.toList==[])=true:=by rw[hq];rfl
    clear d hM0 j hq;go_wp2;go_ret2;exact⟨by rw[l.out];rfl,HB2⟩
   have hq:(M.toList==[])=false:=by
    rw[Lib.toList_data,beq_eq_false_iff_ne];exact hM0
   have t:M.toList.isEmpty=false:=by rw[Lib.toList_data];simpa using hM0
   have L:¬M.toList=[]:=by rw[Lib.toList_data];exact hM0
   cases he:ends M.data.toList with
   |false=>
    rw[he]at d;have m:=hid d;have l:Hid (H=.tuple #[.string M,.bool true]):=by
     show _=_;rw[j];unfold Jo;rw[if_neg hM0,he,if_neg (by simp)];show Value.tuple #[.string (ah M.data.toList),.bool true]=_;rw[bF]
    clear d he hM0 j;go_wp2_with fail
    refine qV HB2 (m _) fun w3 HB3=>?_;go_wp2;go_ret2;exact⟨by rw[l.out];rfl,HB3⟩
   | true=>
    rw[he]at d;have m:=hid d;have i:H=HV ((Dx M.data.toList).map yx.pr):=by rw[j];unfold Jo;rw[if_neg hM0,he,if_pos rfl]
    have f:=fun w=>YK.Af M w r;clear d he hM0 j;cases hp:Dx M.data.toList with
    |none=>
     rw[hp]at f i;have l:Hid (H=.tuple #[.string (ah []),.bool false]):=by show _=_;rw[i];rfl
     have q:Hid (vI.nO none=.tuple #[.int .u32 0,.bool false]):=vI.jy _ rfl;rw[q.out]at f;have F:=hid f;clear f i hp;go_wp2_with fail
     refine qV HB2 (m _) fun w3 HB3=>?_;go_wp2_with fail
     refine qV HB3 (F _) fun w4 HB4=>?_;go_wp2;go_ret2;exact⟨by rw[l.out];rfl,HB4⟩
    |some n=>
     have N:=FD hp;rw[hp]at f i;obtain⟨R,B⟩:∃R:ByteArray,R=ah (yx.pr n):=⟨_,rfl⟩;have l:Hid (H=.tuple #[.string R,.bool true]):=by show _=_;rw[i,B];rfl
     have q:Hid (vI.nO (some n)=.tuple #[.int .u32 (n:Int),.bool true]):=vI.tH _ n rfl;rw[q.out]at f;have F:=hid f;have E:Hid (∀w,Calls prog 174 #[.int .u32 (n:Int)] w fun e w'=>e=.returned (.string R)∧Below w.heap.size w w'):=by
      show ∀w,_;rw[B];exact fun w=>abU.Ag n N w
     clear f i hp N B;go_wp2_with fail
     refine qV HB2 (m _) fun w3 HB3=>?_;go_wp2_with fail
     refine qV HB3 (F _) fun w4 HB4=>?_;go_wp2_with fail
     refine qV HB4 (E _) fun w5 HB5=>?_;go_wp2;go_ret2;exact⟨by rw[l.out];rfl,HB5⟩
 obtain⟨hq,t,L,x,a4,hx,a3⟩:=yH s h0 hh;have a5:(0:Int)<(s.size:Int):=by omega
 clear hh hs;go_enter func146,ntmps146;go_wp2_with fail
 refine(Y _).mono ?_;rintro e w1 ⟨rfl,v⟩;have G:=hid v;clear v;go_wp2_with fail
 refine qV G (X _) fun wm HB2=>?_;go_wp2;go_loopw [8,50] (fun _ vk wr=>∃k:Nat,k≤M.size∧vk=.int .i64 (k:Int)∧wr=wm∧Hid (oks true (M.data.toList.take k)=true)) (fun _ vk _=>M.size - (intOf vk).toNat)
 case atStart=>exact⟨0,Nat.zero_le _,rfl,rfl,rfl⟩
 case round=>
  obtain⟨k,hk,rfl,rfl,W⟩:=hrel;have a0:M.size≤900000:=r.out;by_cases hlt:k<M.size
  ·obtain ⟨c,hc⟩:∃c,M[k]=c:=⟨_,rfl⟩;have g:k<M.data.toList.length:=by rw[z.out];exact hlt
   have h:M.data.toList[k]=c:=hc;cases hf:yS true c with
   |true=>
    have l:Hid (H=.tuple #[.string (ah []),.bool false]):=by
     show _=_;rw[I.out,if_neg (by rw[uM true _ k g (by rw[h,qI,hf];rfl)];exact Bool.false_ne_true)];rfl
    have a:=fun w=>dV c true w;rw[hf]at a;have y:=hid a;clear g h hf a;go_wp2_with fail
    refine(y _).mono ?_;rintro e J ⟨rfl,rfl⟩;go_wp2;go_ret2;exact⟨by rw[l.out];rfl,HB2⟩
   | false=>
    by_cases h126:(126:Int)<(c.toNat:Int)
    ·have l:Hid (H=.tuple #[.string (ah []),.bool false]):=by
      show _=_;rw[I.out,if_neg]
      ·rfl
      rw[uM true _ k g (by rw[h,qI,decide_eq_false (by omega),Bool.and_false])];exact Bool.false_ne_true
     have a:=fun w=>dV c true w;rw[hf]at a;have y:=hid a;clear g h hf a;go_wp2_with fail
     refine(y _).mono ?_;rintro e J ⟨rfl,rfl⟩;go_wp2;go_ret2;exact⟨by rw[l.out];rfl,HB2⟩
    have A:¬(126:Int)<(c.toNat:Int):=h126;have HN:Hid (oks true (M.data.toList.take (k+1))=true):=by
     show _=_;rw[jR true _ k g,W.out,h];unfold okb;rw[hf];rw[decide_eq_true (by omega)];rfl
    have a:=fun w=>dV c true w;rw[hf]at a;have y:=hid a;clear g h hf a;go_wp2_with fail
    refine(y _).mono ?_;rintro e J ⟨rfl,rfl⟩;go_wp2;go_roundw
    case rel=>exact⟨k+1,by omega,by go_num,by first|rfl|trivial,HN⟩
    case measure=>simp[intOf];omega
  have P:oks true M.data.toList=true:=by
   have:=W.out;rw[List.take_of_length_le (by rw[z.out];omega)]at this;exact this
  have j:H=HV (Jo M.data.toList):=by rw[I.out,if_pos P]
  have d:=fun w=>N7.Dc M w r;clear P;by_cases hM0:M.data.toList=[]
  ·have l:Hid (H=.tuple #[.string (ah []),.bool false]):=by show _=_;rw[j,hM0];rfl
   have hq:M.toList=[]:=by rw[Lib.toList_data];exact hM0
   have t:(M.toList==[])=true:=by rw[hq];rfl
   clear d hM0 j hq;go_wp2;go_ret2;exact⟨by rw[l.out];rfl,HB2⟩
  have hq:(M.toList==[])=false:=by
   rw[Lib.toList_data,beq_eq_false_iff_ne];exact hM0
  have t:M.toList.isEmpty=false:=by rw[Lib.toList_data];simpa using hM0
  have L:¬M.toList=[]:=by rw[Lib.toList_data];exact hM0
  cases he:ends M.data.toList with
  |false=>
   rw[he]at d;have m:=hid d;have l:Hid (H=.tuple #[.string M,.bool true]):=by
    show _=_;rw[j];unfold Jo;rw[if_neg hM0,he,if_neg (by simp)];show Value.tuple #[.string (ah M.data.toList),.bool true]=_;rw[bF]
   clear d he hM0 j;go_wp2_with fail
   refine qV HB2 (m _) fun w3 HB3=>?_;go_wp2;go_ret2;exact⟨by rw[l.out];rfl,HB3⟩
  | true=>
   rw[he]at d;have m:=hid d;have i:H=HV ((Dx M.data.toList).map yx.pr):=by rw[j];unfold Jo;rw[if_neg hM0,he,if_pos rfl]
   have f:=fun w=>YK.Af M w r;clear d he hM0 j;cases hp:Dx M.data.toList with
   |none=>
    rw[hp]at f i;have l:Hid (H=.tuple #[.string (ah []),.bool false]):=by show _=_;rw[i];rfl
    have q:Hid (vI.nO none=.tuple #[.int .u32 0,.bool false]):=vI.jy _ rfl;rw[q.out]at f;have F:=hid f;clear f i hp;go_wp2_with fail
    refine qV HB2 (m _) fun w3 HB3=>?_;go_wp2_with fail
    refine qV HB3 (F _) fun w4 HB4=>?_;go_wp2;go_ret2;exact⟨by rw[l.out];rfl,HB4⟩
   |some n=>
    have N:=FD hp;rw[hp]at f i;obtain⟨R,B⟩:∃R:ByteArray,R=ah (yx.pr n):=⟨_,rfl⟩;have l:Hid (H=.tuple #[.string R,.bool true]):=by show _=_;rw[i,B];rfl
    have q:Hid (vI.nO (some n)=.tuple #[.int .u32 (n:Int),.bool true]):=vI.tH _ n rfl;rw[q.out]at f;have F:=hid f;have E:Hid (∀w,Calls prog 174 #[.int .u32 (n:Int)] w fun e w'=>e=.returned (.string R)∧Below w.heap.size w w'):=by
     show ∀w,_;rw[B];exact fun w=>abU.Ag n N w
    clear f i hp N B;go_wp2_with fail
    refine qV HB2 (m _) fun w3 HB3=>?_;go_wp2_with fail
    refine qV HB3 (F _) fun w4 HB4=>?_;go_wp2_with fail
    refine qV HB4 (E _) fun w5 HB5=>?_;go_wp2;go_ret2;exact⟨by rw[l.out];rfl,HB5⟩
end aek
namespace aeN
open Go.RowKit Base aV kS Du
theorem H8 (k:Nat) (c:k<16):(⟨#[48,49,50,51,52,53,54,55,56,57,97,98,99,100,101,102]⟩:ByteArray).extract k (k+1)=ah [iR k]:=by
 have a:k=0∨k=1∨k=2∨k=3∨k=4∨k=5∨k=6∨k=7∨k=8∨k=9∨k=10∨k=11∨k=12∨k=13∨k=14∨k=15:=by omega
 rcases a with rfl|rfl|rfl|rfl|rfl|rfl|rfl|rfl|rfl|rfl|rfl|rfl|rfl|rfl|rfl|rfl<;>rfl
theorem jH:∀(m n:Nat),n≤m→n<65536→∀w:World,Calls prog 197 #[.int .u16 (n:Int)] w fun e w'=>e=.returned (.string (ah (hx n)))∧w=w':=by
 intro m;induction m with
 |zero=>
  intro n i a w;obtain rfl:n=0:=by omega
  have y:=H8 0 (by omega);go_enter func197,ntmps197;go_wp2;go_ret;exact⟨rfl,rfl⟩
 | succ m ih=>
  intro n i a w;obtain⟨r,g⟩:∃r,r=n%16:=⟨_,rfl⟩;obtain⟨q,hq⟩:∃q,q=n / 16:=⟨_,rfl⟩;have t:(n:Int).tmod 16=(r:Int):=by rw[Int.tmod_eq_emod_of_nonneg (by omega)];omega
  have k:(n:Int)%16=(r:Int):=by omega
  have v:(n:Int).tdiv 16=(q:Int):=by rw[Int.tdiv_eq_ediv_of_nonneg (by omega)];omega
  have l:(n:Int) / 16=(q:Int):=by omega
  have c:r<16:=by omega
  have x:(r:Int)<16:=by omega
  have y:=H8 r c;have d:q<4096:=by omega
  have s:IntKind.u16.wrap (q:Int)=(q:Int):=by simp[IntKind.wrap,IntKind.signed,IntKind.bits];omega
  by_cases h15:15<n
  ·have f:(15:Int)<(n:Int):=by omega
   obtain⟨Z,j⟩:∃Z,Z=ah (hx n):=⟨_,rfl⟩;have D:∀w:World,(Op.stringOp .add (ah (hx q)) (ah [iR r])).run prog w=.ok (.string Z) w:=fun w=>by
    rw[j,OH (by omega) a,hq,g];refine bH _ _ w ?_;have:=rY (n / 16);simp;omega
   have A:Hid (∀w:World,Calls prog 197 #[.int .u16 (q:Int)] w fun e w'=>e=.returned (.string (ah (hx q)))∧w=w'):=ih q (by omega) (by omega);have z:=hid j;clear ih g hq j h15 i a d;go_enter func197,ntmps197;go_wp2_with fail
   refine(A _).mono ?_;rintro e C ⟨rfl,h⟩;subst h;go_wp2;go_ret;exact⟨by rw[←z.out];rfl,rfl⟩
  have f:¬(15:Int)<(n:Int):=by omega
  have B:Hid (hx n=[iR r]):=by show _=_;rw[ET (by omega),g,show n%16=n by omega]
  clear ih g hq h15 i a d;go_enter func197,ntmps197;go_wp2;go_ret;exact⟨by rw[B.out];rfl,rfl⟩
end aeN
