/- Texts that belong together: wo, aj6, Wx, UrlB, Pg, aj3, StoI, ajr. -/
import Derived.Test.YtmpeaoacaecgpaaGreatDoorYAP
import Derived.Test.YtmpeaoacaecgpaaGreatDoorYAA
import Derived.Shelf.Strings.Builder1
import Derived.Test.YtmpeaoacaecgpaaGreatDoorYAI
import Derived.Test.YtmpeaoacaecgpaaGreatDoorShelf
import Derived.Test.YtmpeaoacaecgpaaGreatDoorYAG
import Derived.Deep.DeepCutAuto
import Derived.Test.YtmpeaoacaecgpaaGreatDoorYAK
import Derived.BigQuiet
import Derived.Deep.QuietTactic
import Derived.Deep.WholeRow
import Derived.Test.YtmpeaoacaecgpaaGreatDoorYAE
import Derived.Lib.SlTrimSet
import Derived.Laws.Rows
set_option linter.unusedSimpArgs false
set_option linter.unusedVariables false
set_option maxRecDepth 100000
set_option maxHeartbeats 64000000
namespace Go.Proofs.YtmpeaoacaecgpaaGreatDoor.wo
open Go.RowKit Base dI cO oO wu WU akq PthP PthE WR PthG PthJ acM UrlA HstP WJ J5 PrsP acK PrsU NJ zD
def Dh (u:U):List UInt8:=aZ.lD (strOf u.usr) (strOf u.pwd)
def KU (u:U):List UInt8:=aZ.ug (strOf u.usr) (strOf u.pwd) (strOf u.hst) u.hh u.port u.opq u.aO
def pX (u:U):List UInt8:=KU u++aZ.pF u.opq (strOf u.txt) u.aO
def Bl (u:U):List UInt8:=aZ.wH (strOf u.au) (strOf u.usr) (strOf u.pwd) (strOf u.hst) u.hh u.port u.opq (strOf u.txt) u.aO u.hq (strOf u.dY)
def fQ (u:U):List UInt8:=aZ.Ar (strOf u.au) (strOf u.usr) (strOf u.pwd) (strOf u.hst) u.hh u.port u.opq (strOf u.txt) u.aO u.hq u.hf (strOf u.dY) (strOf u.fB)
theorem yD (u:U):Bl u=u.au++[58]++KU u++aZ.pF u.opq (strOf u.txt) u.aO++(if u.hq then 63::u.dY else[]):=rfl
theorem Ll (u:U):fQ u=Bl u++(if u.hf then 35::u.fB else[]):=rfl
def HC (c:UInt8):Prop:=c≠47∧c≠92∧c≠64∧c≠63∧c≠35∧33≤c.toNat∧c.toNat≤126
instance (c:UInt8):Decidable (HC c):=by unfold HC;exact inferInstance
theorem isD_hc (c:UInt8) (h:lH 16 c=true):HC c∧c≠91∧c≠93:=
 dn (p:=fun c=>lH 16 c=true→HC c∧c≠91∧c≠93) (by decide+kernel) c h
theorem amj {x:UInt8} {L:List Nat} (hL:∀n ∈ L,n<65536) (h:x ∈ jx L):HC x∧x≠91∧x≠93:=by
 unfold jx at h
 rcases KP _ h with rfl|⟨v,hv,hx⟩
 ·decide
 obtain⟨n,hn,rfl⟩:=List.mem_map.1 hv
 exact isD_hc x (List.all_eq_true.1 (IZ n n (Nat.le_refl _) (hL n hn)).1 x hx)
theorem aeh {x:UInt8} {f:Nat→Nat} (h6:∀i,f i<65536) (h:x ∈ nP.prt f):HC x∧x≠91∧x≠93:=by
 have hV:=nP.W9 h6
 unfold nP.prt at h
 split at h
 ·exact amj hV h
 simp only[List.mem_append,List.mem_cons,List.not_mem_nil,or_false]at h
 rcases h with(h|rfl|rfl)|h
 ·exact amj (fun n hn=>hV n (List.mem_of_mem_take hn)) h
 ·decide
 ·decide
 exact amj (fun n hn=>hV n (List.mem_of_mem_drop hn)) h
theorem Qs (D:List UInt8) (i:Bool):∀L:List UInt8,(∀c ∈ L,c≠91∧c≠93∧(i=true∨c≠58))→hap i (L++D)=(L++(hap i D).1,(hap i D).2.1,(hap i D).2.2)
 |[],_=>rfl
 |c::L,h=>by
  obtain⟨h1,h2,h3⟩:=h c (by simp)
  have hn:¬(c=58∧i=false):=by
   rintro⟨e1,e2⟩
   rcases h3 with h3|h3
   ·rw[h3]at e2;cases e2
   ·exact h3 e1
  rw[List.cons_append,hap,if_neg hn,if_neg h1,if_neg h2,Qs D i L fun d hd=>h d (by simp[hd])]
  rfl
theorem fbd_hc (sp:Bool) (c:UInt8) (h:JU sp c=false) (h1:33≤c.toNat) (h2:c.toNat≤126):HC c∧c≠91∧c≠93∧c≠58∧c≠124:=
 dn (p:=fun c=>∀sp:Bool,JU sp c=false→33≤c.toNat→c.toNat≤126→HC c∧c≠91∧c≠93∧c≠58∧c≠124) (by decide+kernel) c sp h h1 h2
theorem qB {sp:Bool} {R:List UInt8} (hg:J5.Good sp R):(∀c ∈ R,HC c)∧(∀D,hap false (R++D)=(R++(hap false D).1,(hap false D).2.1,(hap false D).2.2))∧drv R=false:=by
 obtain⟨h,hr,hf⟩:=hg
 by_cases PL:R.head?=some 91
 ·unfold hst at h
  rw[if_pos PL]at h
  unfold hbr at h
  split at h
  ·unfold addr at h
   split at h
   ·cases h
   rename_i V hv
   injection h with h
   obtain⟨f,rfl,h6⟩:=Yw hv
   rw[Ov]at h
   rw[←h]
   refine⟨?_,fun D=>?_,?_⟩
   ·intro c hc
    simp only[List.mem_cons,List.mem_append,List.not_mem_nil,or_false]at hc
    rcases hc with rfl|hc|rfl
    ·decide
    ·exact(aeh h6 hc).1
    decide
   ·rw[List.cons_append,hap,if_neg (by decide),if_pos rfl,List.append_assoc,Qs _ true _ fun c hc=>⟨(aeh h6 hc).2.1,(aeh h6 hc).2.2,.inl rfl⟩,List.singleton_append,hap,if_neg (by decide),if_neg (by decide),if_pos rfl]
    simp
   cases hp:nP.prt f with
   |nil=>rfl
   |cons a t=>
    cases t with
    |nil=>rfl
    |cons b t=>rfl
  cases h
 have hc:=fun c hc=>fbd_hc sp c (hf PL c hc) (hr c hc).1 (hr c hc).2
 refine⟨fun c h=>(hc c h).1,fun D=>Qs D false R fun c h=>⟨(hc c h).2.1,(hc c h).2.2.1,.inr (hc c h).2.2.2.1⟩,?_⟩
 match R,hc with
 |[],_=>rfl
 |[_],_=>rfl
 |[x,y],hc=>
  have hy:=hc y (by simp)
  simp[drv,hy.2.2.2.1,hy.2.2.2.2]
 |_::_::_::_,_=>rfl
theorem upto_at (sp:Bool) (P:List UInt8) (hP:P=[]∨∃t,P=47::t):∀X:List UInt8,(∀c ∈ X,gB sp c=false)→upto sp (X++P)=X.length
 |[],_=>by
  rcases hP with rfl|⟨t,rfl⟩
  ·rfl
  ·rw[List.nil_append,upto,if_pos (by cases sp<;>rfl)];rfl
 |c::X,h=>by
  rw[List.cons_append,upto,h c (by simp),if_neg (by decide),upto_at sp P hP X fun d hd=>h d (by simp[hd])]
  rfl
theorem EK (sp:Bool) (c:UInt8) (h1:c≠47) (h2:c≠92):gB sp c=false:=by
 unfold gB
 simp[h1,h2]
theorem aa3:∀(N n:Nat),n≤N→n≤65535→FH (Lib.decDigits n)=n∧(Lib.decDigits n).all Fz=true∧Lib.decDigits n≠[]
 | N, n, hN, h => by
  rw[Lib.decDigits]
  have hd:∀k:Fin 10,FH [UInt8.ofNat (48+k.val)]=k.val∧Fz (UInt8.ofNat (48+k.val))=true∧(UInt8.ofNat (48+k.val)).toNat - 48=k.val:=by decide+kernel
  split
  ·rename_i h1
   have:=hd ⟨n,h1⟩
   exact⟨this.1,by simpa using this.2.1,by simp⟩
  ·have h2:n / 10<n:=by omega
   cases N with
   |zero=>omega
   |succ N=>
    obtain⟨a,b,_⟩:=aa3 N (n / 10) (by omega) (by omega)
    have:=hd ⟨n%10,Nat.mod_lt _ (by decide)⟩
    simp only at this
    refine⟨?_,?_,by simp⟩
    ·rw[tN.Lj,a,this.2.2]
     omega
    ·rw[List.all_append,b]
     simpa using this.2.1
theorem dgt_hc (c:UInt8) (h:Fz c=true):HC c:=dn (p:=fun c=>Fz c=true→HC c) (by decide+kernel) c h
theorem VU {au:List UInt8} {z:Int} (h:z= -1∨(0≤z∧z≤65535∧z≠portOf au)):prt au (hap false (aZ.kK z)).2.1=some z∧(hap false (aZ.kK z)).1=[]∧(∀c ∈ aZ.kK z,HC c)∧((hap false (aZ.kK z)).2.2=true→z≠-1):=by
 rcases h with rfl|⟨h0,h1,h2⟩
 ·refine⟨rfl,rfl,fun c hc=>(by cases hc),fun e=>(by cases e)⟩
 have hz:z≠-1:=by omega
 obtain⟨n,rfl⟩:∃n:Nat,z=(n:Int):=⟨z.toNat,by omega⟩
 obtain⟨a,b,c⟩:=aa3 n n (Nat.le_refl _) (by omega)
 have e:aZ.kK (n:Int)=58::Lib.decDigits n:=by
  unfold aZ.kK Lib.itoa
  rw[if_neg hz,if_neg (by omega)]
  rfl
 rw[e,hap,if_pos ⟨rfl,rfl⟩]
 refine⟨?_,rfl,fun d hd=>?_,fun _=>hz⟩
 ·simp only
  rw[tN.abb au _ c b,a,if_neg h2,if_pos (by omega)]
 rcases List.mem_cons.1 hd with rfl|hd
 ·decide
 exact dgt_hc d (List.all_eq_true.1 b d hd)
theorem out5 (c:UInt8) (h:ji 5 c.toNat=false):HC c∧c≠58:=dn (p:=fun c=>ji 5 c.toNat=false→HC c∧c≠58) (by decide+kernel) c h
theorem adg (u:U) (h1:∀c ∈ u.usr,ji 5 c.toNat=false) (h2:∀c ∈ u.pwd,ji 5 c.toNat=false) (W:List UInt8) (hW:∀c ∈ W,c≠64):∃b,jL (Dh u++W)=(u.usr,u.pwd,W,b)∧(b=true→¬(u.usr=[]∧u.pwd=[])):=by
 have e1:EscE.enc 5 u.usr=u.usr:=Hz.lV 5 _ h1
 have e2:EscE.enc 5 u.pwd=u.pwd:=Hz.lV 5 _ h2
 have hu:(strOf u.usr).data.toList=u.usr:=rfl
 have hp:(strOf u.pwd).data.toList=u.pwd:=rfl
 unfold Dh aZ.lD
 rw[hu,hp]
 by_cases p0:u.pwd=[]
 ·by_cases u0:u.usr=[]
  ·rw[if_pos p0,if_pos u0,List.nil_append]
   refine⟨false,?_,fun e=>by cases e⟩
   unfold jL
   rw[(tN.wR W).2 hW,u0,p0]
  rw[if_pos p0,if_neg u0,List.append_assoc,List.singleton_append]
  refine⟨true,?_,fun _ e=>u0 e.1⟩
  unfold jL
  rw[tN.GL u.usr W hW]
  simp only
  rw[iP 58 u.usr fun c hc=>(out5 c (h1 c hc)).2,p0]
  simp only
  rw[e1]
  rfl
 rw[if_neg p0,List.append_assoc,List.singleton_append]
 refine⟨true,?_,fun _ e=>p0 e.2⟩
 unfold jL
 rw[tN.GL _ W hW]
 simp only
 rw[List.append_assoc,List.singleton_append,kW 58 u.usr u.pwd fun c hc=>(out5 c (h1 c hc)).2]
 simp only
 rw[e1,e2]
theorem Xz (u:U) (h1:∀c ∈ u.usr,ji 5 c.toNat=false) (h2:∀c ∈ u.pwd,ji 5 c.toNat=false):∀c ∈ Dh u,c≠47∧c≠92∧c≠63∧c≠35∧33≤c.toNat∧c.toNat≤126:=by
 have k1:=fun c hc=>(out5 c (h1 c hc)).1
 have k2:=fun c hc=>(out5 c (h2 c hc)).1
 have hu:(strOf u.usr).data.toList=u.usr:=rfl
 have hp:(strOf u.pwd).data.toList=u.pwd:=rfl
 have H:∀c,HC c→c≠47∧c≠92∧c≠63∧c≠35∧33≤c.toNat∧c.toNat≤126:=fun c h=>⟨h.1,h.2.1,h.2.2.2.1,h.2.2.2.2.1,h.2.2.2.2.2⟩
 intro c hc
 unfold Dh aZ.lD at hc
 rw[hu,hp]at hc
 split at hc
 ·split at hc
  ·cases hc
  simp only[List.mem_append,List.mem_singleton]at hc
  rcases hc with hc|rfl
  ·exact H c (k1 c hc)
  decide
 simp only[List.mem_append,List.mem_singleton]at hc
 rcases hc with((hc|rfl)|hc)|rfl
 ·exact H c (k1 c hc)
 ·decide
 ·exact H c (k2 c hc)
 decide
theorem yY (x:ByteArray):∀r:List ByteArray,aZ.aO (x::r)=47::joinL ((x::r).map (·.data.toList))
 |[]=>by simp[aZ.aO,joinL]
 |y::r=>by
  have ih:=yY y r
  have e:aZ.aO (x::y::r)=(47::x.data.toList)++aZ.aO (y::r):=rfl
  rw[e,ih]
  rfl
theorem SN {au:List UInt8} {x:ByteArray} {r:List ByteArray} (h:kQ au (x::r)):walk au [] (joinL ((x::r).map (·.data.toList)))=x::r:=by
 have h0:=(h 0 (by simp)).1
 have e:(decide (au=FILE)&&decide ((0:Nat)=0))=(decide (au=FILE)&&([]:List ByteArray).isEmpty):=by cases decide (au=FILE)<;>rfl
 rw[e]at h0
 have:=aev (decide (au=FILE)) (special au) (r.map (·.data.toList)) [] x.data.toList h0 (fun z hz=>by
  obtain⟨s,hs,rfl⟩:=List.mem_map.1 hz
  obtain⟨i,hi,rfl⟩:=List.getElem_of_mem hs
  have:=(h (i+1) (by simpa using hi)).1
  simpa using this)
 unfold walk
 rw[List.map_cons,this,List.nil_append]
 exact aaM (x::r)
theorem Az {au:List UInt8} {l:List ByteArray} (h:kQ au l) (hn:l≠[]∨special au=false):rooted au (aZ.aO l)=l:=by
 cases l with
 |nil=>
  rcases hn with hn|hn
  ·exact absurd rfl hn
  unfold rooted
  rw[if_pos ⟨rfl,hn⟩]
 |cons x r=>
  rw[yY]
  unfold rooted
  rw[if_neg (fun e=>by cases e.1)]
  have e:rU (special au) (47::joinL ((x::r).map (·.data.toList))) 0=true:=by
   show gB (special au) 47=true
   cases special au<;>rfl
  rw[if_pos e,List.drop_one,List.tail_cons]
  exact SN h
theorem abe (l:List ByteArray):aZ.aO l=[]∨∃t,aZ.aO l=47::t:=by
 cases l with
 |nil=>exact .inl rfl
 |cons x r=>exact .inr ⟨_,yY x r⟩
theorem take_len {A B:List UInt8}:(A++B).take A.length=A∧(A++B).drop A.length=B:=by simp
theorem Bj {u:U} (h:Ok u) (hh:u.hh=true) (ho:u.opq=false):authority u.au (Dh u++u.hst++aZ.kK u.port++aZ.aO u.aO)=(if u.hst=[]∧special u.au=true then none else some {U0 with au:=u.au,usr:=u.usr,pwd:=u.pwd,hst:=u.hst,hh:=true,port:=u.port,aO:=u.aO}):=by
 obtain⟨q1,q2,q3,q4⟩:=VU (au:=u.au) h.port
 have hcr:=Xz u h.usr h.pwd
 have hH:(∀c ∈ u.hst,HC c)∧(∀D,hap false (u.hst++D)=(u.hst++(hap false D).1,(hap false D).2.1,(hap false D).2.2)):=by
  rcases h.host hh with⟨e,_⟩|⟨_,hg⟩
  ·rw[e];exact⟨fun c hc=>(by cases hc),fun D=>rfl⟩
  exact⟨(qB hg).1,(qB hg).2.1⟩
 have hup:upto (special u.au) (Dh u++u.hst++aZ.kK u.port++aZ.aO u.aO)=(Dh u++u.hst++aZ.kK u.port).length:=by
  refine upto_at _ _ (abe _) _ fun c hc=>?_
  simp only[List.mem_append]at hc
  rcases hc with(hc|hc)|hc
  ·exact EK _ _ (hcr c hc).1 (hcr c hc).2.1
  ·exact EK _ _ (hH.1 c hc).1 (hH.1 c hc).2.1
  exact EK _ _ (q3 c hc).1 (q3 c hc).2.1
 obtain⟨b,hb1,hb2⟩:=adg u h.usr h.pwd (u.hst++aZ.kK u.port) fun c hc=>by
  rcases List.mem_append.1 hc with hc|hc
  ·exact(hH.1 c hc).2.2.1
  exact(q3 c hc).2.2.1
 obtain⟨FQ,_,hne⟩:=h.path ho
 have hro:rooted u.au (aZ.aO u.aO)=u.aO:=Az FQ (by
  cases hs:special u.au
  ·exact .inr rfl
  exact .inl (hne (.inr hs)))
 unfold authority
 rw[hup]
 simp only[take_len.1,take_len.2]
 rw[List.append_assoc,hb1]
 simp only
 rw[hH.2,q2,List.append_nil,hro]
 simp only
 rw[q1]
 rcases h.host hh with⟨e,e1,e2,e3,e4⟩|⟨hne2,hg⟩
 ·have b0:b=false:=by
   cases hb:b
   ·rfl
   exact absurd ⟨e1,e2⟩ (hb2 hb)
  have p0:(hap false (aZ.kK u.port)).2.2=false:=by
   cases hp:(hap false (aZ.kK u.port)).2.2
   ·rfl
   exact absurd e3 (q4 hp)
  rw[b0,p0,if_neg (fun e=>by cases e.1),if_neg (fun e=>by cases e.1),e]
  cases hs:special u.au
  ·rw[if_neg (fun e=>by cases e.2)]
   rfl
  rw[if_pos ⟨rfl,rfl⟩]
  rfl
 rw[if_neg (fun e=>hne2 (List.append_eq_nil_iff.1 e.2).1),if_neg (fun e=>hne2 e.2),if_neg (fun e=>hne2 e.1),hg.1]
theorem ext {u v:U} (h0:u.au=v.au) (h1:u.usr=v.usr) (h2:u.pwd=v.pwd) (h3:u.hst=v.hst) (h4:u.hh=v.hh) (h5:u.port=v.port) (h6:u.opq=v.opq) (h7:u.txt=v.txt) (h8:u.aO=v.aO) (h9:u.hq=v.hq) (h10:u.hf=v.hf) (h11:u.dY=v.dY) (h12:u.fB=v.fB):u=v:=by
 cases u;cases v;simp_all
def wI (u:U):U:={u with hq:=false,hf:=false,dY:=[],fB:=[]}
theorem aht {u:U} (h:Ok u) (hs:u.au=FILE):far (u.hst++aZ.aO u.aO)=some (wI u):=by
 obtain⟨f1,f2,f3,f4⟩:=h.file hs
 have hsp:special u.au=true:=by rw[hs];exact ny.2.2
 have hh:=h.spec hsp
 have ho:=I9 h hsp
 obtain⟨FQ,htx,hne⟩:=h.path ho
 have hro:rooted u.au (aZ.aO u.aO)=u.aO:=Az FQ (.inl (hne (.inr hsp)))
 rw[hs]at hro
 have hg:(∀c ∈ u.hst,HC c)∧drv u.hst=false∧(u.hst=[]∨(u.hst≠[]∧hst u.hst true=some u.hst)):=by
  rcases h.host hh with⟨e,_⟩|⟨hn,hg⟩
  ·rw[e];exact⟨fun c hc=>(by cases hc),rfl,.inl rfl⟩
  have:=hg.1
  rw[hsp]at this
  exact⟨(qB hg).1,(qB hg).2.2,.inr ⟨hn,this⟩⟩
 have hup:upto true (u.hst++aZ.aO u.aO)=u.hst.length:=upto_at _ _ (abe _) _ fun c hc=>EK _ _ (hg.1 c hc).1 (hg.1 c hc).2.1
 unfold far
 rw[hup,take_len.1,take_len.2,hg.2.1,if_neg (by decide),hro]
 rcases hg.2.2 with e|⟨hn,e⟩
 ·rw[if_pos e]
  congr 1
  exact ext hs.symm f1.symm f2.symm e.symm hh.symm f3.symm ho.symm htx.symm rfl rfl rfl rfl rfl
 rw[if_neg hn,e]
 simp only
 rw[if_neg f4]
 congr 1
 exact ext hs.symm f1.symm f2.symm rfl hh.symm f3.symm ho.symm htx.symm rfl rfl rfl rfl rfl
theorem afx {c:UInt8} {t:List UInt8} (h:c≠47∧c≠92):(c::t).dropWhile (gB true)=c::t:=by
 rw[List.dropWhile_cons_of_neg (by rw[EK true c h.1 h.2];simp)]
theorem sch_ne {u:U} (h:Ok u):u.au≠[]:=by
 intro e
 have:=h.au
 rw[e]at this
 cases this
theorem Uk {u:U} (h:Ok u) (q f:List UInt8) (hq hf:Bool):PrsP.resolve ⟨u.au,pX u,q,f,hq,hf⟩ none=some (wI u):=by
 have hsn:=sch_ne h
 unfold pX KU aZ.ug aZ.pF
 have hhs:(strOf u.hst).data.toList=u.hst:=rfl
 have hts:(strOf u.txt).data.toList=u.txt:=rfl
 rw[hhs,hts]
 unfold PrsP.resolve
 simp only
 by_cases Vl:u.au=FILE
 ·obtain⟨f1,f2,f3,f4⟩:=h.file Vl
  have hsp:special u.au=true:=by rw[Vl];exact ny.2.2
  have hh:=h.spec hsp
  have ho:=I9 h hsp
  have hfa:=aht h Vl
  have hcr:aZ.lD (strOf u.usr) (strOf u.pwd)=[]:=by rw[f1,f2];rfl
  rw[if_pos Vl,hh,ho,if_pos rfl,if_neg (by decide),hcr,f3,show aZ.kK (-1)=[]from rfl]
  simp only[List.append_nil,List.cons_append,List.nil_append]
  unfold PrsP.file
  rw[if_pos ⟨rfl,rfl⟩]
  exact hfa
 rw[if_neg Vl]
 by_cases hsp:special u.au=true
 ·have hh:=h.spec hsp
  have ho:=I9 h hsp
  have hau:=Bj h hh ho
  have hst0:u.hst≠[]:=by
   rcases h.host hh with⟨_,_,_,_,e⟩|⟨e,_⟩
   ·rcases e with e|e
    ·rw[hsp]at e;cases e
    exact absurd e Vl
   exact e
  rw[if_neg (fun e=>hst0 e.1)]at hau
  rw[if_pos hsp,hh,ho,if_pos rfl,if_neg (by decide)]
  have hd:([47,47]++aZ.lD (strOf u.usr) (strOf u.pwd)++u.hst++aZ.kK u.port++aZ.aO u.aO).dropWhile (gB true)=Dh u++u.hst++aZ.kK u.port++aZ.aO u.aO:=by
   have hcr:=Xz u h.usr h.pwd
   have hH:∀c ∈ u.hst,HC c:=by
    rcases h.host hh with⟨e,_⟩|⟨_,hg⟩
    ·exact absurd e hst0
    exact(qB hg).1
   show((47:UInt8)::47::(Dh u++u.hst++aZ.kK u.port++aZ.aO u.aO)).dropWhile (gB true)=_
   rw[List.dropWhile_cons_of_pos rfl,List.dropWhile_cons_of_pos rfl]
   cases hc:Dh u with
   |cons c t=>exact afx ⟨(hcr c (by rw[hc];simp)).1,(hcr c (by rw[hc];simp)).2.1⟩
   |nil=>
    cases hx:u.hst with
    |nil=>exact absurd hx hst0
    |cons c t=>exact afx ⟨(hH c (by rw[hx];simp)).1,(hH c (by rw[hx];simp)).2.1⟩
  rw[hd,hau]
  congr 1
  exact ext rfl rfl rfl rfl hh.symm rfl ho.symm (h.path ho).2.1.symm rfl rfl rfl rfl rfl
 have hsp':special u.au=false:=by simpa using hsp
 rw[if_neg hsp,if_pos hsn]
 unfold PrsP.plain
 simp only
 cases ho:u.opq with
 | true=>
  obtain⟨_,hh,hp,htx,h47,hsu⟩:=h.opq ho
  obtain⟨n1,n2,n3,n4⟩:=h.X0 hh
  have e0:EscE.enc 0 u.txt=u.txt:=Hz.lV 0 _ fun c hc=>(htx c hc).1
  have hpr:∀M:List UInt8,Lib.hasPrefix u.txt (47::M)=false:=fun M=>by
   cases hx:u.txt with
   |nil=>rfl
   |cons c t=>
    rw[hx]at h47
    have hc:c≠47:=fun e=>h47 (by rw[e];rfl)
    show((47==c)&&_)=false
    rw[beq_eq_false_iff_ne.2 (fun e=>hc e.symm)]
    rfl
  rw[hh,show aZ.dotted true u.aO=false from rfl]
  simp only[Bool.false_eq_true,↓reduceIte,List.nil_append]
  rw[hpr,hpr]
  simp only[Bool.false_eq_true,↓reduceIte]
  have eo:PrsP.opq (hq||hf) u.txt=u.txt:=by
   unfold PrsP.opq
   rw[e0,hsu,if_neg (fun e=>by cases e.1)]
  rw[eo]
  congr 1
  exact ext rfl n1.symm n2.symm n4.symm hh.symm n3.symm ho.symm rfl hp.symm rfl rfl rfl rfl
 | false =>
  obtain⟨FQ,htx,hne⟩:=h.path ho
  cases hh:u.hh with
  |true=>
   have hau:=Bj h hh ho
   rw[if_neg (fun e=>hsp e.2)]at hau
   simp only[Bool.false_eq_true,↓reduceIte]
   have e:([47,47]++aZ.lD (strOf u.usr) (strOf u.pwd)++u.hst++aZ.kK u.port++aZ.aO u.aO)=47::47::(Dh u++u.hst++aZ.kK u.port++aZ.aO u.aO):=rfl
   rw[e,if_pos (by simp[Lib.hasPrefix,List.isPrefixOf]),List.drop_succ_cons,List.drop_succ_cons,List.drop_zero,hau]
   congr 1
   exact ext rfl rfl rfl rfl hh.symm rfl ho.symm htx.symm rfl rfl rfl rfl rfl
  | false=>
   obtain⟨n1,n2,n3,n4⟩:=h.X0 hh
   have hn:=hne (.inl hh)
   simp only[Bool.false_eq_true,↓reduceIte]
   have hcore:∀R:List UInt8,Lib.hasPrefix R [47,47]=false→Lib.hasPrefix R [47]=true→rooted u.au R=u.aO→(if Lib.hasPrefix R [47,47]=true then authority u.au (R.drop 2)else if Lib.hasPrefix R [47]=true then some {U0 with au:=u.au,port:= -1,aO:=rooted u.au R}else some {U0 with au:=u.au,port:= -1,opq:=true,txt:=PrsP.opq (hq||hf) R})=some (wI u):=by
    intro R r1 r2 r3
    rw[r1,if_neg (by decide),r2,if_pos rfl,r3]
    congr 1
    exact ext rfl n1.symm n2.symm n4.symm hh.symm n3.symm ho.symm htx.symm rfl rfl rfl rfl rfl
   apply hcore
   all_goals
    cases hd:aZ.dotted false u.aO
   ·rw [if_neg (by decide),List.nil_append]
    cases hl:u.aO with
    |nil=>exact absurd hl hn
    | cons x r=>
     rw[yY]
     have hx:=(FQ 0 (by rw[hl];simp)).1.stops
     simp only[hl,List.getElem_cons_zero]at hx
     cases r with
     | nil=>
      simp only[List.map_cons,List.map_nil,joinL]
      cases hb:x.data.toList with
      |nil=>rfl
      |cons c t=>
       have:=hx c (by rw[hb];simp)
       have hc:c≠47:=by
        rintro rfl
        cases hs:special u.au<;>rw[hs]at this<;>cases this
       simp[Lib.hasPrefix,List.isPrefixOf,Ne.symm hc]
     | cons y r=>
      rw[hl]at hd
      simp only[List.map_cons,joinL]
      cases hb:x.data.toList with
      |nil=>
       unfold aZ.dotted at hd
       simp[hb]at hd
      |cons c t=>
       have:=hx c (by rw[hb];simp)
       have hc:c≠47:=by
        rintro rfl
        cases hs:special u.au<;>rw[hs]at this<;>cases this
       simp[Lib.hasPrefix,List.isPrefixOf,Ne.symm hc]
   ·rw[if_pos rfl]
    rfl
   ·rw[if_neg (by decide),List.nil_append]
    cases hl:u.aO with
    |nil=>exact absurd hl hn
    |cons x r=>rw[yY];rfl
   ·rw[if_pos rfl]
    rfl
   ·rw[if_neg (by decide),List.nil_append]
    exact Az FQ (.inl hn)
   rw[if_pos rfl]
   cases hl:u.aO with
   |nil=>exact absurd hl hn
   |cons x r=>
    rw[hl]at FQ
    rw[yY]
    unfold rooted
    rw[if_neg (fun e=>by cases e.1),hsp',if_pos (by rfl)]
    have e1:(([47,46]:List UInt8)++47::joinL ((x::r).map fun y:ByteArray=>y.data.toList)).drop 1=[46]++47::joinL ((x::r).map fun y:ByteArray=>y.data.toList):=rfl
    have e2:=SN FQ
    rw[e1]
    unfold walk at e2⊢
    rw[hsp']at e2⊢
    rw[OE _ _ _ [46] [] _ (by decide),List.nil_append,wb,if_pos (show gB false 47=true from rfl)]
    have e3:Hu (decide (u.au=FILE)) false [] [46]=[]:=by
     rw[agr _ _ _ _ (by decide+kernel) (by decide+kernel)]
     rfl
    rw[e3]
    exact e2
theorem aiG (c:UInt8) (h:ji 4 c.toNat=false):c≠63∧c≠35∧33≤c.toNat∧c.toNat≤126:=dn (p:=fun c=>ji 4 c.toNat=false→c≠63∧c≠35∧33≤c.toNat∧c.toNat≤126) (by decide+kernel) c h
theorem ain {au:List UInt8} {l:List ByteArray} (h:kQ au l):∀c ∈ aZ.aO l,c≠63∧c≠35∧33≤c.toNat∧c.toNat≤126:=by
 intro c hc
 unfold aZ.aO at hc
 obtain⟨s,hs,hm⟩:=List.mem_flatMap.1 hc
 obtain⟨i,hi,rfl⟩:=List.getElem_of_mem hs
 rcases List.mem_cons.1 hm with rfl|hm
 ·decide
 exact aiG c ((h i hi).2 c hm)
theorem aiS (c:UInt8) (h:ji 0 c.toNat=false):32≤c.toNat∧c.toNat≤126:=dn (p:=fun c=>ji 0 c.toNat=false→32≤c.toNat∧c.toNat≤126) (by decide+kernel) c h
theorem Rt {u:U} (h:Ok u):(∀c ∈ pX u,c≠63∧c≠35∧32≤c.toNat∧c.toNat≤126)∧Lib.hasSuffix (pX u) [32]=false:=by
 have hhs:(strOf u.hst).data.toList=u.hst:=rfl
 have hts:(strOf u.txt).data.toList=u.txt:=rfl
 cases ho:u.opq with
 |true=>
  obtain⟨_,hh,hp,htx,h47,hsu⟩:=h.opq ho
  have e:pX u=u.txt:=by
   unfold pX KU aZ.ug aZ.pF
   rw[hh,ho]
   rfl
  rw[e]
  exact⟨fun c hc=>⟨(htx c hc).2.1,(htx c hc).2.2,aiS c (htx c hc).1⟩,hsu⟩
 | false=>
  obtain⟨FQ,htx,hne⟩:=h.path ho
  have hp:=ain FQ
  have hall : ∀ c ∈ pX u, c ≠ 63 ∧ c ≠ 35 ∧ 33 ≤ c.toNat ∧ c.toNat ≤ 126 := by
   intro c hc
   unfold pX KU aZ.ug aZ.pF at hc
   rw[ho,hhs,hts]at hc
   simp only[Bool.false_eq_true,↓reduceIte]at hc
   rcases List.mem_append.1 hc with hc|hc
   ·split at hc
    ·rename_i hh
     simp only[List.mem_append]at hc
     rcases hc with((hc|hc)|hc)|hc
     ·simp only[List.mem_cons,List.not_mem_nil,or_false,or_self]at hc
      rw[hc];decide
     ·have:=Xz u h.usr h.pwd c hc
      exact⟨this.2.2.1,this.2.2.2.1,this.2.2.2.2⟩
     ·rcases h.host hh with⟨e,_⟩|⟨_,hg⟩
      ·rw[e]at hc;cases hc
      have:=(qB hg).1 c hc
      exact⟨this.2.2.2.1,this.2.2.2.2.1,this.2.2.2.2.2⟩
     have:=(VU (au:=u.au) h.port).2.2.1 c hc
     exact⟨this.2.2.2.1,this.2.2.2.2.1,this.2.2.2.2.2⟩
    split at hc
    ·simp only[List.mem_cons,List.not_mem_nil,or_false]at hc
     rcases hc with rfl|rfl<;>decide
    cases hc
   exact hp c hc
  refine⟨fun c hc=>⟨(hall c hc).1,(hall c hc).2.1,by have:=(hall c hc).2.2.1;omega,(hall c hc).2.2.2⟩,?_⟩
  cases hx:Lib.hasSuffix (pX u) [32]
  ·rfl
  have:=(hall 32 (RX hx)).2.2.1
  revert this
  decide
theorem V4 {s:List UInt8} (h:lI s=true):(∃c t,s=c::t∧fO c=false)∧∀c ∈ s,c≠58∧c≠63∧c≠35∧33≤c.toNat∧c.toNat≤126:=by
 have H:=fun c=>dn (p:=fun c=>(letter c.toNat=true→fO c=false∧c≠58∧c≠63∧c≠35∧33≤c.toNat∧c.toNat≤126)∧(NT c=true→c≠58∧c≠63∧c≠35∧33≤c.toNat∧c.toNat≤126)) (by decide+kernel) c
 cases s with
 |nil=>cases h
 |cons c t=>
  unfold lI at h
  rw[Bool.and_eq_true]at h
  refine⟨⟨c,t,rfl,((H c).1 h.1).1⟩,fun d hd=>?_⟩
  rcases List.mem_cons.1 hd with rfl|hd
  ·exact((H d).1 h.1).2
  exact(H d).2 (List.all_eq_true.1 h.2 d hd)
theorem abh (c:UInt8):(∀sp:Bool,ji (if sp=true then 3 else 2) c.toNat=false→c≠35∧33≤c.toNat∧c.toNat≤126)∧(ji 1 c.toNat=false→33≤c.toNat∧c.toNat≤126):=
 dn (p:=fun c=>(∀sp:Bool,ji (if sp=true then 3 else 2) c.toNat=false→c≠35∧33≤c.toNat∧c.toNat≤126)∧(ji 1 c.toNat=false→33≤c.toNat∧c.toNat≤126)) (by decide+kernel) c
theorem Dc {T:List UInt8} (h:∀c ∈ T,32≤c.toNat∧c.toNat≤126) (h1:∃c t,T=c::t∧fO c=false) (h2:Lib.hasSuffix T [32]=false):clean T=T:=by
 have e:ED T=T:=oL T fun c hc=>by have:=(h c hc).2;omega
 have et:ru T=T:=by
  obtain⟨c,t,rfl,hc⟩:=h1
  unfold ru
  rw[List.dropWhile_cons_of_neg (by rw[hc];simp)]
  rcases jC (c::t)with hx|⟨M,d,hx⟩
  ·cases hx
  rw[hx]at h h2⊢
  rw[eP,decide_eq_false_iff_not]at h2
  have hd:fO d=false:=by
   have:=(h d (by simp)).1
   unfold fO
   rw[decide_eq_false_iff_not]
   intro h3
   exact h2 (UInt8.toNat_inj.1 (by show d.toNat=32;omega))
  rw[List.reverse_append]
  show((d::M.reverse).dropWhile fO).reverse=_
  rw[List.dropWhile_cons_of_neg (by rw[hd];simp)]
  simp
 rw[rG,e,et,List.filter_eq_self.2 fun c hc=>?_]
 have:=(h c hc).1
 unfold brk
 have h9:c≠9:=by rintro rfl;revert this;decide
 have h10:c≠10:=by rintro rfl;revert this;decide
 have h13:c≠13:=by rintro rfl;revert this;decide
 simp[h9,h10,h13]
theorem zy {u:U} (h:Ok u):PrsP.url (fQ u) none=some u:=by
 obtain⟨hr,hrs⟩:=Rt h
 obtain⟨hs1,hs2⟩:=V4 h.au
 have hq:=fun c hc=>(abh c).1 (special u.au) (h.dY c hc)
 have hf:=fun c hc=>(abh c).2 (h.fB c hc)
 obtain⟨A,hA⟩:∃A,A=u.au++58::pX u:=⟨_,rfl⟩
 obtain⟨B,hB⟩:∃B,B=A++(if u.hq then 63::u.dY else[]):=⟨_,rfl⟩
 have hT:fQ u=B++(if u.hf then 35::u.fB else[]):=by
  rw[Ll,yD,hB,hA]
  unfold pX
  simp
 have hAc:∀c ∈ A,c≠63∧c≠35∧32≤c.toNat∧c.toNat≤126:=by
  intro c hc
  rw[hA]at hc
  simp only[List.mem_append,List.mem_cons]at hc
  rcases hc with hc|rfl|hc
  ·have:=hs2 c hc
   exact⟨this.2.1,this.2.2.1,by omega,this.2.2.2.2⟩
  ·decide
  exact hr c hc
 have hBc:∀c ∈ B,c≠35∧32≤c.toNat∧c.toNat≤126:=by
  intro c hc
  rw[hB]at hc
  rcases List.mem_append.1 hc with hc|hc
  ·exact(hAc c hc).2
  split at hc
  ·rcases List.mem_cons.1 hc with rfl|hc
   ·decide
   have:=hq c hc
   exact⟨this.1,by omega,this.2.2⟩
  cases hc
 have hTc:∀c ∈ fQ u,32≤c.toNat∧c.toNat≤126:=by
  intro c hc
  rw[hT]at hc
  rcases List.mem_append.1 hc with hc|hc
  ·exact(hBc c hc).2
  split at hc
  ·rcases List.mem_cons.1 hc with rfl|hc
   ·decide
   have:=hf c hc
   exact⟨by omega,this.2⟩
  cases hc
 have suf:∀(X:List UInt8) (k:UInt8) (Y:List UInt8),k≠32→(∀c ∈ Y,c≠32)→Lib.hasSuffix (X++k::Y) [32]=false:=by
  intro X k Y hk hY
  rcases jC (k::Y)with e|⟨M,d,e⟩
  ·cases e
  rw[e,←List.append_assoc,eP,decide_eq_false_iff_not]
  have:d ∈ k::Y:=by rw[e];simp
  rcases List.mem_cons.1 this with rfl|hd
  ·exact hk
  exact hY d hd
 have hAs:Lib.hasSuffix A [32]=false:=by
  rw[hA]
  rcases jC (pX u)with e|⟨M,d,e⟩
  ·rw[e];exact suf _ _ _ (by decide) (fun c hc=>by cases hc)
  rw[e,eP]at hrs
  rw[e,show u.au++58::(M++[d])=(u.au++58::M)++[d]from by simp,eP]
  exact hrs
 have hBs:Lib.hasSuffix B [32]=false:=by
  rw[hB]
  split
  ·exact suf _ _ _ (by decide) fun c hc e=>by
    have:=(hq c hc).2.1
    rw[e]at this
    revert this
    decide
  rw[List.append_nil];exact hAs
 have hTs:Lib.hasSuffix (fQ u) [32]=false:=by
  rw[hT]
  split
  ·exact suf _ _ _ (by decide) fun c hc e=>by
    have:=(hf c hc).1
    rw[e]at this
    revert this
    decide
  rw[List.append_nil];exact hBs
 have hT1:∃c t,fQ u=c::t∧fO c=false:=by
  obtain⟨c,t,e,hc⟩:=hs1
  exact⟨c,_,by rw[hT,hB,hA,e];rfl,hc⟩
 have hcl:=Dc hTc hT1 hTs
 have c35:fG 35 (fQ u)=(B,u.fB,u.hf):=by
  rw[hT]
  cases hx:u.hf with
  |true=>rw[if_pos rfl];exact kW 35 B u.fB fun c hc=>(hBc c hc).1
  |false=>rw[if_neg (by decide),List.append_nil,h.nof hx];exact iP 35 B fun c hc=>(hBc c hc).1
 have c63:fG 63 B=(A,u.dY,u.hq):=by
  rw[hB]
  cases hx:u.hq with
  |true=>rw[if_pos rfl];exact kW 63 A u.dY fun c hc=>(hAc c hc).1
  |false=>rw[if_neg (by decide),List.append_nil,h.noq hx];exact iP 63 A fun c hc=>(hAc c hc).1
 have c58:fG 58 A=(u.au,pX u,true):=by
  rw[hA]
  exact kW 58 u.au _ fun c hc=>(hs2 c hc).1
 have hap:PrsP.apart (fQ u)=⟨u.au,pX u,u.dY,u.fB,u.hq,u.hf⟩:=by
  unfold PrsP.apart
  simp only
  rw[c35]
  simp only
  rw[c63]
  simp only
  rw[c58]
  simp only
  rw[h.au,if_pos (by rfl),h.low]
 unfold PrsP.url
 rw[hcl,hap,Uk h,Option.map_some]
 congr 1
 have e1:EscE.enc (if special u.au=true then 3 else 2) u.dY=u.dY:=Hz.lV _ _ h.dY
 have e2:EscE.enc 1 u.fB=u.fB:=Hz.lV 1 _ h.fB
 have e3:EscE.enc (if special (wI u).au=true then 3 else 2) u.dY=u.dY:=e1
 unfold PrsP.finish
 simp only
 rw[e2,e3]
 have n1:=h.noq
 have n2:=h.nof
 cases hx:u.hq<;>cases hy:u.hf
 ·exact ext rfl rfl rfl rfl rfl rfl rfl rfl rfl hx.symm hy.symm (n1 hx).symm (n2 hy).symm
 ·exact ext rfl rfl rfl rfl rfl rfl rfl rfl rfl hx.symm hy.symm (n1 hx).symm rfl
 ·exact ext rfl rfl rfl rfl rfl rfl rfl rfl rfl hx.symm hy.symm rfl (n2 hy).symm
 exact ext rfl rfl rfl rfl rfl rfl rfl rfl rfl hx.symm hy.symm rfl rfl
end Go.Proofs.YtmpeaoacaecgpaaGreatDoor.wo
namespace Go.Proofs.YtmpeaoacaecgpaaGreatDoor.aj6
open Go.RowKit Base dI cO UrlA J5 PrsP acK PrsU NJ wo zD
theorem in0 (c:UInt8) (h1:32≤c.toNat) (h2:c.toNat≤126):ji 0 c.toNat=false:=dn (p:=fun c=>32≤c.toNat→c.toNat≤126→ji 0 c.toNat=false) (by decide+kernel) c h1 h2
end Go.Proofs.YtmpeaoacaecgpaaGreatDoor.aj6
namespace Go.Proofs.YtmpeaoacaecgpaaGreatDoor.Wx
open Go.RowKit Base Base2
theorem sizeB:(Tryz.prog.info? 147).map (·.size)=some 2:=by kernel_rfl
theorem liesB:liesAt Tryz.prog Tryz.prog.depth 147 (2 / Tryz.prog.cellsOf 147) 0 147 1=true:=by kernel_rfl
abbrev lq (B b:Nat) (l:List UInt8) (w:World):Prop:=Lib.IsBuilder 147 5 B b (Lib.byteCells l) w
theorem PY (b:Nat) (w:World) (h0:w.cell? ⟨b,0,none⟩=some (.pointer (some ⟨b,0,none⟩))):
  Calls Tryz.prog 251 #[.pointer (some ⟨b,0,none⟩)] w fun e w'=>e=.returned (.tuple #[])∧w'=w:=by
 obtain⟨j,hj,_⟩:=Option.map_eq_some_iff.1 sizeB
 go_enter Tryz.func251,Tryz.ntmps251
 go_wp2
 rw[Lib.run_neq_ptr_same w _ Tryz.underlying145 hj]
 go_wp2
 go_end0
 exact⟨rfl,rfl⟩
theorem MJ (b:Nat) (w:World) (h0:w.cell? ⟨b,0,none⟩=some (.pointer none)) (hsh:w.shape? b=some (147,2)) (hfz:w.frozen? ⟨b,0,none⟩=false):
  Calls Tryz.prog 251 #[.pointer (some ⟨b,0,none⟩)] w fun e w'=>e=.returned (.tuple #[])∧w'=w.setCell ⟨b,0,none⟩ (.pointer (some ⟨b,0,none⟩)):=by
 obtain⟨j,hj,hjs⟩:=Option.map_eq_some_iff.1 sizeB
 go_enter Tryz.func251,Tryz.ntmps251
 go_wp2
 rw[Lib.run_to_unsafe w ⟨b,0,none⟩ Tryz.underlying145 Tryz.underlying267 hj (by rw[hjs];decide) hsh (Nat.zero_lt_succ 1)]
 simp only[Result.andThen]
 rw[Oper.upon_value]
 go_wp2
 rw[run_callFunc_extern Tryz.func292 (by kernel_rfl) (by kernel_rfl) (by kernel_rfl) (e:=Extern.AbiNoEscape.same) (by kernel_rfl)]
 rw[Lib.run_noEscape]
 simp only[Result.andThen]
 rw[Oper.upon_value]
 go_wp2
 rw[Lib.run_from_unsafe w ⟨b,0,none⟩ Tryz.underlying267 Tryz.underlying145 hj hsh liesB]
 simp only[Result.andThen]
 rw[Oper.upon_value]
 go_wp2
 go_end0
 exact⟨rfl,rfl⟩
theorem check_any (B b:Nat) (bs:List Value) (w:World) (h:Lib.IsBuilder 147 5 B b bs w):
  Calls Tryz.prog 251 #[.pointer (some ⟨b,0,none⟩)] w fun e w'=>e=.returned (.tuple #[])∧(Lib.BuilderAt 147 5 B b (.pointer (some ⟨b,0,none⟩)) bs w'∧Below B w w'):=by
 rcases h with h|h
 ·refine(MJ b w h.cell0 h.shape h.frozen0).mono ?_
  rintro e w' ⟨rfl,rfl⟩
  exact⟨rfl,h.used _,(Below.refl B w).setCell (p:=⟨b,0,none⟩) h.1 _⟩
 ·refine(PY b w h.cell0).mono ?_
  rintro e w' ⟨rfl,rfl⟩
  exact⟨rfl,h,Below.refl B _⟩
theorem write_any (B b:Nat) (l:List UInt8) (s:ByteArray) (w:World) (h:lq B b l w) (hlen:l.length+s.size≤140737488355328) (hBw:B≤w.heap.size):
  Calls Tryz.prog 151 #[.pointer (some ⟨b,0,none⟩),.string s] w fun e w'=>e=.returned (.tuple #[.int .i64 s.size,.nilIface])∧lq B b (l++s.data.toList) w'∧Below B w w':=by
 obtain⟨i0,hi,hz0,hz1,hz2⟩:=info_parts iR
 have hlb:(Lib.byteCells l).length=l.length:=by simp[Lib.byteCells]
 have WE:=Base.hid hlb
 clear hlb
 go_enter Tryz.func151,Tryz.ntmps151
 go_wp2_with (refine(check_any B b _ _ h).mono ?_)
 rintro e w1 ⟨rfl,h1,hb1⟩
 obtain⟨hB,v,hbk,hown,hne⟩:=h1
 have c0:w1.cell? ⟨b,0,none⟩=some (.pointer (some ⟨b,0,none⟩)):=by rw[Lib.cell_of_heap hbk];rfl
 have c1:w1.cell? ⟨b,1,none⟩=some v:=by rw[Lib.cell_of_heap hbk];rfl
 go_wp2_with (at_builtin;refine Lib.wpList_append_own_string _ rfl _ _ 45 9 rfl B 5 i0 Tryz.underlying45 Tryz.underlying9 hi hz0 hz1 hz2 _ _ _ rfl hown s rfl ?c3 ?c4 ?c5 ?_)
 case c3=>have:=WE.out;unfold maxLen;omega
 case c4=>have:=WE.out;omega
 case c5=>have:=hb1.size;omega
 intro v' w2 hown' hgrow _
 have hlt:b<w1.heap.size:=(Array.getElem?_eq_some_iff.1 hbk).1
 have hb2:w2.heap[b]?=some (.cells #[.pointer (some ⟨b,0,none⟩),v] 147 (0,0)):=by
  rw[hgrow.block b hlt (fun e=>hne e.symm)]
  exact hbk
 have d0:w2.cell? ⟨b,0,none⟩=some (.pointer (some ⟨b,0,none⟩)):=by rw[Lib.cell_of_heap hb2];rfl
 have d1:w2.cell? ⟨b,1,none⟩=some v:=by rw[Lib.cell_of_heap hb2];rfl
 have f1:w2.frozen? ⟨b,1,none⟩=false:=Lib.frozen_of_heap hb2 1
 obtain⟨ao,n',cap,rfl⟩:∃ao n' cap,v'=.slice ao n' cap:=by
  rcases hown'.2 with⟨hv,_⟩|⟨g,cap,cur,hv,_⟩
  ·exact⟨_,_,_,hv⟩
  ·exact⟨_,_,_,hv⟩
 go_wp2
 go_ret2
 refine⟨rfl,Or.inr ?_,?_⟩
 ·have hp:=Lib.BuilderAt.put (T:=147) (e:=5) hB hb2 (bs':=Lib.byteCells l++Lib.strCells s) (by simpa[Lib.strCells_length]using hown') (by decide)
  have e:Lib.byteCells (l++s.data.toList)=Lib.byteCells l++Lib.strCells s:=by simp[Lib.byteCells,Lib.strCells]
  rw[e]
  exact hp
 ·exact(hb1.grown hgrow (by have:=hb1.size;omega) (fun k hk=>(hown.lt k hk).1)).setCell (p:=⟨b,1,none⟩) hB _
end Go.Proofs.YtmpeaoacaecgpaaGreatDoor.Wx
namespace Go.Proofs.YtmpeaoacaecgpaaGreatDoor.UrlB
open Go.RowKit Base Base2 aZ Wx
theorem qL (B b:Nat) (l:List UInt8) (w:World) (h:lq B b l w) (hBw:B≤w.heap.size):
  Calls Tryz.prog 155 #[.pointer (some ⟨b,0,none⟩)] w fun e w'=>e=.returned (.string (strOf l))∧Below B w w':=Tryz.Builder_String B b l w h hBw
theorem ak0 (s0:ByteArray) (s1:ByteArray) (s2:ByteArray) (s3:ByteArray) (b4:Bool) (z5:Int) (b6:Bool) (s7:ByteArray) (A:Option Addr) (n cap:Nat) (l:List ByteArray) (b9:Bool) (b10:Bool) (s11:ByteArray) (s12:ByteArray) (w:World) (h1:s1.size≤1073741824) (h2:s2.size≤1073741824):
  Calls Tryz.prog 162 #[.agg #[.string s0,.string s1,.string s2,.string s3,.bool b4,.int .i64 z5,.bool b6,.string s7,.slice A n cap,.bool b9,.bool b10,.string s11,.string s12]] w fun e w'=>e=.returned (.string (strOf (lD s1 s2)))∧Below w.heap.size w w':=by
 have hl1:s1.data.toList.length=s1.size:=Array.length_toList
 have hl2:s2.data.toList.length=s2.size:=Array.length_toList
 by_cases e2:s2.data.toList=[]
 ·have q2:s2.toList=[]:=by rw[tl];exact e2
  have HC:Hid (lD s1 s2=if s1.data.toList=[]then[]else s1.data.toList++[64]):=if_pos e2
  by_cases e1:s1.data.toList=[]
  ·have q1:s1.toList=[]:=by rw[tl];exact e1
   have HC2:Hid (lD s1 s2=[]):=HC.out.trans (if_pos e1)
   clear e1 e2 hl1 hl2
   go_enter Tryz.func162,Tryz.ntmps162
   go_wp2
   go_ret
   exact⟨by rw[HC2.out];rfl,(Below.refl _ _).alloc (Nat.le_refl _) _⟩
  ·have q1:(s1.toList==[])=false:=by rw[tl];simpa using e1
   have q1':s1.toList.isEmpty=false:=by rw[tl];simpa using e1
   have HC2:Hid (lD s1 s2=s1.data.toList++[64]):=HC.out.trans (if_neg e1)
   have a1:∀w:World,(Op.stringOp .add s1 ⟨#[64]⟩).run Tryz.prog w=.ok (.string (strOf (s1.data.toList++[64]))) w:=fun w=>dL s1 ⟨#[64]⟩ w (by show s1.size+1≤_;omega)
   clear e1 e2 hl1 hl2
   go_enter Tryz.func162,Tryz.ntmps162
   go_wp2
   go_ret
   exact⟨by rw[HC2.out];rfl,(Below.refl _ _).alloc (Nat.le_refl _) _⟩
 ·have q2:(s2.toList==[])=false:=by rw[tl];simpa using e2
  have q2':s2.toList.isEmpty=false:=by rw[tl];simpa using e2
  have HC:Hid (lD s1 s2=s1.data.toList++[58]++s2.data.toList++[64]):=if_neg e2
  obtain⟨X,hX⟩:∃X,X=strOf (s1.data.toList++[58]):=⟨_,rfl⟩
  obtain⟨Y,hY⟩:∃Y,Y=strOf (s1.data.toList++[58]++s2.data.toList):=⟨_,rfl⟩
  have a1:∀w:World,(Op.stringOp .add s1 ⟨#[58]⟩).run Tryz.prog w=.ok (.string X) w:=fun w=>by rw[hX];exact dL s1 ⟨#[58]⟩ w (by show s1.size+1≤_;omega)
  have a2:∀w:World,(Op.stringOp .add X s2).run Tryz.prog w=.ok (.string Y) w:=fun w=>by rw[hX,hY];exact dL _ s2 w (by rw[size_strOf,List.length_append];simp;omega)
  have a3:∀w:World,(Op.stringOp .add Y ⟨#[64]⟩).run Tryz.prog w=.ok (.string (strOf (lD s1 s2))) w:=fun w=>by rw[HC.out,hY];exact dL _ ⟨#[64]⟩ w (by rw[size_strOf];simp;show _+1≤_;omega)
  clear e2 hl1 hl2 hX hY
  go_enter Tryz.func162,Tryz.ntmps162
  go_wp2
  go_ret
  exact⟨rfl,(Below.refl _ _).alloc (Nat.le_refl _) _⟩
theorem DU (s0:ByteArray) (s1:ByteArray) (s2:ByteArray) (s3:ByteArray) (b4:Bool) (z5:Int) (b6:Bool) (s7:ByteArray) (A:Option Addr) (n cap:Nat) (l:List ByteArray) (b9:Bool) (b10:Bool) (s11:ByteArray) (s12:ByteArray) (w:World) (hR:aY w A n (l.map Value.string)) (hnc:n≤cap) (hcm:cap≤maxLen) (h7:s7.size≤1073741824) (hl:(aO l).length≤1073741824):
  Calls Tryz.prog 64 #[.agg #[.string s0,.string s1,.string s2,.string s3,.bool b4,.int .i64 z5,.bool b6,.string s7,.slice A n cap,.bool b9,.bool b10,.string s11,.string s12]] w fun e w'=>e=.returned (.string (strOf (pF b6 s7 l)))∧Below w.heap.size w w':=by
 have hn:l.length=n:=by rw[←hR.1,List.length_map]
 have hpl:=fM l
 unfold maxLen at hcm
 cases b6 with
 |true=>
  clear hn hpl
  have HR:=hid hR
  clear hR
  go_enter Tryz.func64,Tryz.ntmps64
  go_wp2
  go_ret
  exact⟨rfl,(Below.refl _ _).alloc (Nat.le_refl _) _⟩
 | false=>
  have HR:=hid hR
  have HN:=hid hn
  have vW:=hid hpl
  have Ci:=hid hl
  clear hR hn hpl hl
  go_enter Tryz.func64,Tryz.ntmps64
  go_wp2
  generalize hw1:w.alloc _=w1
  have hb1:Below w.heap.size w w1:=by rw[←hw1];exact(Below.refl _ _).alloc (Nat.le_refl _) _
  have hs1:w1.heap.size=w.heap.size+1:=by rw[←hw1];simp
  clear hw1
  have HB0:Hid (lq (w.heap.size+1) (w.heap.size+1) [] (w1.alloc (.cells #[.pointer none,.slice none 0 0] 147))):=by
   have h:=Lib.fresh_isBuilder 147 5 w1
   rw[hs1]at h
   exact h
  go_loopw [5,13] (fun _ vk wr=>∃k:Nat,k≤n∧vk=.int .i64 (k:Int)∧Hid (lq (w.heap.size+1) (w.heap.size+1) (aO (l.take k)) wr)∧Hid (Below (w.heap.size+1) w1 wr)) (fun _ vk _=>n - (intOf vk).toNat)
  case atStart=>exact⟨0,Nat.zero_le _,rfl,HB0.out,(Below.refl _ _).alloc (by rw[hs1];exact Nat.le_refl _) _⟩
  case round=>
   obtain⟨k,hk,rfl,HB,HBL⟩:=hrel
   have hsz:w.heap.size+1≤wr.heap.size:=by have:=HBL.out.size;rw[hs1]at this;exact this
   by_cases hlt:k<n
   ·have hkl:k<l.length:=by rw[HN.out];exact hlt
    have hRr:=HR.out.below (hb1.trans (HBL.out.mono (by omega)))
    obtain⟨g,off,rfl,hg,hcell⟩:=hRr.spot (by omega)
    have hc:=hcell k (by rw[List.length_map];exact hkl)
    rw[List.getElem_map]at hc
    obtain⟨s,hs⟩:∃s,s=l[k]:=⟨_,rfl⟩
    have HS:Hid (l.take (k+1)=l.take k++[s]):=by rw[hs];exact take_snoc l k hkl
    rw[←hs]at hc
    have hsum:=AV l k hkl
    have IY:=pK l (k+1)
    have hpk:=fM (l.take k)
    rw[List.length_take,Nat.min_eq_left (by omega)]at hpk
    have hpl:=vW.out
    have hll:=Ci.out
    rw[←hs]at hsum
    have hss:s.size≤1073741824:=by omega
    have a1:∀w:World,(Op.stringOp .add ⟨#[47]⟩ s).run Tryz.prog w=.ok (.string (strOf ([47]++s.data.toList))) w:=fun w=>dL ⟨#[47]⟩ s w (by show 1+s.size≤_;omega)
    have HLEN:Hid ((aO (l.take k)).length+(1+s.size)≤140737488355328):=by show _≤_;omega
    clear hs hsum IY hpk hpl hll hRr hcell hkl
    go_wp2_with (refine(write_any _ _ _ _ _ HB.out (by rw[size_strOf];have:=HLEN.out;simp at this⊢;omega) hsz).mono ?_;rintro e w3 ⟨rfl,HB3,hb3⟩)
    go_roundw
    case rel=>exact⟨k+1,by omega,by go_num,by
     rw[HS.out,abf]
     exact HB3,HBL.out.trans hb3⟩
    case measure=>simp[intOf];omega
   ·obtain rfl:k=n:=by omega
    have HT:Hid (l.take k=l):=List.take_of_length_le (by rw[HN.out];exact Nat.le_refl _)
    go_wp2_with (refine(qL _ _ _ _ HB.out hsz).mono ?_;rintro e w3 ⟨rfl,hb3⟩)
    go_ret
    exact⟨congrArg (fun X=>Ending.returned (.string (strOf (aO X)))) HT.out,hb1.trans ((HBL.out.trans hb3).mono (by omega))⟩
end Go.Proofs.YtmpeaoacaecgpaaGreatDoor.UrlB
namespace Go.Proofs.YtmpeaoacaecgpaaGreatDoor.Pg
open Go.RowKit Base Base2 aZ Wx UrlB Regs
def Box (w:World) (b:Nat) (c:Array Value):Prop:=w.heap[b]?=some (.cells c 25 (0,0))
theorem Box.cell {w:World} {b:Nat} {c:Array Value} (h:Box w b c) (i:Nat):w.cell? ⟨b,i,none⟩=c[i]?:=cell_of_row w b i _ _ _ h
theorem Box.below {w w':World} {B b:Nat} {c:Array Value} (h:Box w b c) (hb:Below B w w') (hB:b<B):Box w' b c:=(hb.block b hB).trans h
theorem kV {w:World} {b:Nat} {v0 v1 v2 v3 v4 v5 v6 v7 v8 v9 v10 v11 v12:Value} (h:Box w b #[v0,v1,v2,v3,v4,v5,v6,v7,v8,v9,v10,v11,v12]):
  w.cell? ⟨b,0,none⟩=some v0∧w.cell? ⟨b,1,none⟩=some v1∧w.cell? ⟨b,2,none⟩=some v2∧w.cell? ⟨b,3,none⟩=some v3∧w.cell? ⟨b,4,none⟩=some v4∧w.cell? ⟨b,5,none⟩=some v5∧w.cell? ⟨b,6,none⟩=some v6∧w.cell? ⟨b,7,none⟩=some v7∧w.cell? ⟨b,8,none⟩=some v8∧w.cell? ⟨b,9,none⟩=some v9∧w.cell? ⟨b,10,none⟩=some v10∧w.cell? ⟨b,11,none⟩=some v11∧w.cell? ⟨b,12,none⟩=some v12:=
 ⟨(h.cell 0).trans rfl,(h.cell 1).trans rfl,(h.cell 2).trans rfl,(h.cell 3).trans rfl,(h.cell 4).trans rfl,(h.cell 5).trans rfl,(h.cell 6).trans rfl,(h.cell 7).trans rfl,(h.cell 8).trans rfl,(h.cell 9).trans rfl,(h.cell 10).trans rfl,(h.cell 11).trans rfl,(h.cell 12).trans rfl⟩
theorem amh (z:Int) (h0: -9223372036854775808≤z) (h1:z≤9223372036854775807) (w:World) (hT:Tab.Pow w):
  Calls Tryz.prog 159 #[.int .i64 z] w fun e w'=>e=.returned (.string (strOf (Lib.itoa z)))∧Below w.heap.size w w':=
 (Tryz.strconv_Itoa z h0 h1 w hT).mono fun e w' ⟨he,k,os,hw⟩=>⟨he,by rw[hw];exact Tab.below_grow w k os⟩
theorem uX (k:Nat):∀n,n<10^(k+1)→(Lib.decDigits n).length≤k+1:=by
 induction k with
 |zero=>intro n h;rw[Lib.decDigits,dif_pos (by omega)];simp
 |succ k ih=>
  intro n h
  rw[Lib.decDigits]
  split
  ·simp
  have:=ih (n / 10) (by rw[Nat.pow_succ]at h;omega)
  rw[List.length_append]
  simp
  omega
theorem aaI (z:Int) (h0: -9223372036854775808≤z) (h1:z≤9223372036854775807):(Lib.itoa z).length≤20:=by
 unfold Lib.itoa
 split
 ·have:=uX 18 z.natAbs (by omega)
  simp
  omega
 have:=uX 18 z.toNat (by omega)
 omega
theorem ZV (s1 s2:ByteArray) (h1:s1.size≤1073741824) (h2:s2.size≤1073741824):(lD s1 s2).length≤2147483650:=by
 have hl1:s1.data.toList.length=s1.size:=Array.length_toList
 have hl2:s2.data.toList.length=s2.size:=Array.length_toList
 unfold lD
 split
 ·split
  ·simp
  rw[List.length_append];simp;omega
 rw[List.length_append,List.length_append,List.length_append];simp;omega
theorem Rf (z5:Int) (h0: -9223372036854775808≤z5) (h1:z5≤9223372036854775807):(kK z5).length≤21:=by
 have:=aaI z5 h0 h1
 unfold kK
 split<;>simp<;>omega
theorem afR (s1 s2 s3:ByteArray) (b4:Bool) (z5:Int) (b6:Bool) (l:List ByteArray) (h1:s1.size≤1073741824) (h2:s2.size≤1073741824) (h3:s3.size≤1073741824) (h0: -9223372036854775808≤z5) (h5:z5≤9223372036854775807):(ug s1 s2 s3 b4 z5 b6 l).length≤4294967296:=by
 have:=ZV s1 s2 h1 h2
 have:=Rf z5 h0 h5
 have hl3:s3.data.toList.length=s3.size:=Array.length_toList
 unfold ug
 split
 ·rw[List.length_append,List.length_append,List.length_append];simp;omega
 split<;>simp
theorem gZ {B b:Nat} {l:List UInt8} {w w':World} (h:lq B b l w) (hb:Below w.heap.size w w'):lq B b l w':=by
 rcases h with⟨h1,v,h2,h3,h4⟩|⟨h1,v,h2,h3,h4⟩
 ·exact Or.inl ⟨h1,v,(hb.block _ (Array.getElem?_eq_some_iff.1 h2).1).trans h2,aP h3 hb,h4⟩
 exact Or.inr ⟨h1,v,(hb.block _ (Array.getElem?_eq_some_iff.1 h2).1).trans h2,aP h3 hb,h4⟩
theorem ZQ (s0:ByteArray) (s1:ByteArray) (s2:ByteArray) (s3:ByteArray) (b4:Bool) (z5:Int) (b6:Bool) (s7:ByteArray) (A:Option Addr) (n cap:Nat) (l:List ByteArray) (b9:Bool) (b10:Bool) (s11:ByteArray) (s12:ByteArray) (w:World) (hR:aY w A n (l.map Value.string)) (hnc:n≤cap) (hcm:cap≤maxLen) (hs0:s0.size≤1073741824) (hs1:s1.size≤1073741824) (hs2:s2.size≤1073741824) (hs3:s3.size≤1073741824) (hs7:s7.size≤1073741824) (hs11:s11.size≤1073741824) (hz: -9223372036854775808≤z5) (hz':z5≤9223372036854775807) (hl:(aO l).length≤1073741824) (hT:Tab.Pow w):
  Calls Tryz.prog 70 #[.agg #[.string s0,.string s1,.string s2,.string s3,.bool b4,.int .i64 z5,.bool b6,.string s7,.slice A n cap,.bool b9,.bool b10,.string s11,.string s12]] w fun e w'=>e=.returned (.string (strOf (wH s0 s1 s2 s3 b4 z5 b6 s7 l b9 s11)))∧Below w.heap.size w w':=by
 have hl0:s0.data.toList.length=s0.size:=Array.length_toList
 have hl3:s3.data.toList.length=s3.size:=Array.length_toList
 have hl7:s7.data.toList.length=s7.size:=Array.length_toList
 have hl11:s11.data.toList.length=s11.size:=Array.length_toList
 have hn:l.length=n:=by rw[←hR.1,List.length_map]
 have HN:=hid hn
 have HCL:=hid (ZV s1 s2 hs1 hs2)
 have HIT:=hid (aaI z5 hz hz')
 have HML:=hid (afR s1 s2 s3 b4 z5 b6 l hs1 hs2 hs3 hz hz')
 have Uy:Hid ((s0.data.toList++[58]).length≤1073741825):=by show _≤_;rw[List.length_append];simp;omega
 obtain⟨CA,hCA⟩:∃X,X=[47,47]++lD s1 s2:=⟨_,rfl⟩
 obtain⟨CB,hCB⟩:∃X,X=CA++s3.data.toList:=⟨_,rfl⟩
 have hCAl:CA.length≤2147483652:=by rw[hCA,List.length_append];have:=HCL.out;simp;omega
 have WE:Hid (CB.length≤3221225476):=by show _≤_;rw[hCB,List.length_append];omega
 have a2:∀w:World,(Op.stringOp .add ⟨#[47,47]⟩ (strOf (lD s1 s2))).run Tryz.prog w=.ok (.string (strOf CA)) w:=fun w=>by rw[hCA];exact dL ⟨#[47,47]⟩ _ w (by rw[size_strOf];have:=HCL.out;show 2+_≤_;omega)
 have a3:∀w:World,(Op.stringOp .add (strOf CA) s3).run Tryz.prog w=.ok (.string (strOf CB)) w:=fun w=>by rw[hCB];exact dL _ s3 w (by rw[size_strOf];omega)
 have HCB:Hid (CB=[47,47]++lD s1 s2++s3.data.toList):=by show _=_;rw[hCB,hCA]
 clear hCA hCB hCAl
 have TB:Hid ((pF b6 s7 l).length≤1073741824):=by show _≤_;unfold pF;split<;>omega
 have a1:∀w:World,(Op.stringOp .add s0 ⟨#[58]⟩).run Tryz.prog w=.ok (.string (strOf (s0.data.toList++[58]))) w:=fun w=>dL s0 ⟨#[58]⟩ w (by show s0.size+1≤_;omega)
 obtain⟨QL,hQL⟩:∃X,X=[63]++s11.data.toList:=⟨_,rfl⟩
 have a5:∀w:World,(Op.stringOp .add ⟨#[63]⟩ s11).run Tryz.prog w=.ok (.string (strOf QL)) w:=fun w=>by rw[hQL];exact dL ⟨#[63]⟩ s11 w (by show 1+s11.size≤_;omega)
 have HQLL:Hid (QL.length≤1073741825):=by show _≤_;rw[hQL,List.length_append];simp;omega
 have HQL:=hid hQL
 clear hQL
 clear hl0 hl3 hl7 hl11 hn
 have HR:=hid hR
 have Ci:=hid hl
 have HT:=hid hT
 clear hR hl hT
 unfold maxLen at hcm
 go_enter Tryz.func70,Tryz.ntmps70
 go_upto_region 1 with(fail)
 generalize hw1:w.alloc _=w1
 have hb1:Below w.heap.size w w1:=by rw[←hw1];exact(Below.refl _ _).alloc (Nat.le_refl _) _
 have hs1':w1.heap.size=w.heap.size+1:=by rw[←hw1];simp
 have acy:Hid (Box w1 w.heap.size #[.string s0,.string s1,.string s2,.string s3,.bool b4,.int .i64 z5,.bool b6,.string s7,.slice A n cap,.bool b9,.bool b10,.string s11,.string s12]):=by
  show _=_
  rw[←hw1]
  exact heap_alloc_new w _
 clear hw1
 go_upto_region 2 with(fail)
 have HB2:Hid (lq (w.heap.size+1) (w.heap.size+1) [] (w1.alloc (.cells #[.pointer none,.slice none 0 0] 147))):=by
  have h:=Lib.fresh_isBuilder 147 5 w1
  rw[hs1']at h
  exact h
 have XO:Below (w.heap.size+1) w1 (w1.alloc (.cells #[.pointer none,.slice none 0 0] 147)):=(Below.refl _ _).alloc (by rw[hs1'];exact Nat.le_refl _) _
 have hs2':(w1.alloc (.cells #[.pointer none,.slice none 0 0] 147)).heap.size=w.heap.size+2:=by simp[hs1']
 generalize hw2:w1.alloc _=w2 at HB2 XO hs2'⊢
 clear hw2
 have alR:Below w.heap.size w w2:=hb1.trans (XO.mono (by omega))
 have hbx:=acy.out.below XO (by omega)
 have HBX2:=hid hbx
 obtain⟨c0,c1,c2,c3,c4,c5,c6,c7,c8,c9,c10,c11,c12⟩:=kV hbx
 clear hbx
 have hsz2:w.heap.size+1≤w2.heap.size:=by omega
 clear hs1' hs2'
 go_wp2_with fail
 refine(write_any _ _ _ _ _ HB2.out (by rw[size_strOf];have:=Uy.out;simp at this⊢;omega) hsz2).mono ?_
 rintro e w3 ⟨rfl,HB3',aau⟩
 have HB3:Hid (lq (w.heap.size+1) (w.heap.size+1) (s0.data.toList++[58]) w3):=HB3'
 have hsz3:w.heap.size+1≤w3.heap.size:=by have:=aau.size;omega
 have hbx:=HBX2.out.below aau (by omega:w.heap.size<w.heap.size+1)
 have HBX3:=hid hbx
 clear HB3' c0 c1 c2 c3 c4 c5 c6 c7 c8 c9 c10 c11 c12
 obtain⟨c0,c1,c2,c3,c4,c5,c6,c7,c8,c9,c10,c11,c12⟩:=kV hbx
 clear hbx
 go_upto_if 9 with(fail)
 go_cut [] (fun wx=>Hid (lq (w.heap.size+1) (w.heap.size+1) (s0.data.toList++[58]++ug s1 s2 s3 b4 z5 b6 l) wx)∧Hid (Below (w.heap.size+1) w2 wx))
 case first=>
  cases b4 with
  | true=>
   go_wp2_with fail
   clear c0 c1 c2 c3 c4 c5 c6 c7 c8 c9 c10 c11 c12
   refine bC (by kernel_rfl) 6 [is (.agg #[.string s0,.string s1,.string s2,.string s3,.bool true,.int .i64 z5,.bool b6,.string s7,.slice A n cap,.bool b9,.bool b10,.string s11,.string s12]),is (.string (strOf (lD s1 s2))),is (.string (strOf CA)),is (.pointer (some ⟨w.heap.size,3,none⟩)),is (.string s3),is (.string (strOf CB))] [[],[0],[0,1],[],[3],[0,1,2,3,4],[0,1,2,3,4,5]] (by kernel_rfl) ?_ ?_
   ·refine⟨?_,?_,?_,?_,?_,?_,trivial⟩
    all_goals(intro t wq hbq hh K hK;simp only[filled,aj,upd,Have,is,any,row,pick,Act.put,List.setIfInBounds_toArray,List.set_cons_zero,List.set_cons_succ,Nat.reduceAdd,Nat.reduceEqDiff,reduceIte,List.tail_cons,List.headD_cons]at hh hK⊢;(try simp only[hh]at hK⊢);try clear hh)
    ·have hbx:=HBX3.out.below hbq (by omega);obtain⟨c0,c1,c2,c3,c4,c5,c6,c7,c8,c9,c10,c11,c12⟩:=kV hbx;clear hbx;go_simp;exact hK _ _ (Below.refl _ _) rfl
    ·go_simp;refine(ak0 s0 s1 s2 s3 true z5 b6 s7 A n cap l b9 b10 s11 s12 _ hs1 hs2).mono ?_;rintro e w5 ⟨rfl,hb5⟩;exact hK _ _ hb5 rfl
    ·have hadd:=a2 wq;go_simp;exact hK _ _ (Below.refl _ _) rfl
    ·go_simp;exact hK _ _ (Below.refl _ _) rfl
    ·have hbx:=HBX3.out.below hbq (by omega);obtain⟨c0,c1,c2,c3,c4,c5,c6,c7,c8,c9,c10,c11,c12⟩:=kV hbx;clear hbx;go_simp;exact hK _ _ (Below.refl _ _) rfl
    ·have hadd:=a3 wq;go_simp;exact hK _ _ (Below.refl _ _) rfl
   ·intro t wq hbq hh
    have f5:=aB hh 5 (by decide)
    simp only[pick]at f5
    replace f5:t 5=(.string (strOf CB)):=f5
    clear hh
    simp only[filled,aj,upd,Have,is,any,row,pick,Act.put,List.setIfInBounds_toArray,List.set_cons_zero,List.set_cons_succ,Nat.reduceAdd,Nat.reduceEqDiff,reduceIte]
    simp only[f5]
    have HB4:=HB3.out
    go_wp2_with fail
    refine(write_any _ _ _ _ _ (gZ HB3.out hbq) (by rw[size_strOf];have:=Uy.out;have:=WE.out;omega) (by have:=hbq.size;omega)).mono ?_
    rintro e w5 ⟨rfl,iG,hb5⟩
    rw[kX]at iG
    have hb35:=aau.trans ((hbq.mono (by omega)).trans hb5)
    have hbx:=HBX3.out.below ((hbq.mono (by omega)).trans hb5) (by omega:w.heap.size<w.heap.size+1)
    have HBX5:=hid hbx
    obtain⟨c0,c1,c2,c3,c4,c5,c6,c7,c8,c9,c10,c11,c12⟩:=kV hbx
    clear hbx HB4
    have hsz5:w.heap.size+1≤w5.heap.size:=by have:=hb35.size;omega
    by_cases hp:z5= -1
    ·have q1:(z5== -1)=true:=by simpa using hp
     have q2:(z5 != -1)=false:=by simpa using hp
     have HP:Hid (kK z5=[]):=if_pos hp
     clear hp
     go_wp2
     go_meet
     refine⟨?_,hb35⟩
     have e:s0.data.toList++[58]++ug s1 s2 s3 true z5 b6 l=s0.data.toList++[58]++CB:=by unfold ug;rw[if_pos rfl,HP.out,List.append_nil,HCB.out]
     show lq _ _ _ _
     rw[e]
     exact iG
    ·have q1:(z5== -1)=false:=by simpa using hp
     have q2:(z5 != -1)=true:=by simpa using hp
     have HP:Hid (kK z5=58::Lib.itoa z5):=if_neg hp
     clear hp
     obtain⟨IT,hIT⟩:∃X,X=[58]++Lib.itoa z5:=⟨_,rfl⟩
     have a4:∀w:World,(Op.stringOp .add ⟨#[58]⟩ (strOf (Lib.itoa z5))).run Tryz.prog w=.ok (.string (strOf IT)) w:=fun w=>by rw[hIT];exact dL ⟨#[58]⟩ _ w (by rw[size_strOf];have:=HIT.out;show 1+_≤_;omega)
     have HITL:Hid (IT.length≤21):=by show _≤_;rw[hIT,List.length_append];have:=HIT.out;simp;omega
     have HITE:=hid hIT
     clear hIT
     go_wp2_with fail
     refine(amh z5 hz hz' _ (HT.out.below (alR.trans (hb35.mono (by omega))))).mono ?_
     rintro e w6 ⟨rfl,hb6⟩
     go_wp2_with fail
     refine(write_any _ _ _ _ _ (gZ iG hb6) (by rw[size_strOf,List.length_append];have:=HITL.out;have:=Uy.out;have:=WE.out;omega) (by have:=hb6.size;omega)).mono ?_
     rintro e w7 ⟨rfl,kZ,hb7⟩
     rw[kX]at kZ
     go_wp2
     go_meet
     refine⟨?_,hb35.trans ((hb6.mono hsz5).trans hb7)⟩
     have e:s0.data.toList++[58]++ug s1 s2 s3 true z5 b6 l=s0.data.toList++[58]++CB++IT:=by unfold ug;rw[if_pos rfl,HP.out,HCB.out,HITE.out];simp
     show lq _ _ _ _
     rw[e]
     exact kZ
  | false=>
   cases b6 with
   |true=>
    go_wp2
    go_meet
    refine⟨?_,aau⟩
    show lq _ _ (_++[]) _
    rw[List.append_nil]
    exact HB3.out
   | false=>
    by_cases h1n:1<n
    ·obtain⟨x,y,r,hlx⟩:∃x y r,l=x::y::r:=by
      have:=HN.out
      match l,this with
      |x::y::r,_=>exact⟨x,y,r,rfl⟩
      |[_],h=>simp at h;omega
      |[],h=>simp at h;omega
     have hRr:=HR.out.below (alR.trans (aau.mono (by omega)))
     obtain⟨g,off,rfl,hg,hcell⟩:=hRr.spot (by omega)
     have hc:=hcell 0 (by rw[List.length_map,HN.out];omega)
     have e0:(l.map Value.string)[0]'(by rw[List.length_map,HN.out];omega)=.string x:=by simp[hlx]
     rw[e0,Nat.add_zero]at hc
     have HD:Hid (dotted false l=decide (x.data.toList=[])):=by show _=_;rw[hlx];rfl
     clear hRr hcell e0 hlx
     by_cases hx:x.data.toList=[]
     ·have q1:x.toList=[]:=by rw[tl];exact hx
      have Td:Hid (dotted false l=true):=HD.out.trans (decide_eq_true hx)
      clear hx
      go_wp2_with fail
      refine(write_any _ _ _ _ _ HB3.out (by have:=Uy.out;show _+2≤_;omega) hsz3).mono ?_
      rintro e w5 ⟨rfl,iG,hb5⟩
      go_wp2
      go_meet
      refine⟨?_,aau.trans hb5⟩
      have e:s0.data.toList++[58]++ug s1 s2 s3 false z5 false l=s0.data.toList++[58]++[47,46]:=by unfold ug;rw[if_neg (by decide),if_pos Td.out]
      show lq _ _ _ _
      rw[e]
      exact iG
     ·have q1:(x.toList==[])=false:=by rw[tl];simpa using hx
      have q1':x.toList.isEmpty=false:=by rw[tl];simpa using hx
      have Td:Hid (¬dotted false l=true):=by show ¬_;rw[HD.out];simpa using hx
      clear hx
      go_wp2
      go_meet
      refine⟨?_,aau⟩
      have e:s0.data.toList++[58]++ug s1 s2 s3 false z5 false l=s0.data.toList++[58]:=by unfold ug;rw[if_neg (by decide),if_neg Td.out,List.append_nil]
      show lq _ _ _ _
      rw[e]
      exact HB3.out
    ·have Td:Hid (¬dotted false l=true):=by
      have:=HN.out
      match l,this with
      |x::y::r,h=>simp at h;omega
      |[_],h=>simp[dotted,Hid]
      |[],h=>simp[dotted,Hid]
     go_wp2
     go_meet
     refine⟨?_,aau⟩
     have e:s0.data.toList++[58]++ug s1 s2 s3 false z5 false l=s0.data.toList++[58]:=by unfold ug;rw[if_neg (by decide),if_neg Td.out,List.append_nil]
     show lq _ _ _ _
     rw[e]
     exact HB3.out
 case rest=>
 obtain⟨HB4,HB24⟩:=hcut
 clear c0 c1 c2 c3 c4 c5 c6 c7 c8 c9 c10 c11 c12
 have hbx:=HBX2.out.below HB24.out (by omega:w.heap.size<w.heap.size+1)
 have HBX4:=hid hbx
 obtain⟨c0,c1,c2,c3,c4,c5,c6,c7,c8,c9,c10,c11,c12⟩:=kV hbx
 clear hbx
 have Ae:w.heap.size+1≤wc.heap.size:=by have:=HB24.out.size;omega
 go_wp2_with fail
 refine(DU s0 s1 s2 s3 b4 z5 b6 s7 A n cap l b9 b10 s11 s12 _ (HR.out.below (alR.trans (HB24.out.mono (by omega)))) hnc (by unfold maxLen;omega) hs7 Ci.out).mono ?_
 rintro e w5 ⟨rfl,hb5⟩
 go_wp2_with fail
 have hml:=HML.out
 have hla:=Uy.out
 have hpa:=TB.out
 have HLC:Hid ((s0.data.toList++[58]++ug s1 s2 s3 b4 z5 b6 l).length≤5368709121):=by show _≤_;rw[List.length_append];omega
 have Fg:Hid ((s0.data.toList++[58]++ug s1 s2 s3 b4 z5 b6 l++pF b6 s7 l).length≤6442450945):=by show _≤_;rw[List.length_append];have:=HLC.out;omega
 clear hml hla hpa
 refine(write_any _ _ _ _ _ (gZ HB4.out hb5) (by rw[size_strOf];have:=HLC.out;have:=TB.out;omega) (by have:=hb5.size;omega)).mono ?_
 rintro e w6 ⟨rfl,nN,hb6⟩
 rw[kX]at nN
 have hb26:=HB24.out.trans ((hb5.mono Ae).trans hb6)
 have hsz6:w.heap.size+1≤w6.heap.size:=by have:=hb26.size;omega
 clear c0 c1 c2 c3 c4 c5 c6 c7 c8 c9 c10 c11 c12
 have hbx:=HBX2.out.below hb26 (by omega:w.heap.size<w.heap.size+1)
 obtain⟨c0,c1,c2,c3,c4,c5,c6,c7,c8,c9,c10,c11,c12⟩:=kV hbx
 clear hbx
 have HB6':=hid nN
 clear nN
 cases b9 with
 |false=>
  go_wp2_with fail
  refine(qL _ _ _ _ HB6'.out hsz6).mono ?_
  rintro e w7 ⟨rfl,hb7⟩
  go_wp2
  go_ret
  refine⟨?_,alR.trans ((hb26.trans hb7).mono (by omega))⟩
  have e:wH s0 s1 s2 s3 b4 z5 b6 s7 l false s11=s0.data.toList++[58]++ug s1 s2 s3 b4 z5 b6 l++pF b6 s7 l:=by unfold wH;rw[if_neg (by decide),List.append_nil]
  refine congrArg (fun X=>Ending.returned (.string (strOf X))) ?_
  rw[e]
  simp
 |true=>
  go_wp2_with fail
  refine(write_any _ _ _ _ _ HB6'.out (by rw[size_strOf];have:=Fg.out;have:=HQLL.out;omega) hsz6).mono ?_
  rintro e w7 ⟨rfl,kZ,hb7⟩
  rw[kX]at kZ
  go_wp2_with fail
  refine(qL _ _ _ _ kZ (by have:=hb7.size;omega)).mono ?_
  rintro e w8 ⟨rfl,hb8⟩
  go_wp2
  go_ret
  refine⟨?_,alR.trans (((hb26.trans hb7).trans hb8).mono (by omega))⟩
  have e:wH s0 s1 s2 s3 b4 z5 b6 s7 l true s11=s0.data.toList++[58]++ug s1 s2 s3 b4 z5 b6 l++pF b6 s7 l++QL:=by unfold wH;rw[if_pos rfl,HQL.out];rfl
  refine congrArg (fun X=>Ending.returned (.string (strOf X))) ?_
  rw[e]
  simp
theorem Ii (s0:ByteArray) (s1:ByteArray) (s2:ByteArray) (s3:ByteArray) (b4:Bool) (z5:Int) (b6:Bool) (s7:ByteArray) (A:Option Addr) (n cap:Nat) (l:List ByteArray) (b9:Bool) (b10:Bool) (s11:ByteArray) (s12:ByteArray) (w:World) (hR:aY w A n (l.map Value.string)) (hnc:n≤cap) (hcm:cap≤maxLen) (hs0:s0.size≤1073741824) (hs1:s1.size≤1073741824) (hs2:s2.size≤1073741824) (hs3:s3.size≤1073741824) (hs7:s7.size≤1073741824) (hs11:s11.size≤1073741824) (al2:s12.size≤1073741824) (hz: -9223372036854775808≤z5) (hz':z5≤9223372036854775807) (hl:(aO l).length≤1073741824) (hT:Tab.Pow w):
  Calls Tryz.prog 70 #[.agg #[.string s0,.string s1,.string s2,.string s3,.bool b4,.int .i64 z5,.bool b6,.string s7,.slice A n cap,.bool b9,.bool b10,.string s11,.string s12]] w fun e w'=>e=.returned (.string (strOf (wH s0 s1 s2 s3 b4 z5 b6 s7 l b9 s11)))∧Below w.heap.size w w':=
 ZQ s0 s1 s2 s3 b4 z5 b6 s7 A n cap l b9 b10 s11 s12 w hR hnc hcm hs0 hs1 hs2 hs3 hs7 hs11 hz hz' hl hT
theorem PI (s0:ByteArray) (s1:ByteArray) (s2:ByteArray) (s3:ByteArray) (b4:Bool) (z5:Int) (b6:Bool) (s7:ByteArray) (A:Option Addr) (n cap:Nat) (l:List ByteArray) (b9:Bool) (b10:Bool) (s11:ByteArray) (s12:ByteArray) (hs0:s0.size≤1073741824) (hs1:s1.size≤1073741824) (hs2:s2.size≤1073741824) (hs3:s3.size≤1073741824) (hs7:s7.size≤1073741824) (hs11:s11.size≤1073741824) (al2:s12.size≤1073741824) (hz: -9223372036854775808≤z5) (hz':z5≤9223372036854775807) (hl:(aO l).length≤1073741824):(wH s0 s1 s2 s3 b4 z5 b6 s7 l b9 s11).length≤8589934592:=by
 have hl0:s0.data.toList.length=s0.size:=Array.length_toList
 have hl7:s7.data.toList.length=s7.size:=Array.length_toList
 have hl11:s11.data.toList.length=s11.size:=Array.length_toList
 have:=afR s1 s2 s3 b4 z5 b6 l hs1 hs2 hs3 hz hz'
 unfold wH pF
 rw[List.length_append,List.length_append,List.length_append,List.length_append]
 split<;>split<;>simp<;>omega
theorem print_any (s0:ByteArray) (s1:ByteArray) (s2:ByteArray) (s3:ByteArray) (b4:Bool) (z5:Int) (b6:Bool) (s7:ByteArray) (A:Option Addr) (n cap:Nat) (l:List ByteArray) (b9:Bool) (b10:Bool) (s11:ByteArray) (s12:ByteArray) (w:World) (hR:aY w A n (l.map Value.string)) (hnc:n≤cap) (hcm:cap≤maxLen) (hs0:s0.size≤1073741824) (hs1:s1.size≤1073741824) (hs2:s2.size≤1073741824) (hs3:s3.size≤1073741824) (hs7:s7.size≤1073741824) (hs11:s11.size≤1073741824) (al2:s12.size≤1073741824) (hz: -9223372036854775808≤z5) (hz':z5≤9223372036854775807) (hl:(aO l).length≤1073741824) (hT:Tab.Pow w):
  Calls Tryz.prog 46 #[.agg #[.string s0,.string s1,.string s2,.string s3,.bool b4,.int .i64 z5,.bool b6,.string s7,.slice A n cap,.bool b9,.bool b10,.string s11,.string s12]] w fun e w'=>e=.returned (.string (strOf (Ar s0 s1 s2 s3 b4 z5 b6 s7 l b9 b10 s11 s12)))∧Below w.heap.size w w':=by
 have hcm':=hcm
 unfold maxLen at hcm
 have hl12:s12.data.toList.length=s12.size:=Array.length_toList
 obtain⟨BL,hBL⟩:∃X,X=wH s0 s1 s2 s3 b4 z5 b6 s7 l b9 s11:=⟨_,rfl⟩
 have hbl:BL.length≤8589934592:=by rw[hBL];exact PI s0 s1 s2 s3 b4 z5 b6 s7 A n cap l b9 b10 s11 s12 hs0 hs1 hs2 hs3 hs7 hs11 al2 hz hz' hl
 have HBL:=hid hBL
 obtain⟨BM,hBM⟩:∃X,X=BL++[35]:=⟨_,rfl⟩
 obtain⟨BN,hBN⟩:∃X,X=BM++s12.data.toList:=⟨_,rfl⟩
 have a1:∀w:World,(Op.stringOp .add (strOf BL) ⟨#[35]⟩).run Tryz.prog w=.ok (.string (strOf BM)) w:=fun w=>by rw[hBM];exact dL _ ⟨#[35]⟩ w (by rw[size_strOf];show _+1≤_;omega)
 have a2:∀w:World,(Op.stringOp .add (strOf BM) s12).run Tryz.prog w=.ok (.string (strOf BN)) w:=fun w=>by rw[hBN];exact dL _ s12 w (by rw[size_strOf,hBM,List.length_append];simp;omega)
 have HBN:Hid (BN=BL++[35]++s12.data.toList):=by show _=_;rw[hBN,hBM]
 clear hBL hBM hBN hl12 hbl
 have HR:=hid hR
 have Ci:=hid hl
 have HT:=hid hT
 clear hR hl hT
 cases b10 with
 |true=>
  go_enter Tryz.func46,Tryz.ntmps46
  go_upto_region 1 with(fail)
  generalize hw1:w.alloc _=w1
  have hb1:Below w.heap.size w w1:=by rw[←hw1];exact(Below.refl _ _).alloc (Nat.le_refl _) _
  have hlt1:w.heap.size<w1.heap.size:=by rw[←hw1];simp
  have acy:Hid (Box w1 w.heap.size #[.string s0,.string s1,.string s2,.string s3,.bool b4,.int .i64 z5,.bool b6,.string s7,.slice A n cap,.bool b9,.bool true,.string s11,.string s12]):=by
   show _=_
   rw[←hw1]
   exact heap_alloc_new w _
  clear hw1
  obtain⟨c0,c1,c2,c3,c4,c5,c6,c7,c8,c9,c10,c11,c12⟩:=kV acy.out
  go_wp2_with fail
  clear c0 c1 c2 c3 c4 c5 c6 c7 c8 c9 c10 c11 c12
  refine aV (by kernel_rfl) [is (.agg #[.string s0,.string s1,.string s2,.string s3,.bool b4,.int .i64 z5,.bool b6,.string s7,.slice A n cap,.bool b9,.bool true,.string s11,.string s12]),is (.string (strOf BL)),is (.string (strOf BM)),is (.pointer (some ⟨w.heap.size,12,none⟩)),is (.string s12),is (.string (strOf BN)),is (.string (strOf BN))] [[],[0],[1],[],[3],[2,4],[5]] (by kernel_rfl) ?_ ?_
  ·refine⟨?_,?_,?_,?_,?_,?_,?_,trivial⟩
   all_goals(intro t wq hbq hh K hK;simp only[filled,upd,Have,is,any,row,pick,Act.put,List.setIfInBounds_toArray,List.set_cons_zero,List.set_cons_succ,Nat.reduceAdd,Nat.reduceEqDiff,reduceIte,List.tail_cons,List.headD_cons]at hh hK⊢;(try simp only[hh]at hK⊢);try clear hh)
   ·have hbx:=acy.out.below hbq hlt1;obtain⟨c0,c1,c2,c3,c4,c5,c6,c7,c8,c9,c10,c11,c12⟩:=kV hbx;clear hbx;go_simp;exact hK _ _ (Below.refl _ _) rfl
   ·go_simp;refine(Ii s0 s1 s2 s3 b4 z5 b6 s7 A n cap l b9 true s11 s12 _ (HR.out.below (hb1.trans (hbq.mono (by omega)))) hnc hcm' hs0 hs1 hs2 hs3 hs7 hs11 al2 hz hz' Ci.out ((HT.out.below (hb1.trans (hbq.mono (by omega)))))).mono ?_;rintro e w5 ⟨rfl,hb5⟩;rw[←HBL.out];exact hK _ _ hb5 rfl
   ·have hadd:=a1 wq;go_simp;exact hK _ _ (Below.refl _ _) rfl
   ·go_simp;exact hK _ _ (Below.refl _ _) rfl
   ·have hbx:=acy.out.below hbq hlt1;obtain⟨c0,c1,c2,c3,c4,c5,c6,c7,c8,c9,c10,c11,c12⟩:=kV hbx;clear hbx;go_simp;exact hK _ _ (Below.refl _ _) rfl
   ·have hadd:=a2 wq;go_simp;exact hK _ _ (Below.refl _ _) rfl
   ·go_simp;exact hK _ _ (Below.refl _ _) rfl
  ·intro t wq hbq hh
   have f6:=aB hh 6 (by decide)
   simp only[pick]at f6
   replace f6:t 6=(.string (strOf BN)):=f6
   clear hh
   simp only[filled,upd,Have,is,any,row,pick,Act.put,List.setIfInBounds_toArray,List.set_cons_zero,List.set_cons_succ,Nat.reduceAdd,Nat.reduceEqDiff,reduceIte]
   simp only[f6]
   go_wp2
   go_ret
   refine⟨?_,hb1.trans (hbq.mono (by omega))⟩
   have e:Ar s0 s1 s2 s3 b4 z5 b6 s7 l b9 true s11 s12=BN:=by unfold Ar;rw[if_pos rfl,HBN.out,←HBL.out];simp
   exact congrArg (fun X=>Ending.returned (.string (strOf X))) e.symm
 |false=>
  clear a1 a2
  go_enter Tryz.func46,Tryz.ntmps46
  go_upto_region 1 with(fail)
  generalize hw1:w.alloc _=w1
  have hb1:Below w.heap.size w w1:=by rw[←hw1];exact(Below.refl _ _).alloc (Nat.le_refl _) _
  have acy:Hid (Box w1 w.heap.size #[.string s0,.string s1,.string s2,.string s3,.bool b4,.int .i64 z5,.bool b6,.string s7,.slice A n cap,.bool b9,.bool false,.string s11,.string s12]):=by
   show _=_
   rw[←hw1]
   exact heap_alloc_new w _
  clear hw1
  obtain⟨c0,c1,c2,c3,c4,c5,c6,c7,c8,c9,c10,c11,c12⟩:=kV acy.out
  go_wp2_with fail
  refine(Ii s0 s1 s2 s3 b4 z5 b6 s7 A n cap l b9 false s11 s12 _ (HR.out.below hb1) hnc hcm' hs0 hs1 hs2 hs3 hs7 hs11 al2 hz hz' Ci.out (HT.out.below hb1)).mono ?_
  rintro e w5 ⟨rfl,hb5⟩
  go_wp2
  go_ret
  refine⟨?_,bel hb1 hb5⟩
  have e:Ar s0 s1 s2 s3 b4 z5 b6 s7 l b9 false s11 s12=wH s0 s1 s2 s3 b4 z5 b6 s7 l b9 s11:=by unfold Ar;rw[if_neg (by decide),List.append_nil]
  exact congrArg (fun X=>Ending.returned (.string (strOf X))) e.symm
end Go.Proofs.YtmpeaoacaecgpaaGreatDoor.Pg
namespace Go.Proofs.YtmpeaoacaecgpaaGreatDoor.aj3
open Go.RowKit Base Base2 dI cO UrlA PrsP mW Pbx tK yx sU pO vZ WQ acK NJ wo aj6 OpqC
def uZ (c:UInt8):Bool:=decide (c≠63)&&(decide (c≠35)&&(decide (33≤c.toNat)&&decide (c.toNat≤126)))
theorem nC {c:UInt8} (h:uZ c=true):c≠63∧c≠35∧33≤c.toNat∧c.toNat≤126:=by simpa[uZ]using h
structure Fine (S R:List UInt8):Prop where
 au:S.all NT=true
 let0:lI S=true
 low:cO.lower S=S
 fs:S.all uZ=true
 amA:∀c ∈ S,c≠58
 file:S≠FILE
 spc:special S=false
 r:R.all uZ=true
 r0:R≠[]
 r47:Lib.hasPrefix R [47]=false
theorem Ns {R:List UInt8} (h:R.all uZ=true):Lib.hasSuffix R [32]=false:=by
 rcases jC R with e|⟨M,d,e⟩
 ·rw[e];rfl
 rw[e,eP]
 rw[e,List.all_append,Bool.and_eq_true]at h
 have:=nC (by simpa using h.2:uZ d=true)
 rw[decide_eq_false_iff_not]
 rintro rfl
 exact absurd this.2.2.1 (by decide)
theorem ZK {S R F:List UInt8} (h:Fine S R) (hf:F.all uZ=true):(∀c ∈ S++58::R++F,33≤c.toNat∧c.toNat≤126):=by
 intro c hc
 simp only[List.mem_append,List.mem_cons]at hc
 rcases hc with(hc|rfl|hc)|hc
 ·have:=nC (List.all_eq_true.1 h.fs c hc);exact this.2.2
 ·decide
 ·have:=nC (List.all_eq_true.1 h.r c hc);exact this.2.2
 have:=nC (List.all_eq_true.1 hf c hc);exact this.2.2
theorem PZ {T:List UInt8} (h0:T≠[]) (h:∀c ∈ T,33≤c.toNat∧c.toNat≤126):clean T=T:=by
 refine Dc (fun c hc=>⟨by have:=h c hc;omega,(h c hc).2⟩) ?_ ?_
 ·match T,h0,h with
  |c::t,_,h=>
   refine⟨c,t,rfl,?_⟩
   have:=h c (List.mem_cons_self ..)
   simp only[fO,decide_eq_false_iff_not];omega
 rcases jC T with e|⟨M,d,e⟩
 ·rw[e];rfl
 rw[e,eP,decide_eq_false_iff_not]
 rintro rfl
 have:=h 32 (by rw[e];simp)
 exact absurd this.1 (by decide)
theorem ZO {S R:List UInt8} (h:Fine S R):PrsP.apart (S++58::R)=⟨S,R,[],[],false,false⟩:=by
 have hall:∀d ∈ S++58::R,d≠63∧d≠35:=by
  intro d hd
  simp only[List.mem_append,List.mem_cons]at hd
  rcases hd with hd|rfl|hd
  ·have:=nC (List.all_eq_true.1 h.fs d hd);exact⟨this.1,this.2.1⟩
  ·decide
  have:=nC (List.all_eq_true.1 h.r d hd);exact⟨this.1,this.2.1⟩
 unfold PrsP.apart
 simp only
 rw[iP 35 _ fun d hd=>(hall d hd).2]
 simp only
 rw[iP 63 _ fun d hd=>(hall d hd).1]
 simp only
 rw[kW 58 S R h.amA]
 simp only
 rw[if_pos (by rw[h.let0];rfl),h.low]
theorem EC {R:List UInt8} (h:R.all uZ=true):EscE.enc 0 R=R:=Hz.lV 0 _ fun d hd=>by
 have:=nC (List.all_eq_true.1 h d hd)
 exact in0 d (by omega) this.2.2.2
def opU (S R:List UInt8):U:={U0 with au:=S,port:= -1,opq:=true,txt:=R}
structure Hy (w:World):Prop where
 pow:Tab.Pow w
 max:Max w
 Hq:rD w
theorem Hy.below {w w':World} (h:Hy w) (hb:Below w.heap.size w w'):Hy w':=⟨bY h.pow hb,h.max.below hb,h.Hq.below hb⟩
theorem X8 {S R:List UInt8} (h:Fine S R) (hl:(S++58::R).length≤65536) (w:World) (E:Hy w):Calls Tryz.prog 16 #[.string (strOf (S++58::R)),.pointer none] w (xC w (some (opU S R))):=by
 have hp:PrsP.apart (clean (S++58::R))=⟨S,R,[],[],false,false⟩:=by
  rw[PZ (by simp) fun c hc=>ZK (F:=[]) h rfl c (by simpa using hc),ZO h]
 have hS:S≠[]:=by rintro rfl;exact absurd h.let0 (by decide)
 have:=VJ (S++58::R) ⟨S,R,[],[],false,false⟩ w hp.symm hl h.file h.spc hS h.r47 (by show Lib.hasSuffix (EscE.enc 0 R) [32]=false;rw[EC h.r];exact Ns h.r) E.max E.Hq
 have e:PrsP.finish {U0 with au:=S,port:= -1,opq:=true,txt:=EscE.enc 0 R} ⟨S,R,[],[],false,false⟩=opU S R:=by unfold PrsP.finish opU;simp[EC h.r]
 simp only at this
 rw[e]at this
 exact this
theorem Om {T:List UInt8} {u:U} {w:World} (h:Calls Tryz.prog 16 #[.string (strOf T),.pointer none] w (xC w (some u))):Calls Tryz.prog 16 #[.string (strOf T),.pointer none] w fun e w'=>∃A n c,e=.returned (.tuple #[.agg (cells u (.slice A n c)),.int .i64 0])∧dR w' u A n c∧Below w.heap.size w w':=
 h.mono fun e w' ⟨h1,A,n,c,h2,h3⟩=>⟨A,n,c,h2,h3.aO,h1⟩
end Go.Proofs.YtmpeaoacaecgpaaGreatDoor.aj3
namespace Go.Proofs.YtmpeaoacaecgpaaGreatDoor.StoI
open Go.RowKit Base Base2 Base3 Regs uw xH Kq mW ES
theorem nI {w:World} {g:Nat} {s h:ByteArray} {p n:Int} (x:OB w g s h p n):(loadVar 38 ⟨g,0,none⟩).run Tryz.prog w=.ok (.agg #[.string s,.string h,.int .i64 p,.int .i64 n]) w:=
 run_loadVar_row w g _ _ #[.string s,.string h,.int .i64 p,.int .i64 n] (0,0) _ x Tryz.underlying38 rfl (by kernel_rfl)
end Go.Proofs.YtmpeaoacaecgpaaGreatDoor.StoI
namespace Go.Proofs.YtmpeaoacaecgpaaGreatDoor.ajr
open Go.RowKit Base Base2 Regs Cb Ut iH mW ES
def AB (w:World) (g:Nat) (cs:Array Value):Prop:=w.heap[g]?=some (.cells cs 118 (0,0))
section
variable {w w':World} {g:Nat} {cs:Array Value}
theorem AB.lt (h:AB w g cs):g<w.heap.size:=(Array.getElem?_eq_some_iff.1 h).1
theorem AB.below (h:AB w g cs) (hb:Below w.heap.size w w'):AB w' g cs:=(hb.block g h.lt).trans h
theorem AB.load (h:AB w g cs) (hs:cs.size=6):(loadVar 118 ⟨g,0,none⟩).run Tryz.prog w=.ok (.agg cs) w:=
 run_loadVar_row w g _ _ cs (0,0) _ h Tryz.underlying118 rfl (by rw[hs];kernel_rfl)
theorem AB.set (h:AB w g cs) (i:Nat) (x:Value):AB (w.setCell ⟨g,i,none⟩ x) g (cs.setIfInBounds i x):=heap_setCell_same w g i _ _ x h
theorem AB.Rx (h:AB w g cs) {k i:Nat} (x:Value) (hk:g≠k):AB (w.setCell ⟨k,i,none⟩ x) g cs:=(heap_setCell_other w ⟨k,i,none⟩ g x hk).trans h
theorem AB.row (h:AB w g cs) (ds:Array Value):AB (w.setRow g ds) g ds:=setRow_heap w g cs ds _ (0,0) h
theorem AB.facts {a b c d e f:Value} (h:AB w g #[a,b,c,d,e,f]):w.cell? ⟨g,0,none⟩=some a∧w.cell? ⟨g,1,none⟩=some b∧w.cell? ⟨g,2,none⟩=some c∧w.cell? ⟨g,3,none⟩=some d∧w.cell? ⟨g,4,none⟩=some e∧w.cell? ⟨g,5,none⟩=some f:=
 ⟨cell_of_row w g 0 _ _ _ h,cell_of_row w g 1 _ _ _ h,cell_of_row w g 2 _ _ _ h,cell_of_row w g 3 _ _ _ h,cell_of_row w g 4 _ _ _ h,cell_of_row w g 5 _ _ _ h⟩
theorem AB.thaw (h:AB w g cs):w.frozen? ⟨g,0,none⟩=false∧w.frozen? ⟨g,1,none⟩=false∧w.frozen? ⟨g,2,none⟩=false∧w.frozen? ⟨g,3,none⟩=false∧w.frozen? ⟨g,4,none⟩=false∧w.frozen? ⟨g,5,none⟩=false:=
 ⟨frozen_of_row w g 0 _ _ h,frozen_of_row w g 1 _ _ h,frozen_of_row w g 2 _ _ h,frozen_of_row w g 3 _ _ h,frozen_of_row w g 4 _ _ h,frozen_of_row w g 5 _ _ h⟩
theorem sG {ops:Array Oper} {rest:List Oper} {o:Oper} {a:Act} {Q:Exit→Act→World→Prop} (hU:AB w g cs) (ds:Array Value) (hs:cs.size=6) (hs2:ds.size=6) (h1:ds.all (·.oneCell')=true) (x y:Operand) (ho:o.op=.store 118 x y) (hgd:o.guard=none)
  (hx:a.eval x=.pointer (some ⟨g,0,none⟩)) (hy:a.eval y=.agg ds)
  (hh:wpList Tryz.prog ops Q rest (a.put o.dst undef) (w.setRow g ds)):wpList Tryz.prog ops Q (o::rest) a w:=
 wpList_store_row hgd 118 x y ho g ds hx hy 118 cs hU (by rw[hs2];kernel_rfl) (by rw[hs,hs2]) h1 hh
theorem abo {fn:Func} {a:Tmp} (h:fn.results=#[.cell a 118]) (hU:AB w g cs) (hs:cs.size=6) (tmps:Array Value) (h2:tmps.getD a undef=.pointer (some ⟨g,0,none⟩)):
  (results fn tmps).run Tryz.prog w=.ok (.agg cs) w:=
 results_cell_row h tmps w g _ cs (0,0) _ h2 hU Tryz.underlying118 rfl (by rw[hs];kernel_rfl)
end
section
variable {z:Int} {n f l:Nat} {K:List UInt8} {w:World} {gf gl:Nat} {L:Nat→Bool} {t:Nat→Value} {wr wq:World} {x:Value}
end
end Go.Proofs.YtmpeaoacaecgpaaGreatDoor.ajr
