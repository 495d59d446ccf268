/- Texts that belong together: acM, NJ, wo, UrlE, Wx, UrlB. -/
import Derived.Test.YtgamccijegollaaGreatDoorSOAAF
import Derived.Test.YtgamccijegollaaGreatDoorSOAAM
import Derived.Test.YtgamccijegollaaGreatDoorSOAAG
import Derived.BigQuiet
import Derived.Test.YtgamccijegollaaGreatDoorSOAAC
import Derived.Shelf.Strings.Builder1
import Derived.Test.YtgamccijegollaaGreatDoorShelf
set_option linter.unusedSimpArgs false
set_option linter.unusedVariables false
set_option maxRecDepth 100000
set_option maxHeartbeats 64000000
namespace Go.Proofs.YtgamccijegollaaGreatDoor.acM
open Go.RowKit Base dI cO acA Kr acG WR acv acD zD FM
theorem asF (file e:Bool) (l:List ByteArray) (b:List UInt8) (h:Bo b=true):Hu file e l b=if e then mM file l++[strOf []]else mM file l:=by unfold Hu;rw[if_pos h]
theorem agr (file e:Bool) (l:List ByteArray) (b:List UInt8) (h:Bo b=false) (h2:xW b=true):Hu file e l b=if e then l++[strOf []]else l:=by unfold Hu;rw[h,if_neg (by decide),if_pos h2]
theorem Yz (file e:Bool) (l:List ByteArray) (b:List UInt8) (h:Bo b=false) (h2:xW b=false):Hu file e l b=l++[strOf (wr (file&&l.isEmpty) b)]:=by unfold Hu;rw[h,if_neg (by decide),h2,if_neg (by decide)]
theorem zW (n:Nat) (h:n<16):ji 4 (FM.jR n).toNat=false∧∀sp,gB sp (FM.jR n)=false:=by
 have H:∀(b:Fin 16),ji 4 ((FM.jR b.val).toNat:Int)=false∧∀sp,gB sp (FM.jR b.val)=false:=by decide+kernel
 exact H ⟨n,h⟩
theorem Oq:ji 4 ((37:UInt8).toNat:Int)=false∧∀sp,gB sp 37=false:=by decide+kernel
theorem fA (k:Int) (c:UInt8) (L:List UInt8):enc k (c::L)=one k c++enc k L:=by simp[enc]
theorem lV (k:Int) (L:List UInt8) (h:∀c ∈ L,ji k c.toNat=false):enc k L=L:=by
 induction L with
 |nil=>rfl
 |cons c L ih=>
  rw[fA,ih (fun d hd=>h d (by simp[hd]))]
  unfold one
  rw[h c (by simp)]
  rfl
theorem Aj (sp:Bool) (c:UInt8) (hs:gB sp c=false):∀d ∈ one 4 c,ji 4 d.toNat=false∧gB sp d=false:=by
 intro d hd
 have hc:=c.toNat_lt
 unfold one at hd
 split at hd
 ·simp only[List.mem_cons,List.not_mem_nil,or_false]at hd
  rcases hd with rfl|rfl|rfl
  ·exact⟨Oq.1,Oq.2 sp⟩
  ·exact⟨(zW _ (by omega)).1,(zW _ (by omega)).2 sp⟩
  exact⟨(zW _ (by omega)).1,(zW _ (by omega)).2 sp⟩
 rename_i hn
 simp only[List.mem_cons,List.not_mem_nil,or_false]at hd
 subst hd
 exact⟨by simpa using hn,hs⟩
theorem XE (sp:Bool) (L:List UInt8) (h:∀c ∈ L,gB sp c=false):∀d ∈ enc 4 L,ji 4 d.toNat=false∧gB sp d=false:=by
 intro d hd
 simp only[enc,List.mem_flatMap]at hd
 obtain⟨c,hc,hd⟩:=hd
 exact Aj sp c (h c hc) d hd
theorem XD (sp:Bool) (L:List UInt8) (h:∀c ∈ L,gB sp c=false):enc 4 (enc 4 L)=enc 4 L:=lV 4 _ fun d hd=>(XE sp L h d hd).1
def okp:List UInt8→Bool
 |[]=>true
 |c::r=>(decide (c≠37)||(match r with|a::b::_=>decide (a=50)&&decide (b=101)|_=>false))&&okp r
theorem not_dot (c:UInt8) (h:ji 4 c.toNat=true):¬(low (FM.jR (c.toNat / 16))=50∧low (FM.jR (c.toNat%16))=101):=by
 have H:∀n:Fin 256,ji 4 (n.val:Int)=true→¬(low (FM.jR (n.val / 16))=50∧low (FM.jR (n.val%16))=101):=by decide+kernel
 exact H ⟨c.toNat,c.toNat_lt⟩ h
theorem zY:∀(p L:List UInt8),okp p=true→lower (enc 4 L)=p→lower L=p
 |p,[],_,h=>h
 | p,c::L,hp,h=>by
  rw[fA]at h
  unfold one at h
  cases hc:ji 4 (c.toNat:Int)with
  |true=>
   rw[hc,if_pos rfl,List.cons_append,List.cons_append,List.cons_append,jg,jg,jg]at h
   subst h
   have e:low 37=37:=by decide+kernel
   simp only[okp,e,Bool.and_eq_true,Bool.or_eq_true,decide_eq_true_eq]at hp
   rcases hp.1 with h1|h1
   ·exact absurd rfl h1
   ·exact absurd h1 (not_dot c hc)
  |false=>
   rw[hc,if_neg (by decide),List.cons_append,List.nil_append,jg]at h
   match p,hp,h with
   |d::r,hp,h=>
    injection h with h1 h2
    simp only[okp,Bool.and_eq_true]at hp
    rw[jg,h1,zY r L hp.2 h2]
theorem enc_sgl (L:List UInt8) (h:xW L=false):xW (enc 4 L)=false:=by
 cases e:xW (enc 4 L)with
 |false=>rfl
 |true=>
  unfold xW at h e
  simp only[Bool.or_eq_true,decide_eq_true_eq,Bool.or_eq_false_iff,decide_eq_false_iff_not]at h e
  rcases e with e|e
  ·exact absurd ((uD L).1 (zY [46] L (by decide) ((uD _).2 e))) h.1
  exact absurd (zY _ L (by decide) e) h.2
theorem enc_dbl (L:List UInt8) (h:Bo L=false):Bo (enc 4 L)=false:=by
 cases e:Bo (enc 4 L)with
 |false=>rfl
 |true=>
  unfold Bo at h e
  simp only[Bool.or_eq_true,decide_eq_true_eq,Bool.or_eq_false_iff,decide_eq_false_iff_not]at h e
  rcases e with((e|e)|e)|e
  ·exact absurd (zY _ L (by decide) e) h.1.1.1
  ·exact absurd (zY _ L (by decide) e) h.1.1.2
  ·exact absurd (zY _ L (by decide) e) h.1.2
  exact absurd (zY _ L (by decide) e) h.2
theorem U9:∀L:List UInt8,(enc 4 L).length≤2→enc 4 L=L
 |[],_=>rfl
 |c::L,h=>by
  rw[fA]at h⊢
  unfold one at h⊢
  cases hc:ji 4 (c.toNat:Int)with
  |true=>rw[hc,if_pos rfl]at h;simp at h
  |false=>
   rw[hc,if_neg (by decide)]at h
   rw[if_neg (by decide),U9 L (by simp at h;omega)]
   rfl
theorem enc_drv (L:List UInt8) (h:drv L=false):drv (enc 4 L)=false:=by
 cases e:drv (enc 4 L)with
 |false=>rfl
 |true=>
  have:=U9 L (by rw[Iz _ e];omega)
  rw[this,h]at e
  cases e
def joinL:List (List UInt8)→List UInt8
 |[]=>[]
 |[x]=>x
 |x::y::r=>x++47::joinL (y::r)
structure At (f sp:Bool) (x:List UInt8):Prop where
 stops:∀c ∈ x,gB sp c=false
 Bo:acA.Bo x=false
 xW:acA.xW x=false
 same:wr f x=x
theorem OE (file sp:Bool) (l:List ByteArray):∀(x b M:List UInt8),(∀c ∈ x,gB sp c=false)→wb file sp l b (x++M)=wb file sp l (b++x) M
 |[],b,M,_=>by rw[List.append_nil];rfl
 |c::x,b,M,h=>by
  rw[List.cons_append,wb,h c (by simp),if_neg (by decide),OE file sp l x (b++[c]) M fun d hd=>h d (by simp[hd]),List.append_assoc]
  rfl
theorem aev (file sp:Bool):∀(ys:List (List UInt8)) (acc:List ByteArray) (y:List UInt8),At (file&&acc.isEmpty) sp y→(∀z ∈ ys,At false sp z)→wb file sp acc [] (joinL (y::ys))=acc++(y::ys).map strOf
 |[],acc,y,h,_=>by
  have:=OE file sp acc y [] [] h.stops
  rw[List.append_nil,List.nil_append]at this
  show wb file sp acc [] y=_
  rw[this,wb,Yz _ _ _ _ h.Bo h.xW,h.same]
  rfl
 |z::ys,acc,y,h,hs=>by
  have e:gB sp 47=true:=by cases sp<;>rfl
  show wb file sp acc [] (y++47::joinL (z::ys))=_
  rw[OE file sp acc y [] _ h.stops,List.nil_append,wb,if_pos e,Yz _ _ _ _ h.Bo h.xW,h.same,aev file sp ys (acc++[strOf y]) z ?_ fun u hu=>hs u (by simp[hu]),List.append_assoc]
  ·rfl
  ·have:(acc++[strOf y]).isEmpty=false:=by cases acc<;>rfl
   rw[this,Bool.and_false]
   exact hs z (by simp)
theorem at_nil (f sp:Bool):At f sp []:=⟨fun _ h=>by(cases h),rfl,rfl,by cases f<;>rfl⟩
theorem at_wr (f sp:Bool) (b:List UInt8) (hs:∀c ∈ b,gB sp c=false) (hd:Bo b=false) (hg:xW b=false):At f sp (wr f b)∧(wr f b).length≤3*b.length+2:=by
 cases hf:(f&&drv b)with
 | true=>
  have e:wr f b=b.take 1++[58]:=by unfold wr;rw[hf,if_pos rfl]
  rw[Bool.and_eq_true]at hf
  obtain⟨rfl,hv⟩:=hf
  rw[e]
  match b,hv,hs with
  |[x,y],hv,hs=>
   have hx:letter (x.toNat:Int)=true:=by
    simp only[drv,Bool.and_eq_true]at hv
    exact hv.1
   refine⟨⟨fun c hc=>?_,?_,?_,?_⟩,by simp⟩
   ·simp only[List.take_succ_cons,List.take_zero,List.cons_append,List.nil_append,List.mem_cons,List.not_mem_nil,or_false]at hc
    rcases hc with rfl|rfl
    ·exact hs _ (by simp)
    cases sp<;>rfl
   ·simp[Bo,jg,show lower ([]:List UInt8)=[]from rfl]
    intro _
    decide+kernel
   ·simp[xW,jg,show lower ([]:List UInt8)=[]from rfl]
   show wr true [x,58]=[x,58]
   have hv2:(true&&drv [x,58])=true:=by
    show(true&&(letter (x.toNat:Int)&&(decide ((58:UInt8)=58)||decide ((58:UInt8)=124))))=true
    rw[hx]
    rfl
   unfold wr
   rw[hv2]
   rfl
 |false=>
  have e:wr f b=enc 4 b:=by unfold wr;rw[hf,if_neg (by decide)]
  rw[e]
  refine⟨⟨fun c hc=>(XE sp b hs c hc).2,enc_dbl b hd,enc_sgl b hg,?_⟩,by have:=iW 4 b;omega⟩
  have hv:(f&&drv (enc 4 b))=false:=by
   cases f with
   |false=>rfl
   |true=>rw[Bool.true_and]at hf⊢;exact enc_drv b hf
  unfold wr
  rw[hv,if_neg (by decide),XD sp b hs]
def All (G:Nat→List UInt8→Prop) (l:List ByteArray):Prop:=∀i (h:i<l.length),G i (l[i]).data.toList
theorem PD {G:Nat→List UInt8→Prop} {l:List ByteArray} (h:All G l) (x:List UInt8) (hx:G l.length x):All G (l++[strOf x]):=fun i hi=>by
 rw[List.getElem_append]
 split
 ·exact h i _
 have:i=l.length:=by simp at hi;omega
 subst this
 simpa[strOf]using hx
theorem ZL {G:Nat→List UInt8→Prop} {l:List ByteArray} (h:All G l) (n:Nat):All G (l.take n):=fun i hi=>by
 rw[List.getElem_take]
 exact h i _
theorem agq (file sp e:Bool) (N:Nat) (G:Nat→List UInt8→Prop) (he:∀i,G i []) (hb:∀i b,(∀c ∈ b,gB sp c=false)→b.length≤N→Bo b=false→xW b=false→G i (wr (file&&decide (i=0)) b))
  (l:List ByteArray) (b:List UInt8) (h:All G l) (h1:∀c ∈ b,gB sp c=false) (h2:b.length≤N):All G (Hu file e l b):=by
 have aaz:All G (mM file l):=by
  unfold mM
  split
  ·exact h
  ·exact ZL h _
 cases hd:Bo b with
 |true=>
  rw[asF _ _ _ _ hd]
  split
  ·exact PD aaz [] (he _)
  ·exact aaz
 |false=>
  cases hg:xW b with
  |true=>
   rw[agr _ _ _ _ hd hg]
   split
   ·exact PD h [] (he _)
   ·exact h
  |false=>
   rw[Yz _ _ _ _ hd hg]
   refine PD h _ ?_
   have:=hb l.length b h1 h2 hd hg
   have e:decide (l.length=0)=l.isEmpty:=by cases l<;>simp
   rw[e]at this
   exact this
theorem SS (file sp:Bool) (N:Nat) (G:Nat→List UInt8→Prop) (he:∀i,G i []) (hb:∀i b,(∀c ∈ b,gB sp c=false)→b.length≤N→Bo b=false→xW b=false→G i (wr (file&&decide (i=0)) b)):
  ∀(M:List UInt8) (l:List ByteArray) (b:List UInt8),All G l→(∀c ∈ b,gB sp c=false)→b.length+M.length≤N→All G (wb file sp l b M)
 |[],l,b,h,h1,h2=>agq file sp true N G he hb l b h h1 (by simpa using h2)
 | c :: M, l, b, h, h1, h2 => by
  simp only[List.length_cons]at h2
  cases hc:gB sp c with
  |true=>
   rw[wb,if_pos hc]
   exact SS file sp N G he hb M _ [] (agq file sp false N G he hb l b h h1 (by omega)) (fun _ h=>by(cases h)) (by simp;omega)
  |false=>
   rw[wb,hc,if_neg (by decide)]
   exact SS file sp N G he hb M l (b++[c]) h (fun d hd=>by
    rcases List.mem_append.1 hd with hd|hd
    ·exact h1 d hd
    ·simp at hd;subst hd;exact hc) (by simp;omega)
theorem JK (file sp:Bool):∀(M:List UInt8) (l:List ByteArray) (b:List UInt8),wb file sp l b M≠[]
 |[],l,b=>by
  show Hu file true l b≠[]
  unfold Hu
  repeat' split
  all_goals simp_all
 |c::M,l,b=>by
  unfold wb
  split
  ·exact JK file sp M _ _
  ·exact JK file sp M _ _
theorem aaM (l:List ByteArray):(l.map (·.data.toList)).map strOf=l:=by
 rw[List.map_map]
 conv=>rhs;rw[←List.map_id l]
 refine List.map_congr_left fun s _=>?_
 exact aG s
end Go.Proofs.YtgamccijegollaaGreatDoor.acM
namespace Go.Proofs.YtgamccijegollaaGreatDoor.NJ
open Go.RowKit Base dI cO acA acG WR acv acD acM aco acJ J5 wS agU acK atP zD
def Seg (au:List UInt8) (i:Nat) (x:List UInt8):Prop:=acM.At (decide (au=FILE)&&decide (i=0)) (special au) x∧∀c ∈ x,ji 4 c.toNat=false
def kQ (au:List UInt8) (l:List ByteArray):Prop:=acM.All (Seg au) l
theorem seg_nil (au:List UInt8) (i:Nat):Seg au i []:=⟨at_nil _ _,fun _ h=>by cases h⟩
theorem adU (c:UInt8) (h:letter (c.toNat:Int)=true):ji 4 c.toNat=false:=
 dn (p:=fun c=>letter (c.toNat:Int)=true→ji 4 c.toNat=false) (by decide+kernel) c h
theorem wr_out (f:Bool) (b:List UInt8) (sp:Bool) (hs:∀c ∈ b,gB sp c=false):∀c ∈ wr f b,ji 4 c.toNat=false:=by
 intro c hc
 cases hf:(f&&drv b)with
 | true=>
  have e:wr f b=b.take 1++[58]:=by unfold wr;rw[hf,if_pos rfl]
  rw[Bool.and_eq_true]at hf
  obtain⟨_,hv⟩:=hf
  rw[e]at hc
  match b,hv,hc with
  |[x,y],hv,hc=>
   have hx:letter (x.toNat:Int)=true:=by
    simp only[drv,Bool.and_eq_true]at hv
    exact hv.1
   simp only[List.take_succ_cons,List.take_zero,List.cons_append,List.nil_append,List.mem_cons,List.not_mem_nil,or_false]at hc
   rcases hc with rfl|rfl
   ·exact adU _ hx
   decide+kernel
 |false=>
  have e:wr f b=FM.enc 4 b:=by unfold wr;rw[hf,if_neg (by decide)]
  rw[e]at hc
  exact(XE sp b hs c hc).1
theorem uG {au:List UInt8} {l:List ByteArray} (h:kQ au l) (s:List UInt8):kQ au (walk au l s):=by
 unfold walk kQ
 exact SS (decide (au=FILE)) (special au) s.length (Seg au) (seg_nil au) (fun i b h1 h2 h3 h4=>⟨(at_wr _ _ b h1 h3 h4).1,wr_out _ b _ h1⟩) s l [] h (fun _ h=>by cases h) (by simp)
theorem Fb (au:List UInt8) (l:List ByteArray) (s:List UInt8):walk au l s≠[]:=JK _ _ _ _ _
theorem su (au:List UInt8):kQ au []:=fun i h=>absurd h (by simp)
theorem Ld {au:List UInt8} {l:List ByteArray} (h:kQ au l) (n:Nat):kQ au (l.take n):=ZL h n
theorem QY {au:List UInt8} {l:List ByteArray} (h:kQ au l) (f:Bool):kQ au (mM f l):=by
 unfold mM
 split
 ·exact h
 exact Ld h _
theorem sD (au s:List UInt8):kQ au (rooted au s):=by
 unfold rooted
 split
 ·exact su _
 exact uG (su _) _
theorem zk {au s:List UInt8} (h:s≠[]∨special au=true):rooted au s≠[]:=by
 unfold rooted
 rw[if_neg]
 ·exact Fb _ _ _
 rintro⟨h1,h2⟩
 rcases h with h|h
 ·exact h h1
 rw[h]at h2;cases h2
theorem one_ne (k:Int) (c:UInt8):FM.one k c≠[]:=fun e=>by
 have:=FM.Oj k c
 rw[e]at this
 simp at this
theorem enc_nil {k:Int} {L:List UInt8} (h:FM.enc k L=[]):L=[]:=by
 cases L with
 |nil=>rfl
 |cons c t=>
  have e:FM.enc k (c::t)=FM.one k c++FM.enc k t:=by simp[FM.enc]
  rw[e]at h
  exact absurd (List.append_eq_nil_iff.1 h).1 (one_ne k c)
theorem afD {s:List UInt8} {sp:Bool} (h:hst s sp=some []):s=[]∧sp=false:=by
 unfold hst at h
 split at h
 ·unfold hbr at h
  split at h
  ·unfold addr at h
   split at h
   ·cases h
   injection h with h;cases h
  cases h
 split at h
 ·unfold SL at h
  split at h
  ·unfold XB at h
   split at h
   ·cases h
   split at h
   ·obtain⟨n,_,e⟩:=Option.map_eq_some_iff.1 h
    exact absurd e (pr_ne n)
   rename_i h1 _
   injection h with h
   exact absurd h h1
  cases h
 rename_i hs
 unfold zA at h
 split at h
 ·injection h with h
  exact⟨enc_nil h,by simpa using hs⟩
 cases h
theorem hap_nil:∀(L:List UInt8) (i:Bool),(hap i L).1=[]→(hap i L).2.2=false→L=[]
 |[],_,_,_=>rfl
 |c::L,i,h1,h2=>by
  unfold hap at h1 h2
  split at h1
  ·rename_i hc
   rw[if_pos hc]at h2
   cases h2
  ·cases h1
structure Ok (u:U):Prop where
 au:lI u.au=true
 low:lower u.au=u.au
 opq:u.opq=true→special u.au=false∧u.hh=false∧u.aO=[]∧(∀c ∈ u.txt,ji 0 c.toNat=false∧c≠63∧c≠35)∧u.txt.head?≠some 47∧Lib.hasSuffix u.txt [32]=false
 path:u.opq=false→kQ u.au u.aO∧u.txt=[]∧(u.hh=false∨special u.au=true→u.aO≠[])
 spec:special u.au=true→u.hh=true
 X0:u.hh=false→u.usr=[]∧u.MX=[]∧u.port= -1∧u.hst=[]
 usr:∀c ∈ u.usr,ji 5 c.toNat=false
 MX:∀c ∈ u.MX,ji 5 c.toNat=false
 host:u.hh=true→(u.hst=[]∧u.usr=[]∧u.MX=[]∧u.port= -1∧(special u.au=false∨u.au=FILE))∨(u.hst≠[]∧J5.Good (special u.au) u.hst)
 file:u.au=FILE→u.usr=[]∧u.MX=[]∧u.port= -1∧u.hst≠LOCAL
 port:u.port= -1∨(0≤u.port∧u.port≤65535∧u.port≠portOf u.au)
 dY:∀c ∈ u.dY,ji (if special u.au=true then 3 else 2) c.toNat=false
 fB:∀c ∈ u.fB,ji 1 c.toNat=false
 noq:u.hq=false→u.dY=[]
 nof:u.hf=false→u.fB=[]
theorem Jf (k:Int) (hk:k≠6) (L:List UInt8):∀c ∈ FM.enc k L,ji k c.toNat=false:=by
 intro c hc
 unfold FM.enc at hc
 obtain⟨x,_,hc⟩:=List.mem_flatMap.1 hc
 exact Hz.Aj k hk x c hc
theorem prt_ok {au d:List UInt8} {z:Int} (h:prt au d=some z):z= -1∨(0≤z∧z≤65535∧z≠portOf au):=by
 unfold prt at h
 split at h
 ·cases h;exact .inl rfl
 split at h
 ·split at h
  ·cases h;exact .inl rfl
  split at h
  ·rename_i h1 h2
   cases h
   exact .inr ⟨by omega,by omega,h1⟩
  cases h
 cases h
theorem cred_ok (s:List UInt8):(∀c ∈ (jL s).1,ji 5 c.toNat=false)∧(∀c ∈ (jL s).2.1,ji 5 c.toNat=false)∧((jL s).2.2.2=false→(jL s).1=[]∧(jL s).2.1=[]):=by
 unfold jL
 split
 ·simp
 exact⟨Jf 5 (by decide) _,Jf 5 (by decide) _,fun h=>by cases h⟩
theorem tV {au s:List UInt8} {u:U} (h:authority au s=some u) (h1:lI au=true) (h2:lower au=au) (h3:au≠FILE):Ok u:=by
 unfold authority at h
 obtain⟨g1,h⟩:=jY h
 obtain⟨g2,h⟩:=jY h
 have hc:=cred_ok (s.take (upto (special au) s))
 have hn:=hap_nil (jL (s.take (upto (special au) s))).2.2.1 false
 have hp:=sD au (s.drop (upto (special au) s))
 have hr:=fun e=>zk (au:=au) (s:=s.drop (upto (special au) s)) (.inr e)
 generalize jL (s.take (upto (special au) s))=K at h g1 g2 hc hn
 split at h
 ·rename_i H p e1 e2
  have hpo:=prt_ok e2
  cases h
  refine⟨h1,h2,fun e=>(by cases e),fun _=>⟨hp,rfl,?_⟩,fun _=>rfl,fun e=>(by cases e),hc.1,hc.2.1,fun _=>?_,fun e=>absurd e h3,hpo,fun c hc=>(by cases hc),fun c hc=>(by cases hc),fun _=>rfl,fun _=>rfl⟩
  ·rintro(e|e)
   ·cases e
   exact hr e
  by_cases hH:H=[]
  ·left
   rw[hH]at e1
   obtain⟨a1,a2⟩:=afD e1
   have b1:(hap false K.2.2.1).2.2=false:=by
    cases hb:(hap false K.2.2.1).2.2
    ·rfl
    exact absurd ⟨hb,a1⟩ g2
   have b2:=hn a1 b1
   have b3:K.2.2.2=false:=by
    cases hb:K.2.2.2
    ·rfl
    exact absurd ⟨hb,b2⟩ g1
   have b4:=hc.2.2 b3
   rw[b2]at e2
   have e3:(-1:Int)=p:=by
    have:prt au []=some p:=e2
    rw[tN.ail]at this
    injection this
   exact⟨hH,b4.1,b4.2,e3.symm,.inl a2⟩
  exact .inr ⟨hH,Qw e1⟩
 cases h
theorem EL {b:U} (hb:Ok b) (ho:b.opq=false) {l:List ByteArray} (hl:kQ b.au l) (hn:b.hh=false∨special b.au=true→l≠[]):Ok {aH b with aO:=l}:=
 ⟨hb.au,hb.low,fun e=>(by cases e),fun _=>⟨hl,rfl,hn⟩,hb.spec,hb.X0,hb.usr,hb.MX,hb.host,hb.file,hb.port,fun c hc=>(by cases hc),fun c hc=>(by cases hc),fun _=>rfl,fun _=>rfl⟩
theorem ZM {b:U} (hb:Ok b) (ho:b.opq=false):Ok (along (aH b) b):=
 ⟨hb.au,hb.low,fun e=>(by cases e),fun _=>⟨(hb.path ho).1,rfl,(hb.path ho).2.2⟩,hb.spec,hb.X0,hb.usr,hb.MX,hb.host,hb.file,hb.port,hb.dY,fun c hc=>(by cases hc),hb.noq,fun _=>rfl⟩
theorem Nj {r:List UInt8} {b u:U} (h:relative r b=some u) (hb:Ok b) (ho:b.opq=false) (hf:b.au≠FILE):Ok u:=by
 unfold relative at h
 split at h
 ·exact tV h hb.au hb.low hf
 injection h with h
 subst h
 split
 ·rename_i hsl
  refine EL hb ho (sD _ _) fun _=>zk (.inl ?_)
  rintro rfl
  cases hsl
 split
 ·exact ZM hb ho
 exact EL hb ho (uG (QY (hb.path ho).1 _) _) fun _=>Fb _ _ _
theorem ny:lI FILE=true∧lower FILE=FILE∧special FILE=true:=by decide+kernel
theorem Nu {l:List ByteArray} (hl:kQ FILE l) (hn:l≠[]) {H:List UInt8} (hH:H=[]∨(H≠[]∧J5.Good true H∧H≠LOCAL)):Ok {uF with hst:=H,aO:=l}:=by
 refine⟨ny.1,ny.2.1,fun e=>(by cases e),fun _=>⟨hl,rfl,fun _=>hn⟩,fun _=>rfl,fun e=>(by cases e),fun c hc=>(by cases hc),fun c hc=>(by cases hc),fun _=>?_,fun _=>⟨rfl,rfl,rfl,?_⟩,.inl rfl,fun c hc=>(by cases hc),fun c hc=>(by cases hc),fun _=>rfl,fun _=>rfl⟩
 ·rcases hH with hH|hH
  ·exact .inl ⟨hH,rfl,rfl,rfl,.inr rfl⟩
  exact .inr ⟨hH.1,by show J5.Good (special FILE) H;rw[ny.2.2];exact hH.2.1⟩
 show H≠LOCAL
 rcases hH with hH|hH
 ·rw[hH];decide
 exact hH.2.2
theorem far_ok {s:List UInt8} {u:U} (h:far s=some u):Ok u:=by
 have hp:=sD FILE s
 have hp2:=sD FILE (s.drop (upto true s))
 have hn:=zk (au:=FILE) (s:=s) (.inr ny.2.2)
 have hn2:=zk (au:=FILE) (s:=s.drop (upto true s)) (.inr ny.2.2)
 unfold far at h
 split at h
 ·cases h;exact Nu hp hn (.inl rfl)
 split at h
 ·cases h;exact Nu hp2 hn2 (.inl rfl)
 split at h
 ·cases h
 rename_i H e
 cases h
 refine Nu hp2 hn2 ?_
 split
 ·exact .inl rfl
 rename_i hl
 refine .inr ⟨?_,Qw e,hl⟩
 rintro rfl
 have:=afD e
 cases this.2
theorem afs {r:List UInt8} {base:Option U} {u:U} (h:file r base=some u) (hb:∀b,base=some b→Ok b∧b.opq=false∧b.au=FILE):Ok u:=by
 unfold file at h
 split at h
 ·exact far_ok h
 split at h
 ·injection h with h
  subst h
  cases base with
  |none=>exact Nu (uG (by split<;>first|exact su _|exact Ld (su _) _) _) (Fb _ _ _) (H:=[]) (.inl rfl)
  |some b=>
   obtain⟨h1,h2,h3⟩:=hb b rfl
   have hp:=(h1.path h2).1
   rw[h3]at hp
   refine EL h1 h2 ?_ fun _=>Fb _ _ _
   rw[h3]
   refine uG ?_ _
   split
   ·exact Ld hp _
   exact su _
 split at h
 ·injection h with h
  subst h
  refine Nu (uG ?_ _) (Fb _ _ _) (H:=[]) (.inl rfl)
  split
  ·exact su _
  exact QY (su _) _
 rename_i b
 obtain⟨h1,h2,h3⟩:=hb b rfl
 have hp:=(h1.path h2).1
 rw[h3]at hp
 split at h
 ·injection h with h
  subst h
  exact ZM h1 h2
 injection h with h
 subst h
 refine EL h1 h2 ?_ fun _=>Fb _ _ _
 rw[h3]
 refine uG ?_ _
 split
 ·exact su _
 exact QY hp _
structure POk (p:Parts):Prop where
 au:p.au≠[]→lI p.au=true∧lower p.au=p.au
 rest:∀c ∈ p.rest,c≠63∧c≠35
 last:p.au≠[]→p.hq=false→p.hf=false→Lib.hasSuffix p.rest [32]=false
theorem eP (L:List UInt8) (d c:UInt8):Lib.hasSuffix (L++[d]) [c]=decide (d=c):=by
 rw[Bool.eq_iff_iff]
 unfold Lib.hasSuffix
 rw[List.isSuffixOf_iff_suffix,decide_eq_true_iff]
 constructor
 ·rintro⟨t,e⟩
  exact(List.append_inj' e rfl).2|>fun h=>(List.cons.inj h).1.symm
 rintro rfl
 exact⟨L,rfl⟩
theorem jC (L:List UInt8):L=[]∨∃M d,L=M++[d]:=by
 rcases List.eq_nil_or_concat L with h|⟨M,d,h⟩
 ·exact .inl h
 exact .inr ⟨M,d,by simpa using h⟩
theorem aae (L:List UInt8) (h:Lib.hasSuffix L [32]=false):Lib.hasSuffix (FM.enc 0 L) [32]=false:=by
 rcases jC L with rfl|⟨M,d,rfl⟩
 ·rfl
 rw[eP,decide_eq_false_iff_not]at h
 rw[FM.rM]
 have H:∃X y,FM.one 0 d=X++[y]∧y≠32:=by
  unfold FM.one
  split
  ·refine⟨[37,FM.jR (d.toNat / 16)],FM.jR (d.toNat%16),rfl,?_⟩
   have h2:∀n:Fin 16,FM.jR n.val≠32:=by decide
   exact h2 ⟨_,Nat.mod_lt _ (by decide)⟩
  exact⟨[],_,rfl,h⟩
 obtain⟨X,y,e,hy⟩:=H
 rw[e,←List.append_assoc,eP,decide_eq_false_iff_not]
 exact hy
theorem dw_head (p:UInt8→Bool):∀L:List UInt8,L.dropWhile p=[]∨∃c t,L.dropWhile p=c::t∧p c=false
 |[]=>.inl rfl
 |c::L=>by
  rw[List.dropWhile_cons]
  split
  ·exact dw_head p L
  ·rename_i h
   exact .inr ⟨c,L,rfl,by simpa using h⟩
theorem anV (X:List UInt8):ru X=[]∨∃M d,ru X=M++[d]∧fO d=false:=by
 unfold ru
 rcases dw_head fO (X.dropWhile fO).reverse with h|⟨c,t,h,hc⟩
 ·left;rw[h];rfl
 right;exact⟨t.reverse,c,by rw[h];simp,hc⟩
theorem ade (s:List UInt8):Lib.hasSuffix (clean s) [32]=false:=by
 rw[rG]
 rcases anV (ED s)with h|⟨M,d,h,hd⟩
 ·rw[h];rfl
 rw[h,List.filter_append,List.filter_cons_of_pos (by rw[afO d hd];rfl),List.filter_nil,eP,decide_eq_false_iff_not]
 rintro rfl
 cases hd
theorem Gu (b:UInt8):∀L:List UInt8,(fG b L).2.2=false→(fG b L).1=L∧∀c ∈ L,c≠b
 |[],_=>⟨rfl,fun _ h=>by cases h⟩
 |c::L,h=>by
  unfold fG at h⊢
  split at h
  ·cases h
  ·rename_i hc
   have ih:=Gu b L h
   rw[if_neg hc]
   refine⟨by simp only;rw[ih.1],fun d hd=>?_⟩
   rcases List.mem_cons.1 hd with rfl|hd
   ·exact hc
   ·exact ih.2 d hd
theorem UZ (b:UInt8):∀L:List UInt8,(fG b L).2.2=true→L=(fG b L).1++b::(fG b L).2.1
 |[],h=>by cases h
 |c::L,h=>by
  unfold fG at h⊢
  split at h
  ·rename_i hc
   rw[if_pos hc,hc]
   rfl
  ·rename_i hc
   rw[if_neg hc]
   have ih:=UZ b L h
   simp only[List.cons_append]
   rw[←ih]
theorem XA (b:UInt8):∀L:List UInt8,∀c ∈ (fG b L).1,c≠b
 |[],c,h=>by cases h
 |x::L,c,h=>by
  unfold fG at h
  split at h
  ·cases h
  ·rename_i hx
   rcases List.mem_cons.1 h with rfl|h
   ·exact hx
   ·exact XA b L c h
theorem aeE (A B:List UInt8) (c:UInt8) (h:Lib.hasSuffix (A++B) [c]=false):Lib.hasSuffix B [c]=false:=by
 rcases jC B with rfl|⟨M,d,rfl⟩
 ·rfl
 rw[←List.append_assoc,eP]at h
 rw[eP]
 exact h
theorem aiF (L:List UInt8) (h:lI L=true):lI (lower L)=true:=by
 cases L with
 |nil=>cases h
 |cons c r=>
  unfold lI at h
  rw[Bool.and_eq_true]at h
  show lI (low c::lower r)=true
  unfold lI
  rw[Bool.and_eq_true]
  constructor
  ·exact dn (p:=fun c=>letter c.toNat=true→letter (low c).toNat=true) (by decide+kernel) c h.1
  unfold lower
  rw[List.all_map,List.all_eq_true]
  intro x hx
  exact dn (p:=fun c=>NT c=true→NT (low c)=true) (by decide+kernel) x (List.all_eq_true.1 h.2 x hx)
theorem akP (s:List UInt8):POk (wS.apart (clean s)):=by
 have hl:=ade s
 generalize clean s=C at hl
 unfold wS.apart
 simp only
 have f1:=XA 35 C
 have q1:=XA 63 (fG 35 C).1
 have q2:=(Io 63 (fG 35 C).1).1
 have c2:=(Io 58 (fG 63 (fG 35 C).1).1).2
 have hr:∀c ∈ (fG 63 (fG 35 C).1).1,c≠63∧c≠35:=fun c hc=>⟨q1 c hc,f1 c (q2 c hc)⟩
 split
 ·rename_i hc
  rw[Bool.and_eq_true]at hc
  refine⟨fun _=>⟨aiF _ hc.2,wV _⟩,fun c hc=>hr c (c2 c hc),fun _ h1 h2=>?_⟩
  simp only at h1 h2⊢
  have e1:=(Gu 35 C h2).1
  rw[e1]at h1 hc⊢
  have e2:=(Gu 63 C h1).1
  rw[e2]at hc⊢
  have e3:=UZ 58 C hc.1
  rw[e3,show ∀(A B:List UInt8),A++58::B=(A++[58])++B from fun A B=>by simp]at hl
  exact aeE _ _ _ hl
 exact⟨fun h=>absurd rfl h,hr,fun h=>absurd rfl h⟩
theorem enc0_ok {L:List UInt8} (h:∀c ∈ L,c≠63∧c≠35):∀c ∈ FM.enc 0 L,ji 0 c.toNat=false∧c≠63∧c≠35:=by
 intro c hc
 refine⟨Jf 0 (by decide) L c hc,?_⟩
 unfold FM.enc at hc
 obtain⟨x,hx,hm⟩:=List.mem_flatMap.1 hc
 unfold FM.one at hm
 split at hm
 ·have hd:=x.toNat_lt
  have h2:∀n:Fin 16,FM.jR n.val≠63∧FM.jR n.val≠35:=by decide
  simp only[List.mem_cons,List.not_mem_nil,or_false]at hm
  rcases hm with rfl|rfl|rfl
  ·decide
  ·exact h2 ⟨x.toNat / 16,by omega⟩
  exact h2 ⟨x.toNat%16,by omega⟩
 rw[List.mem_singleton]at hm
 rw[hm]
 exact h x hx
theorem aho {L:List UInt8} (h:L.head?≠some 47):(FM.enc 0 L).head?≠some 47:=by
 cases L with
 |nil=>simp[FM.enc]
 |cons c t=>
  have e:FM.enc 0 (c::t)=FM.one 0 c++FM.enc 0 t:=by simp[FM.enc]
  rw[e]
  unfold FM.one
  split
  ·simp
  simpa using h
theorem aa6 {L:List UInt8} (h:¬Lib.hasPrefix L [47]=true):L.head?≠some 47:=by
 cases L with
 |nil=>simp
 |cons c t=>
  intro e
  apply h
  have:c=47:=by simpa using e
  rw[this]
  rfl
theorem opq_ok {p:Parts} (hp:POk p) (hs:p.au≠[]) (h47:p.rest.head?≠some 47):(∀c ∈ wS.opq (p.hq||p.hf) p.rest,ji 0 c.toNat=false∧c≠63∧c≠35)∧(wS.opq (p.hq||p.hf) p.rest).head?≠some 47∧Lib.hasSuffix (wS.opq (p.hq||p.hf) p.rest) [32]=false:=by
 have h1:=enc0_ok hp.rest
 have h2:=aho h47
 unfold wS.opq
 split
 ·rename_i hm
  unfold Lib.trimSuffix
  rw[if_pos hm.1]
  refine⟨fun c hc=>?_,?_,?_⟩
  ·rcases List.mem_append.1 hc with hc|hc
   ·exact h1 c (List.mem_of_mem_take hc)
   simp only[List.mem_cons,List.not_mem_nil,or_false]at hc
   rcases hc with rfl|rfl|rfl<;>decide+kernel
  ·cases hk:List.take ((FM.enc 0 p.rest).length - [(32:UInt8)].length) (FM.enc 0 p.rest)with
   |nil=>simp
   |cons c t=>
    intro e
    apply h2
    have ec:c=47:=by simpa using e
    rw[←List.take_append_drop ((FM.enc 0 p.rest).length - [(32:UInt8)].length) (FM.enc 0 p.rest),hk,ec]
    rfl
  rw[show ∀A:List UInt8,A++[37,50,48]=(A++[37,50])++[48]from fun A=>by simp,eP]
  decide
 rename_i hm
 refine⟨h1,h2,?_⟩
 by_cases hb:(p.hq||p.hf)=true
 ·cases hx:Lib.hasSuffix (FM.enc 0 p.rest) [32]
  ·rfl
  exact absurd ⟨hx,hb⟩ hm
 have hb':p.hq=false∧p.hf=false:=by
  cases h3:p.hq<;>cases h4:p.hf<;>simp_all
 exact aae _ (hp.last hs hb'.1 hb'.2)
theorem am1 {p:Parts} {u:U} (h:wS.plain p=some u) (hp:POk p) (hs:p.au≠[]) (hn:special p.au=false) (hf:p.au≠FILE):Ok u:=by
 obtain⟨h1,h2⟩:=hp.au hs
 unfold wS.plain at h
 split at h
 ·exact tV h h1 h2 hf
 split at h
 ·rename_i h47
  injection h with h
  subst h
  refine⟨h1,h2,fun e=>(by cases e),fun _=>⟨sD _ _,rfl,fun _=>zk (.inl ?_)⟩,fun e=>?_,fun _=>⟨rfl,rfl,rfl,rfl⟩,fun c hc=>(by cases hc),fun c hc=>(by cases hc),fun e=>(by cases e),fun e=>absurd e hf,.inl rfl,fun c hc=>(by cases hc),fun c hc=>(by cases hc),fun _=>rfl,fun _=>rfl⟩
  ·intro e
   rw[e]at h47
   cases h47
  exact absurd (show special p.au=true from e) (by rw[hn];simp)
 rename_i h47
 injection h with h
 subst h
 have ho:=opq_ok hp hs (aa6 h47)
 refine⟨h1,h2,fun _=>⟨hn,rfl,rfl,ho.1,ho.2.1,ho.2.2⟩,fun e=>(by cases e),fun e=>?_,fun _=>⟨rfl,rfl,rfl,rfl⟩,fun c hc=>(by cases hc),fun c hc=>(by cases hc),fun e=>(by cases e),fun e=>absurd e hf,.inl rfl,fun c hc=>(by cases hc),fun c hc=>(by cases hc),fun _=>rfl,fun _=>rfl⟩
 exact absurd (show special p.au=true from e) (by rw[hn];simp)
theorem I9 {b:U} (hb:Ok b) (h:special b.au=true):b.opq=false:=by
 cases e:b.opq
 ·rfl
 have:=(hb.opq e).1
 rw[h]at this
 cases this
theorem aeu {p:Parts} {base:Option U} {u:U} (h:wS.resolve p base=some u) (hp:POk p) (hb:∀b,base=some b→Ok b):Ok u:=by
 have hfe:FILE≠[]:=by decide
 unfold wS.resolve at h
 split at h
 ·refine afs h fun b e=>?_
  cases base with
  |none=>cases e
  |some c=>
   simp only[Option.filter]at e
   split at e
   ·rename_i hc
    injection e with e
    subst e
    have h1:c.au=FILE:=by simpa using hc
    exact⟨hb c rfl,I9 (hb c rfl) (by rw[h1];exact ny.2.2),h1⟩
   cases e
 rename_i hf
 split at h
 ·rename_i hsp
  have hs:p.au≠[]:=by
   intro e
   rw[e]at hsp
   revert hsp
   decide
  obtain⟨g1,g2⟩:=hp.au hs
  split at h
  ·rename_i b
   split at h
   ·rename_i he
    exact Nj h (hb b rfl) (I9 (hb b rfl) (by rw[he.1];exact hsp)) (by rw[he.1];exact hf)
   exact tV h g1 g2 hf
  exact tV h g1 g2 hf
 rename_i hsp
 split at h
 ·rename_i hs
  exact am1 h hp hs (by simpa using hsp) hf
 split at h
 ·cases h
 rename_i b
 have hb1:=hb b rfl
 split at h
 ·unfold rY at h
  obtain⟨_,h⟩:=jY h
  injection h with h
  subst h
  exact hb1
 rename_i ho
 have ho':b.opq=false:=by simpa using ho
 split at h
 ·rename_i hs
  exact afs h fun c e=>by injection e with e;subst e;exact⟨hb1,ho',hs⟩
 rename_i hs
 exact Nj h hb1 ho' hs
theorem ahx {u:U} {p:Parts} (h:Ok u):Ok (finish u p):=by
 have e1:=Jf (if special u.au=true then 3 else 2) (by split<;>decide) p.dY
 have e2:=Jf 1 (by decide) p.fB
 obtain⟨a1,a2,a3,a4,a5,a6,a7,a8,a9,a10,a11,a12,a13,a14,a15⟩:=h
 unfold finish
 cases p.hq<;>cases p.hf
 ·exact⟨a1,a2,a3,a4,a5,a6,a7,a8,a9,a10,a11,a12,a13,a14,a15⟩
 ·exact⟨a1,a2,a3,a4,a5,a6,a7,a8,a9,a10,a11,a12,e2,a14,fun e=>(by cases e)⟩
 ·exact⟨a1,a2,a3,a4,a5,a6,a7,a8,a9,a10,a11,e1,a13,fun e=>(by cases e),a15⟩
 exact⟨a1,a2,a3,a4,a5,a6,a7,a8,a9,a10,a11,e1,e2,fun e=>(by cases e),fun e=>(by cases e)⟩
theorem aeK {s:List UInt8} {base:Option U} {u:U} (h:wS.url s base=some u) (hb:∀b,base=some b→Ok b):Ok u:=by
 unfold wS.url at h
 obtain⟨v,hv,rfl⟩:=Option.map_eq_some_iff.1 h
 exact ahx (aeu hv (akP s) hb)
end Go.Proofs.YtgamccijegollaaGreatDoor.NJ
namespace Go.Proofs.YtgamccijegollaaGreatDoor.wo
open Go.RowKit Base dI cO oO wu WU akq acA acG WR acv acD acM aco acJ WJ J5 wS agU acK atP NJ zD
def Dh (u:U):List UInt8:=aZ.lD (strOf u.usr) (strOf u.MX)
def KU (u:U):List UInt8:=aZ.ug (strOf u.usr) (strOf u.MX) (strOf u.hst) u.hh u.port u.opq u.aO
def pX (u:U):List UInt8:=KU u++aZ.pF u.opq (strOf u.txt) u.aO
def Bl (u:U):List UInt8:=aZ.wH (strOf u.au) (strOf u.usr) (strOf u.MX) (strOf u.hst) u.hh u.port u.opq (strOf u.txt) u.aO u.hq (strOf u.dY)
def fQ (u:U):List UInt8:=aZ.Ar (strOf u.au) (strOf u.usr) (strOf u.MX) (strOf u.hst) u.hh u.port u.opq (strOf u.txt) u.aO u.hq u.hf (strOf u.dY) (strOf u.fB)
theorem yD (u:U):Bl u=u.au++[58]++KU u++aZ.pF u.opq (strOf u.txt) u.aO++(if u.hq then 63::u.dY else[]):=rfl
theorem Ll (u:U):fQ u=Bl u++(if u.hf then 35::u.fB else[]):=rfl
def HC (c:UInt8):Prop:=c≠47∧c≠92∧c≠64∧c≠63∧c≠35∧33≤c.toNat∧c.toNat≤126
instance (c:UInt8):Decidable (HC c):=by unfold HC;exact inferInstance
theorem isD_hc (c:UInt8) (h:lH 16 c=true):HC c∧c≠91∧c≠93:=
 dn (p:=fun c=>lH 16 c=true→HC c∧c≠91∧c≠93) (by decide+kernel) c h
theorem amj {x:UInt8} {L:List Nat} (hL:∀n ∈ L,n<65536) (h:x ∈ jx L):HC x∧x≠91∧x≠93:=by
 unfold jx at h
 rcases KP _ h with rfl|⟨v,hv,hx⟩
 ·decide
 obtain⟨n,hn,rfl⟩:=List.mem_map.1 hv
 exact isD_hc x (List.all_eq_true.1 (IZ n n (Nat.le_refl _) (hL n hn)).1 x hx)
theorem aeh {x:UInt8} {f:Nat→Nat} (h6:∀i,f i<65536) (h:x ∈ nP.prt f):HC x∧x≠91∧x≠93:=by
 have hV:=nP.W9 h6
 unfold nP.prt at h
 split at h
 ·exact amj hV h
 simp only[List.mem_append,List.mem_cons,List.not_mem_nil,or_false]at h
 rcases h with(h|rfl|rfl)|h
 ·exact amj (fun n hn=>hV n (List.mem_of_mem_take hn)) h
 ·decide
 ·decide
 exact amj (fun n hn=>hV n (List.mem_of_mem_drop hn)) h
theorem Qs (D:List UInt8) (i:Bool):∀L:List UInt8,(∀c ∈ L,c≠91∧c≠93∧(i=true∨c≠58))→hap i (L++D)=(L++(hap i D).1,(hap i D).2.1,(hap i D).2.2)
 |[],_=>rfl
 |c::L,h=>by
  obtain⟨h1,h2,h3⟩:=h c (by simp)
  have hn:¬(c=58∧i=false):=by
   rintro⟨e1,e2⟩
   rcases h3 with h3|h3
   ·rw[h3]at e2;cases e2
   ·exact h3 e1
  rw[List.cons_append,hap,if_neg hn,if_neg h1,if_neg h2,Qs D i L fun d hd=>h d (by simp[hd])]
  rfl
theorem fbd_hc (sp:Bool) (c:UInt8) (h:JU sp c=false) (h1:33≤c.toNat) (h2:c.toNat≤126):HC c∧c≠91∧c≠93∧c≠58∧c≠124:=
 dn (p:=fun c=>∀sp:Bool,JU sp c=false→33≤c.toNat→c.toNat≤126→HC c∧c≠91∧c≠93∧c≠58∧c≠124) (by decide+kernel) c sp h h1 h2
theorem qB {sp:Bool} {R:List UInt8} (hg:J5.Good sp R):(∀c ∈ R,HC c)∧(∀D,hap false (R++D)=(R++(hap false D).1,(hap false D).2.1,(hap false D).2.2))∧drv R=false:=by
 obtain⟨h,hr,hf⟩:=hg
 by_cases PL:R.head?=some 91
 ·unfold hst at h
  rw[if_pos PL]at h
  unfold hbr at h
  split at h
  ·unfold addr at h
   split at h
   ·cases h
   rename_i V hv
   injection h with h
   obtain⟨f,rfl,h6⟩:=Yw hv
   rw[Ov]at h
   rw[←h]
   refine⟨?_,fun D=>?_,?_⟩
   ·intro c hc
    simp only[List.mem_cons,List.mem_append,List.not_mem_nil,or_false]at hc
    rcases hc with rfl|hc|rfl
    ·decide
    ·exact(aeh h6 hc).1
    decide
   ·rw[List.cons_append,hap,if_neg (by decide),if_pos rfl,List.append_assoc,Qs _ true _ fun c hc=>⟨(aeh h6 hc).2.1,(aeh h6 hc).2.2,.inl rfl⟩,List.singleton_append,hap,if_neg (by decide),if_neg (by decide),if_pos rfl]
    simp
   cases hp:nP.prt f with
   |nil=>rfl
   |cons a t=>
    cases t with
    |nil=>rfl
    |cons b t=>rfl
  cases h
 have hc:=fun c hc=>fbd_hc sp c (hf PL c hc) (hr c hc).1 (hr c hc).2
 refine⟨fun c h=>(hc c h).1,fun D=>Qs D false R fun c h=>⟨(hc c h).2.1,(hc c h).2.2.1,.inr (hc c h).2.2.2.1⟩,?_⟩
 match R,hc with
 |[],_=>rfl
 |[_],_=>rfl
 |[x,y],hc=>
  have hy:=hc y (by simp)
  simp[drv,hy.2.2.2.1,hy.2.2.2.2]
 |_::_::_::_,_=>rfl
theorem upto_at (sp:Bool) (P:List UInt8) (hP:P=[]∨∃t,P=47::t):∀X:List UInt8,(∀c ∈ X,gB sp c=false)→upto sp (X++P)=X.length
 |[],_=>by
  rcases hP with rfl|⟨t,rfl⟩
  ·rfl
  ·rw[List.nil_append,upto,if_pos (by cases sp<;>rfl)];rfl
 |c::X,h=>by
  rw[List.cons_append,upto,h c (by simp),if_neg (by decide),upto_at sp P hP X fun d hd=>h d (by simp[hd])]
  rfl
theorem EK (sp:Bool) (c:UInt8) (h1:c≠47) (h2:c≠92):gB sp c=false:=by
 unfold gB
 simp[h1,h2]
theorem aa3:∀(N n:Nat),n≤N→n≤65535→FH (Lib.decDigits n)=n∧(Lib.decDigits n).all Fz=true∧Lib.decDigits n≠[]
 | N, n, hN, h => by
  rw[Lib.decDigits]
  have hd:∀k:Fin 10,FH [UInt8.ofNat (48+k.val)]=k.val∧Fz (UInt8.ofNat (48+k.val))=true∧(UInt8.ofNat (48+k.val)).toNat - 48=k.val:=by decide+kernel
  split
  ·rename_i h1
   have:=hd ⟨n,h1⟩
   exact⟨this.1,by simpa using this.2.1,by simp⟩
  ·have h2:n / 10<n:=by omega
   cases N with
   |zero=>omega
   |succ N=>
    obtain⟨a,b,_⟩:=aa3 N (n / 10) (by omega) (by omega)
    have:=hd ⟨n%10,Nat.mod_lt _ (by decide)⟩
    simp only at this
    refine⟨?_,?_,by simp⟩
    ·rw[tN.Lj,a,this.2.2]
     omega
    ·rw[List.all_append,b]
     simpa using this.2.1
theorem dgt_hc (c:UInt8) (h:Fz c=true):HC c:=dn (p:=fun c=>Fz c=true→HC c) (by decide+kernel) c h
theorem VU {au:List UInt8} {z:Int} (h:z= -1∨(0≤z∧z≤65535∧z≠portOf au)):prt au (hap false (aZ.kK z)).2.1=some z∧(hap false (aZ.kK z)).1=[]∧(∀c ∈ aZ.kK z,HC c)∧((hap false (aZ.kK z)).2.2=true→z≠-1):=by
 rcases h with rfl|⟨h0,h1,h2⟩
 ·refine⟨rfl,rfl,fun c hc=>(by cases hc),fun e=>(by cases e)⟩
 have hz:z≠-1:=by omega
 obtain⟨n,rfl⟩:∃n:Nat,z=(n:Int):=⟨z.toNat,by omega⟩
 obtain⟨a,b,c⟩:=aa3 n n (Nat.le_refl _) (by omega)
 have e:aZ.kK (n:Int)=58::Lib.decDigits n:=by
  unfold aZ.kK Lib.itoa
  rw[if_neg hz,if_neg (by omega)]
  rfl
 rw[e,hap,if_pos ⟨rfl,rfl⟩]
 refine⟨?_,rfl,fun d hd=>?_,fun _=>hz⟩
 ·simp only
  rw[tN.abb au _ c b,a,if_neg h2,if_pos (by omega)]
 rcases List.mem_cons.1 hd with rfl|hd
 ·decide
 exact dgt_hc d (List.all_eq_true.1 b d hd)
theorem out5 (c:UInt8) (h:ji 5 c.toNat=false):HC c∧c≠58:=dn (p:=fun c=>ji 5 c.toNat=false→HC c∧c≠58) (by decide+kernel) c h
theorem adg (u:U) (h1:∀c ∈ u.usr,ji 5 c.toNat=false) (h2:∀c ∈ u.MX,ji 5 c.toNat=false) (W:List UInt8) (hW:∀c ∈ W,c≠64):∃b,jL (Dh u++W)=(u.usr,u.MX,W,b)∧(b=true→¬(u.usr=[]∧u.MX=[])):=by
 have e1:FM.enc 5 u.usr=u.usr:=Hz.lV 5 _ h1
 have e2:FM.enc 5 u.MX=u.MX:=Hz.lV 5 _ h2
 have hu:(strOf u.usr).data.toList=u.usr:=rfl
 have hp:(strOf u.MX).data.toList=u.MX:=rfl
 unfold Dh aZ.lD
 rw[hu,hp]
 by_cases p0:u.MX=[]
 ·by_cases u0:u.usr=[]
  ·rw[if_pos p0,if_pos u0,List.nil_append]
   refine⟨false,?_,fun e=>by cases e⟩
   unfold jL
   rw[(tN.wR W).2 hW,u0,p0]
  rw[if_pos p0,if_neg u0,List.append_assoc,List.singleton_append]
  refine⟨true,?_,fun _ e=>u0 e.1⟩
  unfold jL
  rw[tN.GL u.usr W hW]
  simp only
  rw[iP 58 u.usr fun c hc=>(out5 c (h1 c hc)).2,p0]
  simp only
  rw[e1]
  rfl
 rw[if_neg p0,List.append_assoc,List.singleton_append]
 refine⟨true,?_,fun _ e=>p0 e.2⟩
 unfold jL
 rw[tN.GL _ W hW]
 simp only
 rw[List.append_assoc,List.singleton_append,kW 58 u.usr u.MX fun c hc=>(out5 c (h1 c hc)).2]
 simp only
 rw[e1,e2]
theorem Xz (u:U) (h1:∀c ∈ u.usr,ji 5 c.toNat=false) (h2:∀c ∈ u.MX,ji 5 c.toNat=false):∀c ∈ Dh u,c≠47∧c≠92∧c≠63∧c≠35∧33≤c.toNat∧c.toNat≤126:=by
 have k1:=fun c hc=>(out5 c (h1 c hc)).1
 have k2:=fun c hc=>(out5 c (h2 c hc)).1
 have hu:(strOf u.usr).data.toList=u.usr:=rfl
 have hp:(strOf u.MX).data.toList=u.MX:=rfl
 have H:∀c,HC c→c≠47∧c≠92∧c≠63∧c≠35∧33≤c.toNat∧c.toNat≤126:=fun c h=>⟨h.1,h.2.1,h.2.2.2.1,h.2.2.2.2.1,h.2.2.2.2.2⟩
 intro c hc
 unfold Dh aZ.lD at hc
 rw[hu,hp]at hc
 split at hc
 ·split at hc
  ·cases hc
  simp only[List.mem_append,List.mem_singleton]at hc
  rcases hc with hc|rfl
  ·exact H c (k1 c hc)
  decide
 simp only[List.mem_append,List.mem_singleton]at hc
 rcases hc with((hc|rfl)|hc)|rfl
 ·exact H c (k1 c hc)
 ·decide
 ·exact H c (k2 c hc)
 decide
theorem yY (x:ByteArray):∀r:List ByteArray,aZ.aO (x::r)=47::joinL ((x::r).map (·.data.toList))
 |[]=>by simp[aZ.aO,joinL]
 |y::r=>by
  have ih:=yY y r
  have e:aZ.aO (x::y::r)=(47::x.data.toList)++aZ.aO (y::r):=rfl
  rw[e,ih]
  rfl
theorem SN {au:List UInt8} {x:ByteArray} {r:List ByteArray} (h:kQ au (x::r)):walk au [] (joinL ((x::r).map (·.data.toList)))=x::r:=by
 have h0:=(h 0 (by simp)).1
 have e:(decide (au=FILE)&&decide ((0:Nat)=0))=(decide (au=FILE)&&([]:List ByteArray).isEmpty):=by cases decide (au=FILE)<;>rfl
 rw[e]at h0
 have:=aev (decide (au=FILE)) (special au) (r.map (·.data.toList)) [] x.data.toList h0 (fun z hz=>by
  obtain⟨s,hs,rfl⟩:=List.mem_map.1 hz
  obtain⟨i,hi,rfl⟩:=List.getElem_of_mem hs
  have:=(h (i+1) (by simpa using hi)).1
  simpa using this)
 unfold walk
 rw[List.map_cons,this,List.nil_append]
 exact aaM (x::r)
theorem Az {au:List UInt8} {l:List ByteArray} (h:kQ au l) (hn:l≠[]∨special au=false):rooted au (aZ.aO l)=l:=by
 cases l with
 |nil=>
  rcases hn with hn|hn
  ·exact absurd rfl hn
  unfold rooted
  rw[if_pos ⟨rfl,hn⟩]
 |cons x r=>
  rw[yY]
  unfold rooted
  rw[if_neg (fun e=>by cases e.1)]
  have e:rU (special au) (47::joinL ((x::r).map (·.data.toList))) 0=true:=by
   show gB (special au) 47=true
   cases special au<;>rfl
  rw[if_pos e,List.drop_one,List.tail_cons]
  exact SN h
theorem abe (l:List ByteArray):aZ.aO l=[]∨∃t,aZ.aO l=47::t:=by
 cases l with
 |nil=>exact .inl rfl
 |cons x r=>exact .inr ⟨_,yY x r⟩
theorem take_len {A B:List UInt8}:(A++B).take A.length=A∧(A++B).drop A.length=B:=by simp
theorem Bj {u:U} (h:Ok u) (hh:u.hh=true) (ho:u.opq=false):authority u.au (Dh u++u.hst++aZ.kK u.port++aZ.aO u.aO)=(if u.hst=[]∧special u.au=true then none else some {U0 with au:=u.au,usr:=u.usr,MX:=u.MX,hst:=u.hst,hh:=true,port:=u.port,aO:=u.aO}):=by
 obtain⟨q1,q2,q3,q4⟩:=VU (au:=u.au) h.port
 have hcr:=Xz u h.usr h.MX
 have hH:(∀c ∈ u.hst,HC c)∧(∀D,hap false (u.hst++D)=(u.hst++(hap false D).1,(hap false D).2.1,(hap false D).2.2)):=by
  rcases h.host hh with⟨e,_⟩|⟨_,hg⟩
  ·rw[e];exact⟨fun c hc=>(by cases hc),fun D=>rfl⟩
  exact⟨(qB hg).1,(qB hg).2.1⟩
 have hup:upto (special u.au) (Dh u++u.hst++aZ.kK u.port++aZ.aO u.aO)=(Dh u++u.hst++aZ.kK u.port).length:=by
  refine upto_at _ _ (abe _) _ fun c hc=>?_
  simp only[List.mem_append]at hc
  rcases hc with(hc|hc)|hc
  ·exact EK _ _ (hcr c hc).1 (hcr c hc).2.1
  ·exact EK _ _ (hH.1 c hc).1 (hH.1 c hc).2.1
  exact EK _ _ (q3 c hc).1 (q3 c hc).2.1
 obtain⟨b,hb1,hb2⟩:=adg u h.usr h.MX (u.hst++aZ.kK u.port) fun c hc=>by
  rcases List.mem_append.1 hc with hc|hc
  ·exact(hH.1 c hc).2.2.1
  exact(q3 c hc).2.2.1
 obtain⟨FQ,_,hne⟩:=h.path ho
 have hro:rooted u.au (aZ.aO u.aO)=u.aO:=Az FQ (by
  cases hs:special u.au
  ·exact .inr rfl
  exact .inl (hne (.inr hs)))
 unfold authority
 rw[hup]
 simp only[take_len.1,take_len.2]
 rw[List.append_assoc,hb1]
 simp only
 rw[hH.2,q2,List.append_nil,hro]
 simp only
 rw[q1]
 rcases h.host hh with⟨e,e1,e2,e3,e4⟩|⟨hne2,hg⟩
 ·have b0:b=false:=by
   cases hb:b
   ·rfl
   exact absurd ⟨e1,e2⟩ (hb2 hb)
  have p0:(hap false (aZ.kK u.port)).2.2=false:=by
   cases hp:(hap false (aZ.kK u.port)).2.2
   ·rfl
   exact absurd e3 (q4 hp)
  rw[b0,p0,if_neg (fun e=>by cases e.1),if_neg (fun e=>by cases e.1),e]
  cases hs:special u.au
  ·rw[if_neg (fun e=>by cases e.2)]
   rfl
  rw[if_pos ⟨rfl,rfl⟩]
  rfl
 rw[if_neg (fun e=>hne2 (List.append_eq_nil_iff.1 e.2).1),if_neg (fun e=>hne2 e.2),if_neg (fun e=>hne2 e.1),hg.1]
theorem ext {u v:U} (h0:u.au=v.au) (h1:u.usr=v.usr) (h2:u.MX=v.MX) (h3:u.hst=v.hst) (h4:u.hh=v.hh) (h5:u.port=v.port) (h6:u.opq=v.opq) (h7:u.txt=v.txt) (h8:u.aO=v.aO) (h9:u.hq=v.hq) (h10:u.hf=v.hf) (h11:u.dY=v.dY) (h12:u.fB=v.fB):u=v:=by
 cases u;cases v;simp_all
def wI (u:U):U:={u with hq:=false,hf:=false,dY:=[],fB:=[]}
theorem aht {u:U} (h:Ok u) (hs:u.au=FILE):far (u.hst++aZ.aO u.aO)=some (wI u):=by
 obtain⟨f1,f2,f3,f4⟩:=h.file hs
 have hsp:special u.au=true:=by rw[hs];exact ny.2.2
 have hh:=h.spec hsp
 have ho:=I9 h hsp
 obtain⟨FQ,htx,hne⟩:=h.path ho
 have hro:rooted u.au (aZ.aO u.aO)=u.aO:=Az FQ (.inl (hne (.inr hsp)))
 rw[hs]at hro
 have hg:(∀c ∈ u.hst,HC c)∧drv u.hst=false∧(u.hst=[]∨(u.hst≠[]∧hst u.hst true=some u.hst)):=by
  rcases h.host hh with⟨e,_⟩|⟨hn,hg⟩
  ·rw[e];exact⟨fun c hc=>(by cases hc),rfl,.inl rfl⟩
  have:=hg.1
  rw[hsp]at this
  exact⟨(qB hg).1,(qB hg).2.2,.inr ⟨hn,this⟩⟩
 have hup:upto true (u.hst++aZ.aO u.aO)=u.hst.length:=upto_at _ _ (abe _) _ fun c hc=>EK _ _ (hg.1 c hc).1 (hg.1 c hc).2.1
 unfold far
 rw[hup,take_len.1,take_len.2,hg.2.1,if_neg (by decide),hro]
 rcases hg.2.2 with e|⟨hn,e⟩
 ·rw[if_pos e]
  congr 1
  exact ext hs.symm f1.symm f2.symm e.symm hh.symm f3.symm ho.symm htx.symm rfl rfl rfl rfl rfl
 rw[if_neg hn,e]
 simp only
 rw[if_neg f4]
 congr 1
 exact ext hs.symm f1.symm f2.symm rfl hh.symm f3.symm ho.symm htx.symm rfl rfl rfl rfl rfl
theorem afx {c:UInt8} {t:List UInt8} (h:c≠47∧c≠92):(c::t).dropWhile (gB true)=c::t:=by
 rw[List.dropWhile_cons_of_neg (by rw[EK true c h.1 h.2];simp)]
theorem sch_ne {u:U} (h:Ok u):u.au≠[]:=by
 intro e
 have:=h.au
 rw[e]at this
 cases this
theorem Uk {u:U} (h:Ok u) (q f:List UInt8) (hq hf:Bool):wS.resolve ⟨u.au,pX u,q,f,hq,hf⟩ none=some (wI u):=by
 have hsn:=sch_ne h
 unfold pX KU aZ.ug aZ.pF
 have hhs:(strOf u.hst).data.toList=u.hst:=rfl
 have hts:(strOf u.txt).data.toList=u.txt:=rfl
 rw[hhs,hts]
 unfold wS.resolve
 simp only
 by_cases Vl:u.au=FILE
 ·obtain⟨f1,f2,f3,f4⟩:=h.file Vl
  have hsp:special u.au=true:=by rw[Vl];exact ny.2.2
  have hh:=h.spec hsp
  have ho:=I9 h hsp
  have hfa:=aht h Vl
  have hcr:aZ.lD (strOf u.usr) (strOf u.MX)=[]:=by rw[f1,f2];rfl
  rw[if_pos Vl,hh,ho,if_pos rfl,if_neg (by decide),hcr,f3,show aZ.kK (-1)=[]from rfl]
  simp only[List.append_nil,List.cons_append,List.nil_append]
  unfold wS.file
  rw[if_pos ⟨rfl,rfl⟩]
  exact hfa
 rw[if_neg Vl]
 by_cases hsp:special u.au=true
 ·have hh:=h.spec hsp
  have ho:=I9 h hsp
  have hau:=Bj h hh ho
  have hst0:u.hst≠[]:=by
   rcases h.host hh with⟨_,_,_,_,e⟩|⟨e,_⟩
   ·rcases e with e|e
    ·rw[hsp]at e;cases e
    exact absurd e Vl
   exact e
  rw[if_neg (fun e=>hst0 e.1)]at hau
  rw[if_pos hsp,hh,ho,if_pos rfl,if_neg (by decide)]
  have hd:([47,47]++aZ.lD (strOf u.usr) (strOf u.MX)++u.hst++aZ.kK u.port++aZ.aO u.aO).dropWhile (gB true)=Dh u++u.hst++aZ.kK u.port++aZ.aO u.aO:=by
   have hcr:=Xz u h.usr h.MX
   have hH:∀c ∈ u.hst,HC c:=by
    rcases h.host hh with⟨e,_⟩|⟨_,hg⟩
    ·exact absurd e hst0
    exact(qB hg).1
   show((47:UInt8)::47::(Dh u++u.hst++aZ.kK u.port++aZ.aO u.aO)).dropWhile (gB true)=_
   rw[List.dropWhile_cons_of_pos rfl,List.dropWhile_cons_of_pos rfl]
   cases hc:Dh u with
   |cons c t=>exact afx ⟨(hcr c (by rw[hc];simp)).1,(hcr c (by rw[hc];simp)).2.1⟩
   |nil=>
    cases hx:u.hst with
    |nil=>exact absurd hx hst0
    |cons c t=>exact afx ⟨(hH c (by rw[hx];simp)).1,(hH c (by rw[hx];simp)).2.1⟩
  rw[hd,hau]
  congr 1
  exact ext rfl rfl rfl rfl hh.symm rfl ho.symm (h.path ho).2.1.symm rfl rfl rfl rfl rfl
 have hsp':special u.au=false:=by simpa using hsp
 rw[if_neg hsp,if_pos hsn]
 unfold wS.plain
 simp only
 cases ho:u.opq with
 | true=>
  obtain⟨_,hh,hp,htx,h47,hsu⟩:=h.opq ho
  obtain⟨n1,n2,n3,n4⟩:=h.X0 hh
  have e0:FM.enc 0 u.txt=u.txt:=Hz.lV 0 _ fun c hc=>(htx c hc).1
  have hpr:∀M:List UInt8,Lib.hasPrefix u.txt (47::M)=false:=fun M=>by
   cases hx:u.txt with
   |nil=>rfl
   |cons c t=>
    rw[hx]at h47
    have hc:c≠47:=fun e=>h47 (by rw[e];rfl)
    show((47==c)&&_)=false
    rw[beq_eq_false_iff_ne.2 (fun e=>hc e.symm)]
    rfl
  rw[hh,show aZ.dotted true u.aO=false from rfl]
  simp only[Bool.false_eq_true,↓reduceIte,List.nil_append]
  rw[hpr,hpr]
  simp only[Bool.false_eq_true,↓reduceIte]
  have eo:wS.opq (hq||hf) u.txt=u.txt:=by
   unfold wS.opq
   rw[e0,hsu,if_neg (fun e=>by cases e.1)]
  rw[eo]
  congr 1
  exact ext rfl n1.symm n2.symm n4.symm hh.symm n3.symm ho.symm rfl hp.symm rfl rfl rfl rfl
 | false =>
  obtain⟨FQ,htx,hne⟩:=h.path ho
  cases hh:u.hh with
  |true=>
   have hau:=Bj h hh ho
   rw[if_neg (fun e=>hsp e.2)]at hau
   simp only[Bool.false_eq_true,↓reduceIte]
   have e:([47,47]++aZ.lD (strOf u.usr) (strOf u.MX)++u.hst++aZ.kK u.port++aZ.aO u.aO)=47::47::(Dh u++u.hst++aZ.kK u.port++aZ.aO u.aO):=rfl
   rw[e,if_pos (by simp[Lib.hasPrefix,List.isPrefixOf]),List.drop_succ_cons,List.drop_succ_cons,List.drop_zero,hau]
   congr 1
   exact ext rfl rfl rfl rfl hh.symm rfl ho.symm htx.symm rfl rfl rfl rfl rfl
  | false=>
   obtain⟨n1,n2,n3,n4⟩:=h.X0 hh
   have hn:=hne (.inl hh)
   simp only[Bool.false_eq_true,↓reduceIte]
   have hcore:∀R:List UInt8,Lib.hasPrefix R [47,47]=false→Lib.hasPrefix R [47]=true→rooted u.au R=u.aO→(if Lib.hasPrefix R [47,47]=true then authority u.au (R.drop 2)else if Lib.hasPrefix R [47]=true then some {U0 with au:=u.au,port:= -1,aO:=rooted u.au R}else some {U0 with au:=u.au,port:= -1,opq:=true,txt:=wS.opq (hq||hf) R})=some (wI u):=by
    intro R r1 r2 r3
    rw[r1,if_neg (by decide),r2,if_pos rfl,r3]
    congr 1
    exact ext rfl n1.symm n2.symm n4.symm hh.symm n3.symm ho.symm htx.symm rfl rfl rfl rfl rfl
   apply hcore
   all_goals
    cases hd:aZ.dotted false u.aO
   ·rw [if_neg (by decide),List.nil_append]
    cases hl:u.aO with
    |nil=>exact absurd hl hn
    | cons x r=>
     rw[yY]
     have hx:=(FQ 0 (by rw[hl];simp)).1.stops
     simp only[hl,List.getElem_cons_zero]at hx
     cases r with
     | nil=>
      simp only[List.map_cons,List.map_nil,joinL]
      cases hb:x.data.toList with
      |nil=>rfl
      |cons c t=>
       have:=hx c (by rw[hb];simp)
       have hc:c≠47:=by
        rintro rfl
        cases hs:special u.au<;>rw[hs]at this<;>cases this
       simp[Lib.hasPrefix,List.isPrefixOf,Ne.symm hc]
     | cons y r=>
      rw[hl]at hd
      simp only[List.map_cons,joinL]
      cases hb:x.data.toList with
      |nil=>
       unfold aZ.dotted at hd
       simp[hb]at hd
      |cons c t=>
       have:=hx c (by rw[hb];simp)
       have hc:c≠47:=by
        rintro rfl
        cases hs:special u.au<;>rw[hs]at this<;>cases this
       simp[Lib.hasPrefix,List.isPrefixOf,Ne.symm hc]
   ·rw[if_pos rfl]
    rfl
   ·rw[if_neg (by decide),List.nil_append]
    cases hl:u.aO with
    |nil=>exact absurd hl hn
    |cons x r=>rw[yY];rfl
   ·rw[if_pos rfl]
    rfl
   ·rw[if_neg (by decide),List.nil_append]
    exact Az FQ (.inl hn)
   rw[if_pos rfl]
   cases hl:u.aO with
   |nil=>exact absurd hl hn
   |cons x r=>
    rw[hl]at FQ
    rw[yY]
    unfold rooted
    rw[if_neg (fun e=>by cases e.1),hsp',if_pos (by rfl)]
    have e1:(([47,46]:List UInt8)++47::joinL ((x::r).map fun y:ByteArray=>y.data.toList)).drop 1=[46]++47::joinL ((x::r).map fun y:ByteArray=>y.data.toList):=rfl
    have e2:=SN FQ
    rw[e1]
    unfold walk at e2⊢
    rw[hsp']at e2⊢
    rw[OE _ _ _ [46] [] _ (by decide),List.nil_append,wb,if_pos (show gB false 47=true from rfl)]
    have e3:Hu (decide (u.au=FILE)) false [] [46]=[]:=by
     rw[agr _ _ _ _ (by decide+kernel) (by decide+kernel)]
     rfl
    rw[e3]
    exact e2
theorem aiG (c:UInt8) (h:ji 4 c.toNat=false):c≠63∧c≠35∧33≤c.toNat∧c.toNat≤126:=dn (p:=fun c=>ji 4 c.toNat=false→c≠63∧c≠35∧33≤c.toNat∧c.toNat≤126) (by decide+kernel) c h
theorem ain {au:List UInt8} {l:List ByteArray} (h:kQ au l):∀c ∈ aZ.aO l,c≠63∧c≠35∧33≤c.toNat∧c.toNat≤126:=by
 intro c hc
 unfold aZ.aO at hc
 obtain⟨s,hs,hm⟩:=List.mem_flatMap.1 hc
 obtain⟨i,hi,rfl⟩:=List.getElem_of_mem hs
 rcases List.mem_cons.1 hm with rfl|hm
 ·decide
 exact aiG c ((h i hi).2 c hm)
theorem aiS (c:UInt8) (h:ji 0 c.toNat=false):32≤c.toNat∧c.toNat≤126:=dn (p:=fun c=>ji 0 c.toNat=false→32≤c.toNat∧c.toNat≤126) (by decide+kernel) c h
theorem Rt {u:U} (h:Ok u):(∀c ∈ pX u,c≠63∧c≠35∧32≤c.toNat∧c.toNat≤126)∧Lib.hasSuffix (pX u) [32]=false:=by
 have hhs:(strOf u.hst).data.toList=u.hst:=rfl
 have hts:(strOf u.txt).data.toList=u.txt:=rfl
 cases ho:u.opq with
 |true=>
  obtain⟨_,hh,hp,htx,h47,hsu⟩:=h.opq ho
  have e:pX u=u.txt:=by
   unfold pX KU aZ.ug aZ.pF
   rw[hh,ho]
   rfl
  rw[e]
  exact⟨fun c hc=>⟨(htx c hc).2.1,(htx c hc).2.2,aiS c (htx c hc).1⟩,hsu⟩
 | false=>
  obtain⟨FQ,htx,hne⟩:=h.path ho
  have hp:=ain FQ
  have hall : ∀ c ∈ pX u, c ≠ 63 ∧ c ≠ 35 ∧ 33 ≤ c.toNat ∧ c.toNat ≤ 126 := by
   intro c hc
   unfold pX KU aZ.ug aZ.pF at hc
   rw[ho,hhs,hts]at hc
   simp only[Bool.false_eq_true,↓reduceIte]at hc
   rcases List.mem_append.1 hc with hc|hc
   ·split at hc
    ·rename_i hh
     simp only[List.mem_append]at hc
     rcases hc with((hc|hc)|hc)|hc
     ·simp only[List.mem_cons,List.not_mem_nil,or_false,or_self]at hc
      rw[hc];decide
     ·have:=Xz u h.usr h.MX c hc
      exact⟨this.2.2.1,this.2.2.2.1,this.2.2.2.2⟩
     ·rcases h.host hh with⟨e,_⟩|⟨_,hg⟩
      ·rw[e]at hc;cases hc
      have:=(qB hg).1 c hc
      exact⟨this.2.2.2.1,this.2.2.2.2.1,this.2.2.2.2.2⟩
     have:=(VU (au:=u.au) h.port).2.2.1 c hc
     exact⟨this.2.2.2.1,this.2.2.2.2.1,this.2.2.2.2.2⟩
    split at hc
    ·simp only[List.mem_cons,List.not_mem_nil,or_false]at hc
     rcases hc with rfl|rfl<;>decide
    cases hc
   exact hp c hc
  refine⟨fun c hc=>⟨(hall c hc).1,(hall c hc).2.1,by have:=(hall c hc).2.2.1;omega,(hall c hc).2.2.2⟩,?_⟩
  cases hx:Lib.hasSuffix (pX u) [32]
  ·rfl
  have:=(hall 32 (RX hx)).2.2.1
  revert this
  decide
theorem V4 {s:List UInt8} (h:lI s=true):(∃c t,s=c::t∧fO c=false)∧∀c ∈ s,c≠58∧c≠63∧c≠35∧33≤c.toNat∧c.toNat≤126:=by
 have H:=fun c=>dn (p:=fun c=>(letter c.toNat=true→fO c=false∧c≠58∧c≠63∧c≠35∧33≤c.toNat∧c.toNat≤126)∧(NT c=true→c≠58∧c≠63∧c≠35∧33≤c.toNat∧c.toNat≤126)) (by decide+kernel) c
 cases s with
 |nil=>cases h
 |cons c t=>
  unfold lI at h
  rw[Bool.and_eq_true]at h
  refine⟨⟨c,t,rfl,((H c).1 h.1).1⟩,fun d hd=>?_⟩
  rcases List.mem_cons.1 hd with rfl|hd
  ·exact((H d).1 h.1).2
  exact(H d).2 (List.all_eq_true.1 h.2 d hd)
theorem abh (c:UInt8):(∀sp:Bool,ji (if sp=true then 3 else 2) c.toNat=false→c≠35∧33≤c.toNat∧c.toNat≤126)∧(ji 1 c.toNat=false→33≤c.toNat∧c.toNat≤126):=
 dn (p:=fun c=>(∀sp:Bool,ji (if sp=true then 3 else 2) c.toNat=false→c≠35∧33≤c.toNat∧c.toNat≤126)∧(ji 1 c.toNat=false→33≤c.toNat∧c.toNat≤126)) (by decide+kernel) c
theorem Dc {T:List UInt8} (h:∀c ∈ T,32≤c.toNat∧c.toNat≤126) (h1:∃c t,T=c::t∧fO c=false) (h2:Lib.hasSuffix T [32]=false):clean T=T:=by
 have e:ED T=T:=oL T fun c hc=>by have:=(h c hc).2;omega
 have et:ru T=T:=by
  obtain⟨c,t,rfl,hc⟩:=h1
  unfold ru
  rw[List.dropWhile_cons_of_neg (by rw[hc];simp)]
  rcases jC (c::t)with hx|⟨M,d,hx⟩
  ·cases hx
  rw[hx]at h h2⊢
  rw[eP,decide_eq_false_iff_not]at h2
  have hd:fO d=false:=by
   have:=(h d (by simp)).1
   unfold fO
   rw[decide_eq_false_iff_not]
   intro h3
   exact h2 (UInt8.toNat_inj.1 (by show d.toNat=32;omega))
  rw[List.reverse_append]
  show((d::M.reverse).dropWhile fO).reverse=_
  rw[List.dropWhile_cons_of_neg (by rw[hd];simp)]
  simp
 rw[rG,e,et,List.filter_eq_self.2 fun c hc=>?_]
 have:=(h c hc).1
 unfold brk
 have h9:c≠9:=by rintro rfl;revert this;decide
 have h10:c≠10:=by rintro rfl;revert this;decide
 have h13:c≠13:=by rintro rfl;revert this;decide
 simp[h9,h10,h13]
theorem zy {u:U} (h:Ok u):wS.url (fQ u) none=some u:=by
 obtain⟨hr,hrs⟩:=Rt h
 obtain⟨hs1,hs2⟩:=V4 h.au
 have hq:=fun c hc=>(abh c).1 (special u.au) (h.dY c hc)
 have hf:=fun c hc=>(abh c).2 (h.fB c hc)
 obtain⟨A,hA⟩:∃A,A=u.au++58::pX u:=⟨_,rfl⟩
 obtain⟨B,hB⟩:∃B,B=A++(if u.hq then 63::u.dY else[]):=⟨_,rfl⟩
 have hT:fQ u=B++(if u.hf then 35::u.fB else[]):=by
  rw[Ll,yD,hB,hA]
  unfold pX
  simp
 have hAc:∀c ∈ A,c≠63∧c≠35∧32≤c.toNat∧c.toNat≤126:=by
  intro c hc
  rw[hA]at hc
  simp only[List.mem_append,List.mem_cons]at hc
  rcases hc with hc|rfl|hc
  ·have:=hs2 c hc
   exact⟨this.2.1,this.2.2.1,by omega,this.2.2.2.2⟩
  ·decide
  exact hr c hc
 have hBc:∀c ∈ B,c≠35∧32≤c.toNat∧c.toNat≤126:=by
  intro c hc
  rw[hB]at hc
  rcases List.mem_append.1 hc with hc|hc
  ·exact(hAc c hc).2
  split at hc
  ·rcases List.mem_cons.1 hc with rfl|hc
   ·decide
   have:=hq c hc
   exact⟨this.1,by omega,this.2.2⟩
  cases hc
 have hTc:∀c ∈ fQ u,32≤c.toNat∧c.toNat≤126:=by
  intro c hc
  rw[hT]at hc
  rcases List.mem_append.1 hc with hc|hc
  ·exact(hBc c hc).2
  split at hc
  ·rcases List.mem_cons.1 hc with rfl|hc
   ·decide
   have:=hf c hc
   exact⟨by omega,this.2⟩
  cases hc
 have suf:∀(X:List UInt8) (k:UInt8) (Y:List UInt8),k≠32→(∀c ∈ Y,c≠32)→Lib.hasSuffix (X++k::Y) [32]=false:=by
  intro X k Y hk hY
  rcases jC (k::Y)with e|⟨M,d,e⟩
  ·cases e
  rw[e,←List.append_assoc,eP,decide_eq_false_iff_not]
  have:d ∈ k::Y:=by rw[e];simp
  rcases List.mem_cons.1 this with rfl|hd
  ·exact hk
  exact hY d hd
 have hAs:Lib.hasSuffix A [32]=false:=by
  rw[hA]
  rcases jC (pX u)with e|⟨M,d,e⟩
  ·rw[e];exact suf _ _ _ (by decide) (fun c hc=>by cases hc)
  rw[e,eP]at hrs
  rw[e,show u.au++58::(M++[d])=(u.au++58::M)++[d]from by simp,eP]
  exact hrs
 have hBs:Lib.hasSuffix B [32]=false:=by
  rw[hB]
  split
  ·exact suf _ _ _ (by decide) fun c hc e=>by
    have:=(hq c hc).2.1
    rw[e]at this
    revert this
    decide
  rw[List.append_nil];exact hAs
 have hTs:Lib.hasSuffix (fQ u) [32]=false:=by
  rw[hT]
  split
  ·exact suf _ _ _ (by decide) fun c hc e=>by
    have:=(hf c hc).1
    rw[e]at this
    revert this
    decide
  rw[List.append_nil];exact hBs
 have hT1:∃c t,fQ u=c::t∧fO c=false:=by
  obtain⟨c,t,e,hc⟩:=hs1
  exact⟨c,_,by rw[hT,hB,hA,e];rfl,hc⟩
 have hcl:=Dc hTc hT1 hTs
 have c35:fG 35 (fQ u)=(B,u.fB,u.hf):=by
  rw[hT]
  cases hx:u.hf with
  |true=>rw[if_pos rfl];exact kW 35 B u.fB fun c hc=>(hBc c hc).1
  |false=>rw[if_neg (by decide),List.append_nil,h.nof hx];exact iP 35 B fun c hc=>(hBc c hc).1
 have c63:fG 63 B=(A,u.dY,u.hq):=by
  rw[hB]
  cases hx:u.hq with
  |true=>rw[if_pos rfl];exact kW 63 A u.dY fun c hc=>(hAc c hc).1
  |false=>rw[if_neg (by decide),List.append_nil,h.noq hx];exact iP 63 A fun c hc=>(hAc c hc).1
 have c58:fG 58 A=(u.au,pX u,true):=by
  rw[hA]
  exact kW 58 u.au _ fun c hc=>(hs2 c hc).1
 have hap:wS.apart (fQ u)=⟨u.au,pX u,u.dY,u.fB,u.hq,u.hf⟩:=by
  unfold wS.apart
  simp only
  rw[c35]
  simp only
  rw[c63]
  simp only
  rw[c58]
  simp only
  rw[h.au,if_pos (by rfl),h.low]
 unfold wS.url
 rw[hcl,hap,Uk h,Option.map_some]
 congr 1
 have e1:FM.enc (if special u.au=true then 3 else 2) u.dY=u.dY:=Hz.lV _ _ h.dY
 have e2:FM.enc 1 u.fB=u.fB:=Hz.lV 1 _ h.fB
 have e3:FM.enc (if special (wI u).au=true then 3 else 2) u.dY=u.dY:=e1
 unfold wS.finish
 simp only
 rw[e2,e3]
 have n1:=h.noq
 have n2:=h.nof
 cases hx:u.hq<;>cases hy:u.hf
 ·exact ext rfl rfl rfl rfl rfl rfl rfl rfl rfl hx.symm hy.symm (n1 hx).symm (n2 hy).symm
 ·exact ext rfl rfl rfl rfl rfl rfl rfl rfl rfl hx.symm hy.symm (n1 hx).symm rfl
 ·exact ext rfl rfl rfl rfl rfl rfl rfl rfl rfl hx.symm hy.symm rfl (n2 hy).symm
 exact ext rfl rfl rfl rfl rfl rfl rfl rfl rfl hx.symm hy.symm rfl rfl
end Go.Proofs.YtgamccijegollaaGreatDoor.wo
namespace Go.Proofs.YtgamccijegollaaGreatDoor.UrlE
open Go.RowKit Base Dp aZ aco
theorem below_drewN' (w:World) (k:Nat):Below w.heap.size w (w.drewN k):=Base.below_drewN (Below.refl _ _) k
theorem str_ext {s t:ByteArray}:s.data.toList=t.data.toList↔s=t:=⟨fun h=>ext_str h,fun h=>by rw[h]⟩
theorem ait (A A2:Option Addr) (n n2 cap cap2:Nat) (l m:List ByteArray) (w:World) (hR:aY w A n (l.map Value.string)) (hR2:aY w A2 n2 (m.map Value.string)) (hc:n≤cap) (hm:cap≤maxLen) (hc2:n2≤cap2) (hm2:cap2≤maxLen):
  Calls Tryz.prog 40 #[.slice A n cap,.slice A2 n2 cap2] w fun e w'=>e=.returned (.bool (decide (l=m)))∧Below w.heap.size w w':=by
 unfold maxLen at hm hm2
 have hn:l.length=n:=by rw[←hR.1,List.length_map]
 have hn2:m.length=n2:=by rw[←hR2.1,List.length_map]
 have HN:=hid hn
 have xE:=hid hn2
 have HR:=hid hR
 have HR2:=hid hR2
 clear hR hR2 hn hn2
 by_cases he:n=n2
 ·obtain rfl:=he
  have q1:((n:Int)==(n:Int))=true:=by simp
  have q2:((n:Int) !=(n:Int))=false:=by simp
  go_enter Tryz.func40,Tryz.ntmps40
  go_wp2
  go_loopw [5,13] (fun _ vk wr=>∃k:Nat,k≤n∧vk=.int .i64 (k:Int)∧Hid (l.take k=m.take k)∧Hid (Below w.heap.size w wr)) (fun _ vk _=>n - (intOf vk).toNat)
  case atStart=>exact⟨0,Nat.zero_le _,rfl,rfl,Below.refl _ _⟩
  case round=>
   obtain⟨k,hk,rfl,HT,Z4⟩:=hrel
   by_cases hlt:k<n
   ·have hkl:k<l.length:=by rw[HN.out];exact hlt
    have hkm:k<m.length:=by rw[xE.out];exact hlt
    obtain⟨g,off,rfl,hg,hcell⟩:=(HR.out.below Z4.out).spot (by omega)
    obtain⟨g2,off2,rfl,hg2,hcell2⟩:=(HR2.out.below Z4.out).spot (by omega)
    have hc1:=hcell k (by rw[List.length_map];exact hkl)
    have hc3:=hcell2 k (by rw[List.length_map];exact hkm)
    rw[List.getElem_map]at hc1 hc3
    obtain⟨s,hs⟩:∃s,s=l[k]:=⟨_,rfl⟩
    obtain⟨t,ht⟩:∃t,t=m[k]:=⟨_,rfl⟩
    have HS:Hid (l.take (k+1)=l.take k++[s]):=by rw[hs];exact take_snoc l k hkl
    have HS2:Hid (m.take (k+1)=m.take k++[t]):=by rw[ht];exact take_snoc m k hkm
    have HX:Hid (s≠t→l≠m):=by
     intro h1 h2
     subst h2
     exact h1 (hs.trans ht.symm)
    rw[←hs]at hc1
    rw[←ht]at hc3
    clear hs ht hcell hcell2 hkl hkm
    have hb:=wK s t
    by_cases hst:s.data.toList=t.data.toList
    ·rw[decide_eq_true hst]at hb
     have HST:=hid (str_ext.1 hst)
     clear hst
     go_wp2_with fail
     go_quiet (fail)
     have hbq:=Z4.out.trans ((below_drewN' wr nq).mono Z4.out.size)
     generalize wr.drewN nq=wq at hbq⊢
     go_wp2
     go_roundw
     case rel=>exact⟨k+1,by omega,by go_num,by show _=_;rw[HS.out,HS2.out,HT.out,HST.out],hbq⟩
     case measure=>simp[intOf];omega
    ·rw[decide_eq_false hst]at hb
     have HE:Hid (decide (l=m)=false):=decide_eq_false (HX.out (fun h=>hst (by rw[h])))
     clear hst
     go_wp2_with fail
     go_quiet (fail)
     have hbq:=Z4.out.trans ((below_drewN' wr nq).mono Z4.out.size)
     generalize wr.drewN nq=wq at hbq⊢
     go_wp2
     go_ret
     exact⟨ak HE.out.symm,hbq⟩
   ·obtain rfl:k=n:=by omega
    have HE:Hid (decide (l=m)=true):=decide_eq_true (by
     have h:=HT.out
     rw[List.take_of_length_le (by rw[HN.out];exact Nat.le_refl _),List.take_of_length_le (by rw[xE.out];exact Nat.le_refl _)]at h
     exact h)
    go_wp2
    go_ret
    exact⟨ak HE.out.symm,Z4.out⟩
 ·have q1:((n:Int)==(n2:Int))=false:=by simp;omega
  have q2:((n:Int) !=(n2:Int))=true:=by simp;omega
  have HE:Hid (decide (l=m)=false):=decide_eq_false (fun h=>he (by rw[←HN.out,←xE.out,h]))
  clear he
  go_enter Tryz.func40,Tryz.ntmps40
  go_wp2
  go_ret
  exact⟨ak HE.out.symm,Below.refl _ _⟩
end Go.Proofs.YtgamccijegollaaGreatDoor.UrlE
namespace Go.Proofs.YtgamccijegollaaGreatDoor.Wx
open Go.RowKit Base Dp
theorem sizeB:(Tryz.prog.info? 168).map (·.size)=some 2:=by kernel_rfl
theorem liesB:liesAt Tryz.prog Tryz.prog.depth 168 (2 / Tryz.prog.cellsOf 168) 0 168 1=true:=by kernel_rfl
abbrev lq (B b:Nat) (l:List UInt8) (w:World):Prop:=Lib.IsBuilder 168 5 B b (Lib.byteCells l) w
theorem PY (b:Nat) (w:World) (h0:w.cell? ⟨b,0,none⟩=some (.pointer (some ⟨b,0,none⟩))):
  Calls Tryz.prog 209 #[.pointer (some ⟨b,0,none⟩)] w fun e w'=>e=.returned (.tuple #[])∧w'=w:=by
 obtain⟨j,hj,_⟩:=Option.map_eq_some_iff.1 sizeB
 go_enter Tryz.func209,Tryz.ntmps209
 go_wp2
 rw[Lib.run_neq_ptr_same w _ Tryz.underlying166 hj]
 go_wp2
 go_end0
 exact⟨rfl,rfl⟩
theorem MJ (b:Nat) (w:World) (h0:w.cell? ⟨b,0,none⟩=some (.pointer none)) (hsh:w.shape? b=some (168,2)) (hfz:w.frozen? ⟨b,0,none⟩=false):
  Calls Tryz.prog 209 #[.pointer (some ⟨b,0,none⟩)] w fun e w'=>e=.returned (.tuple #[])∧w'=w.setCell ⟨b,0,none⟩ (.pointer (some ⟨b,0,none⟩)):=by
 obtain⟨j,hj,hjs⟩:=Option.map_eq_some_iff.1 sizeB
 go_enter Tryz.func209,Tryz.ntmps209
 go_wp2
 rw[Lib.run_to_unsafe w ⟨b,0,none⟩ Tryz.underlying166 Tryz.underlying287 hj (by rw[hjs];decide) hsh (Nat.zero_lt_succ 1)]
 simp only[Result.andThen]
 rw[Oper.upon_value]
 go_wp2
 rw[run_callFunc_extern Tryz.func276 (by kernel_rfl) (by kernel_rfl) (by kernel_rfl) (e:=Extern.AbiNoEscape.same) (by kernel_rfl)]
 rw[Lib.run_noEscape]
 simp only[Result.andThen]
 rw[Oper.upon_value]
 go_wp2
 rw[Lib.run_from_unsafe w ⟨b,0,none⟩ Tryz.underlying287 Tryz.underlying166 hj hsh liesB]
 simp only[Result.andThen]
 rw[Oper.upon_value]
 go_wp2
 go_end0
 exact⟨rfl,rfl⟩
theorem check_any (B b:Nat) (bs:List Value) (w:World) (h:Lib.IsBuilder 168 5 B b bs w):
  Calls Tryz.prog 209 #[.pointer (some ⟨b,0,none⟩)] w fun e w'=>e=.returned (.tuple #[])∧(Lib.BuilderAt 168 5 B b (.pointer (some ⟨b,0,none⟩)) bs w'∧Below B w w'):=by
 rcases h with h|h
 ·refine(MJ b w h.cell0 h.shape h.frozen0).mono ?_
  rintro e w' ⟨rfl,rfl⟩
  exact⟨rfl,h.used _,(Below.refl B w).setCell (p:=⟨b,0,none⟩) h.1 _⟩
 ·refine(PY b w h.cell0).mono ?_
  rintro e w' ⟨rfl,rfl⟩
  exact⟨rfl,h,Below.refl B _⟩
theorem write_any (B b:Nat) (l:List UInt8) (s:ByteArray) (w:World) (h:lq B b l w) (hlen:l.length+s.size≤140737488355328) (hBw:B≤w.heap.size):
  Calls Tryz.prog 106 #[.pointer (some ⟨b,0,none⟩),.string s] w fun e w'=>e=.returned (.tuple #[.int .i64 s.size,.nilIface])∧lq B b (l++s.data.toList) w'∧Below B w w':=by
 obtain⟨i0,hi,hz0,hz1,hz2⟩:=info_parts iR
 have hlb:(Lib.byteCells l).length=l.length:=by simp[Lib.byteCells]
 have WE:=Base.hid hlb
 clear hlb
 go_enter Tryz.func106,Tryz.ntmps106
 go_wp2_with (refine(check_any B b _ _ h).mono ?_)
 rintro e w1 ⟨rfl,h1,hb1⟩
 obtain⟨hB,v,hbk,hown,hne⟩:=h1
 have c0:w1.cell? ⟨b,0,none⟩=some (.pointer (some ⟨b,0,none⟩)):=by rw[Lib.cell_of_heap hbk];rfl
 have c1:w1.cell? ⟨b,1,none⟩=some v:=by rw[Lib.cell_of_heap hbk];rfl
 go_wp2_with (at_builtin;refine Lib.wpList_append_own_string _ rfl _ _ 45 9 rfl B 5 i0 Tryz.underlying45 Tryz.underlying9 hi hz0 hz1 hz2 _ _ _ rfl hown s rfl ?c3 ?c4 ?c5 ?_)
 case c3=>have:=WE.out;unfold maxLen;omega
 case c4=>have:=WE.out;omega
 case c5=>have:=hb1.size;omega
 intro v' w2 hown' hgrow _
 have hlt:b<w1.heap.size:=(Array.getElem?_eq_some_iff.1 hbk).1
 have hb2:w2.heap[b]?=some (.cells #[.pointer (some ⟨b,0,none⟩),v] 168 (0,0)):=by
  rw[hgrow.block b hlt (fun e=>hne e.symm)]
  exact hbk
 have d0:w2.cell? ⟨b,0,none⟩=some (.pointer (some ⟨b,0,none⟩)):=by rw[Lib.cell_of_heap hb2];rfl
 have d1:w2.cell? ⟨b,1,none⟩=some v:=by rw[Lib.cell_of_heap hb2];rfl
 have f1:w2.frozen? ⟨b,1,none⟩=false:=Lib.frozen_of_heap hb2 1
 obtain⟨ao,n',cap,rfl⟩:∃ao n' cap,v'=.slice ao n' cap:=by
  rcases hown'.2 with⟨hv,_⟩|⟨g,cap,cur,hv,_⟩
  ·exact⟨_,_,_,hv⟩
  ·exact⟨_,_,_,hv⟩
 go_wp2
 go_ret2
 refine⟨rfl,Or.inr ?_,?_⟩
 ·have hp:=Lib.BuilderAt.put (T:=168) (e:=5) hB hb2 (bs':=Lib.byteCells l++Lib.strCells s) (by simpa[Lib.strCells_length]using hown') (by decide)
  have e:Lib.byteCells (l++s.data.toList)=Lib.byteCells l++Lib.strCells s:=by simp[Lib.byteCells,Lib.strCells]
  rw[e]
  exact hp
 ·exact(hb1.grown hgrow (by have:=hb1.size;omega) (fun k hk=>(hown.lt k hk).1)).setCell (p:=⟨b,1,none⟩) hB _
end Go.Proofs.YtgamccijegollaaGreatDoor.Wx
namespace Go.Proofs.YtgamccijegollaaGreatDoor.UrlB
open Go.RowKit Base Dp aZ Wx
theorem qL (B b:Nat) (l:List UInt8) (w:World) (h:lq B b l w) (hBw:B≤w.heap.size):
  Calls Tryz.prog 109 #[.pointer (some ⟨b,0,none⟩)] w fun e w'=>e=.returned (.string (strOf l))∧Below B w w':=Tryz.Builder_String B b l w h hBw
theorem DU (s0:ByteArray) (s1:ByteArray) (s2:ByteArray) (s3:ByteArray) (b4:Bool) (z5:Int) (b6:Bool) (s7:ByteArray) (A:Option Addr) (n cap:Nat) (l:List ByteArray) (b9:Bool) (b10:Bool) (s11:ByteArray) (s12:ByteArray) (w:World) (hR:aY w A n (l.map Value.string)) (hnc:n≤cap) (hcm:cap≤maxLen) (h7:s7.size≤1073741824) (hl:(aO l).length≤1073741824):
  Calls Tryz.prog 67 #[.agg #[.string s0,.string s1,.string s2,.string s3,.bool b4,.int .i64 z5,.bool b6,.string s7,.slice A n cap,.bool b9,.bool b10,.string s11,.string s12]] w fun e w'=>e=.returned (.string (strOf (pF b6 s7 l)))∧Below w.heap.size w w':=by
 have hn:l.length=n:=by rw[←hR.1,List.length_map]
 have hpl:=fM l
 unfold maxLen at hcm
 cases b6 with
 |true=>
  clear hn hpl
  have HR:=hid hR
  clear hR
  go_enter Tryz.func67,Tryz.ntmps67
  go_wp2
  go_ret
  exact⟨rfl,(Below.refl _ _).alloc (Nat.le_refl _) _⟩
 | false=>
  have HR:=hid hR
  have HN:=hid hn
  have vW:=hid hpl
  have Ci:=hid hl
  clear hR hn hpl hl
  go_enter Tryz.func67,Tryz.ntmps67
  go_wp2
  generalize hw1:w.alloc _=w1
  have hb1:Below w.heap.size w w1:=by rw[←hw1];exact(Below.refl _ _).alloc (Nat.le_refl _) _
  have hs1:w1.heap.size=w.heap.size+1:=by rw[←hw1];simp
  clear hw1
  have HB0:Hid (lq (w.heap.size+1) (w.heap.size+1) [] (w1.alloc (.cells #[.pointer none,.slice none 0 0] 168))):=by
   have h:=Lib.fresh_isBuilder 168 5 w1
   rw[hs1]at h
   exact h
  go_loopw [5,13] (fun _ vk wr=>∃k:Nat,k≤n∧vk=.int .i64 (k:Int)∧Hid (lq (w.heap.size+1) (w.heap.size+1) (aO (l.take k)) wr)∧Hid (Below (w.heap.size+1) w1 wr)) (fun _ vk _=>n - (intOf vk).toNat)
  case atStart=>exact⟨0,Nat.zero_le _,rfl,HB0.out,(Below.refl _ _).alloc (by rw[hs1];exact Nat.le_refl _) _⟩
  case round=>
   obtain⟨k,hk,rfl,HB,Z4⟩:=hrel
   have hsz:w.heap.size+1≤wr.heap.size:=by have:=Z4.out.size;rw[hs1]at this;exact this
   by_cases hlt:k<n
   ·have hkl:k<l.length:=by rw[HN.out];exact hlt
    have hRr:=HR.out.below (hb1.trans (Z4.out.mono (by omega)))
    obtain⟨g,off,rfl,hg,hcell⟩:=hRr.spot (by omega)
    have hc:=hcell k (by rw[List.length_map];exact hkl)
    rw[List.getElem_map]at hc
    obtain⟨s,hs⟩:∃s,s=l[k]:=⟨_,rfl⟩
    have HS:Hid (l.take (k+1)=l.take k++[s]):=by rw[hs];exact take_snoc l k hkl
    rw[←hs]at hc
    have hsum:=AV l k hkl
    have IY:=pK l (k+1)
    have hpk:=fM (l.take k)
    rw[List.length_take,Nat.min_eq_left (by omega)]at hpk
    have hpl:=vW.out
    have hll:=Ci.out
    rw[←hs]at hsum
    have hss:s.size≤1073741824:=by omega
    have a1:∀w:World,(Op.stringOp .add ⟨#[47]⟩ s).run Tryz.prog w=.ok (.string (strOf ([47]++s.data.toList))) w:=fun w=>dL ⟨#[47]⟩ s w (by show 1+s.size≤_;omega)
    have HLEN:Hid ((aO (l.take k)).length+(1+s.size)≤140737488355328):=by show _≤_;omega
    clear hs hsum IY hpk hpl hll hRr hcell hkl
    go_wp2_with (refine(write_any _ _ _ _ _ HB.out (by rw[o9];have:=HLEN.out;simp at this⊢;omega) hsz).mono ?_;rintro e w3 ⟨rfl,HB3,hb3⟩)
    go_roundw
    case rel=>exact⟨k+1,by omega,by go_num,by
     rw[HS.out,abf]
     exact HB3,Z4.out.trans hb3⟩
    case measure=>simp[intOf];omega
   ·obtain rfl:k=n:=by omega
    have HT:Hid (l.take k=l):=List.take_of_length_le (by rw[HN.out];exact Nat.le_refl _)
    go_wp2_with (refine(qL _ _ _ _ HB.out hsz).mono ?_;rintro e w3 ⟨rfl,hb3⟩)
    go_ret
    exact⟨congrArg (fun X=>Ending.returned (.string (strOf (aO X)))) HT.out,hb1.trans ((Z4.out.trans hb3).mono (by omega))⟩
end Go.Proofs.YtgamccijegollaaGreatDoor.UrlB
