/- Texts that belong together: BI, acU, RefS, RefN, RefM, RefC. -/
import Derived.Test.YtmpeaoacaecgpaaGreatDoorXAA
import Derived.Test.YtmpeaoacaecgpaaGreatDoorShelf
import Derived.Lib.RuneBytes
import Derived.IntWalk
set_option linter.unusedSimpArgs false
set_option linter.unusedVariables false
set_option maxRecDepth 100000
set_option maxHeartbeats 64000000
namespace Go.Proofs.YtmpeaoacaecgpaaGreatDoor.BI
open Go.RowKit Base
def enc (l:List Int):List UInt8:=l.flatMap Lib.encodeRune
theorem ac9 (r:Int):Lib.runeCells r=ah (Lib.encodeRune r):=(Lib.byteCells_encodeRune r).symm
theorem rM (l:List Int) (r:Int):enc (l++[r])=enc l++Lib.encodeRune r:=by simp[enc]
theorem Jy (r:Int):1≤(Lib.encodeRune r).length∧(Lib.encodeRune r).length≤4:=by
 have:=Lib.runeCells_le r
 rw[Lib.runeCells_length]at this
 exact this
theorem iW (l:List Int):(enc l).length≤4*l.length∧l.length≤(enc l).length:=by
 induction l with
 |nil=>simp[enc]
 |cons r l ih=>
  have h:=Jy r
  have e:enc (r::l)=Lib.encodeRune r++enc l:=by simp[enc]
  rw[e,List.length_append,List.length_cons]
  omega
def agX (r:Int):Prop:= -2147483648≤r∧r≤2147483647
theorem eF (A:Option Addr) (n cap:Nat) (l:List Int) (w:World) (h:aY w A n (gV .i32 l)) (hr:∀r ∈ l,agX r) (hm:n≤1073741824):
  Calls Tryz.prog 54 #[.slice A n cap] w fun e w'=>∃v,e=.returned v∧w'.ownsRow w.heap.size 5 1 v (enc l).length (ah (enc l))∧Below w.heap.size w w':=by
 have hl:l.length=n:=by rw[←jA .i32];exact h.1
 have HL:=hid hl
 clear hl
 have HH:=hid h
 clear h
 have HR:=hid hr
 clear hr
 go_enter Tryz.func54,Tryz.ntmps54
 go_wp2
 go_loopw [3,8] (fun v vk wr=>∃(k:Nat),k≤n∧vk=.int .i64 k∧wr.ownsRow w.heap.size 5 1 v (enc (l.take k)).length (ah (enc (l.take k)))∧Below w.heap.size w wr) (fun _ vk _=>n - (intOf vk).toNat)
 case atStart=>exact⟨0,Nat.zero_le _,rfl,World.ownsRow_nil _ _ _ _,Below.refl _ _⟩
 case round =>
  obtain⟨k,hk,rfl,hown,hbel⟩:=hrel
  by_cases hlt:k<n
  ·obtain ⟨b,off,rfl,hb,_⟩:=(HH.out).spot (by omega)
   obtain⟨r,hx⟩:∃r,r=l[k]'(by rw[HL.out];exact hlt):=⟨_,rfl⟩
   have hcell:wr.cell? ⟨b,off+k,none⟩=some (.int .i32 r):=by
    rw[hx,←HH.out.int k (by rw[HL.out];exact hlt)]
    exact hbel.cell (p:=⟨b,off+k,none⟩) hb
   have hRr:agX r:=by rw[hx];exact HR.out _ (List.getElem_mem _)
   obtain⟨hr1,hr2⟩:=hRr
   have HS:Hid (l.take (k+1)=l.take k++[r]):=by
    rw[hx]
    exact List.take_succ_eq_append_getElem (by rw[HL.out];exact hlt)
   clear hx
   have hle:=(iW (l.take k)).1
   have hle2:(l.take k).length≤k:=List.length_take_le _ _
   obtain⟨m,hmm⟩:∃m,m=(enc (l.take k)).length:=⟨_,rfl⟩
   rw[←hmm]at hle hown
   have HM:=hid hmm
   clear hmm
   go_wp2_with fail
   refine(Tryz.utf8_AppendRune_plain w.heap.size _ _ _ r hr1 hr2 _ hown (by omega) hbel.size).mono ?_
   rintro e w1 ⟨v',rfl,hown1,o,hg⟩
   have gW:Below w.heap.size w w1:=(hbel.alloc hbel.size o).grown hg (by have:=hbel.size;simp;omega) (fun g hg=>(hown.lt g hg).1)
   clear hown hbel
   go_wp2
   go_roundw
   case rel=>exact⟨k+1,by omega,by go_num,by
     rw[HS.out,rM,List.length_append,aS,←ac9,←Lib.runeCells_length,←HM.out]
     exact hown1,gW⟩
   case measure=>simp[intOf];omega
  ·obtain rfl:k=n:=by omega
   have HE:Hid (l.take k=l):=by
    rw[←HL.out];exact List.take_length
   go_wp2
   go_ret
   exact⟨_,rfl,by rw[HE.out]at hown;exact hown,hbel⟩
end Go.Proofs.YtmpeaoacaecgpaaGreatDoor.BI
namespace Go.Proofs.YtmpeaoacaecgpaaGreatDoor.acU
open Go.RowKit Base qh BI
def Cc (r:Int):Prop:=0≤r∧r≤1114111∧¬(55296≤r∧r≤57343)
instance (r:Int):Decidable (Cc r):=by unfold Cc;exact inferInstance
def u (x:Int):UInt8:=x.toNat.toUInt8
theorem jw (x:Int) (h0:0≤x) (h1:x≤255):((u x).toNat:Int)=x:=by
 unfold u
 simp
 omega
theorem enc1 (r:Int) (h0:0≤r) (h1:r≤127):Lib.encodeRune r=[u r]:=by unfold Lib.encodeRune;rw[Lib.encodeRuneZ_one h0 h1];rfl
theorem enc2 (r:Int) (h0:128≤r) (h1:r≤2047):Lib.encodeRune r=[u (192+r / 64),u (128+r%64)]:=by unfold Lib.encodeRune;rw[Lib.encodeRuneZ_two h0 h1];rfl
theorem enc3 (r:Int) (h:(2048≤r∧r<55296)∨(57343<r∧r≤65535)):Lib.encodeRune r=[u (224+r / 4096),u (128+r / 64%64),u (128+r%64)]:=by unfold Lib.encodeRune;rw[Lib.encodeRuneZ_three h];rfl
theorem enc4 (r:Int) (h0:65536≤r) (h1:r≤1114111):Lib.encodeRune r=[u (240+r / 262144),u (128+r / 4096%64),u (128+r / 64%64),u (128+r%64)]:=by unfold Lib.encodeRune;rw[Lib.encodeRuneZ_four h0 h1];rfl
theorem encBad (r:Int) (h:¬Cc r):Lib.encodeRune r=Lib.encodeRune 65533:=by
 unfold Lib.encodeRune
 rw[Lib.encodeRuneZ_bad (by unfold Cc at h;omega),Lib.encodeRuneZ_three (r:=65533) (by omega)]
 rfl
theorem rd_enc (r:Int) (h:Cc r) (t:List UInt8):rd (Lib.encodeRune r++t)=(r,((Lib.encodeRune r).length:Int),true):=by
 obtain⟨h0,h1,h2⟩:=h
 by_cases a:r≤127
 ·rw[enc1 r h0 a]
  simp only[List.cons_append,List.nil_append,rd,jw r h0 (by omega)]
  rw[if_pos a]
  rfl
 by_cases b:r≤2047
 ·rw[enc2 r (by omega) b]
  have e1:=jw (192+r / 64) (by omega) (by omega)
  have e2:=jw (128+r%64) (by omega) (by omega)
  simp only[List.cons_append,List.nil_append,rd,e1]
  rw[if_neg (by omega),if_neg (by omega),if_pos (by omega),tail,e2,if_neg (by unfold lo hi;(repeat' split)<;>omega),tail]
  refine Prod.ext ?_ rfl
  simp only
  omega
 by_cases c:r≤65535
 ·rw[enc3 r (by omega)]
  have e1:=jw (224+r / 4096) (by omega) (by omega)
  have e2:=jw (128+r / 64%64) (by omega) (by omega)
  have e3:=jw (128+r%64) (by omega) (by omega)
  simp only[List.cons_append,List.nil_append,rd,e1]
  rw[if_neg (by omega),if_neg (by omega),if_neg (by omega),if_pos (by omega),tail,e2,if_neg (by unfold lo hi;(repeat' split)<;>omega),tail,e3,if_neg (by omega),tail]
  refine Prod.ext ?_ rfl
  simp only
  omega
 rw[enc4 r (by omega) h1]
 have e1:=jw (240+r / 262144) (by omega) (by omega)
 have e2:=jw (128+r / 4096%64) (by omega) (by omega)
 have e3:=jw (128+r / 64%64) (by omega) (by omega)
 have e4:=jw (128+r%64) (by omega) (by omega)
 simp only[List.cons_append,List.nil_append,rd,e1]
 rw[if_neg (by omega),if_neg (by omega),if_neg (by omega),if_neg (by omega),tail,e2,if_neg (by unfold lo hi;(repeat' split)<;>omega),tail,e3,if_neg (by omega),tail,e4,if_neg (by omega),tail]
 refine Prod.ext ?_ rfl
 simp only
 omega
theorem u_of (c:UInt8):u (c.toNat:Int)=c:=by unfold u;simp
theorem Ur (x:Int) (c:UInt8) (h:x=(c.toNat:Int)):u x=c:=by rw[h,u_of]
theorem sF (x:UInt8) (t:List UInt8):
  ((rd (x::t)).2.2=true→Cc (rd (x::t)).1∧Lib.encodeRune (rd (x::t)).1=(x::t).take (rd (x::t)).2.1.toNat)∧((rd (x::t)).2.2=false→(rd (x::t)).1=65533):=by
 have hx:(x.toNat:Int)<256:=by have:=x.toNat_lt;omega
 simp only[rd]
 by_cases a:(x.toNat:Int)≤127
 ·rw[if_pos a]
  refine⟨fun _=>⟨by unfold Cc;simp only;omega,?_⟩,fun h=>by cases h⟩
  simp only
  rw[enc1 _ (by omega) a,u_of]
  rfl
 rw[if_neg a]
 by_cases b:(x.toNat:Int)≤193∨245≤(x.toNat:Int)
 ·rw[if_pos b]
  exact⟨(fun h=>by cases h),fun _=>rfl⟩
 rw[if_neg b]
 by_cases c2:(x.toNat:Int)≤223
 ·rw [if_pos c2]
  have el:lo x.toNat=128:=by unfold lo;(repeat' split)<;>omega
  have eh:hi x.toNat=191:=by unfold hi;(repeat' split)<;>omega
  match t with
  |[]=>simp[tail]
  |y::t=>
   have hy:(y.toNat:Int)<256:=by have:=y.toNat_lt;omega
   rw[tail,el,eh]
   by_cases d:(y.toNat:Int)<128∨191<(y.toNat:Int)
   ·rw[if_pos d];exact⟨(fun h=>by cases h),fun _=>rfl⟩
   ·rw[if_neg d,tail]
    refine⟨fun _=>⟨by unfold Cc;simp only;omega,?_⟩,fun h=>by cases h⟩
    simp only
    rw[enc2 _ (by omega) (by omega),Ur _ x (by omega),Ur _ y (by omega)]
    rfl
 rw[if_neg c2]
 by_cases c3:(x.toNat:Int)≤239
 ·rw [if_pos c3]
  match t with
  |[]=>simp[tail]
  | y ::t=>
   have hy:(y.toNat:Int)<256:=by have:=y.toNat_lt;omega
   rw[tail]
   by_cases d:(y.toNat:Int)<lo x.toNat∨hi x.toNat<(y.toNat:Int)
   ·rw[if_pos d];exact⟨(fun h=>by cases h),fun _=>rfl⟩
   ·rw [if_neg d]
    have hd:128≤(y.toNat:Int)∧(y.toNat:Int)≤191∧((x.toNat:Int)=224→160≤(y.toNat:Int))∧((x.toNat:Int)=237→(y.toNat:Int)≤159):=by
     unfold lo hi at d
     (repeat' split at d)<;>omega
    match t with
    |[]=>simp[tail]
    |z::t=>
     have hz:(z.toNat:Int)<256:=by have:=z.toNat_lt;omega
     rw[tail]
     by_cases f:(z.toNat:Int)<128∨191<(z.toNat:Int)
     ·rw[if_pos f];exact⟨(fun h=>by cases h),fun _=>rfl⟩
     ·rw[if_neg f,tail]
      refine⟨fun _=>⟨by unfold Cc;simp only;omega,?_⟩,fun h=>by cases h⟩
      simp only
      rw[enc3 _ (by omega),Ur _ x (by omega),Ur _ y (by omega),Ur _ z (by omega)]
      rfl
 ·rw [if_neg c3]
  match t with
  |[]=>simp[tail]
  | y :: t =>
   have hy:(y.toNat:Int)<256:=by have:=y.toNat_lt;omega
   rw[tail]
   by_cases d:(y.toNat:Int)<lo x.toNat∨hi x.toNat<(y.toNat:Int)
   ·rw[if_pos d];exact⟨(fun h=>by cases h),fun _=>rfl⟩
   ·rw [if_neg d]
    have hd:128≤(y.toNat:Int)∧(y.toNat:Int)≤191∧((x.toNat:Int)=240→144≤(y.toNat:Int))∧((x.toNat:Int)=244→(y.toNat:Int)≤143):=by
     unfold lo hi at d
     (repeat' split at d)<;>omega
    match t with
    |[]=>simp[tail]
    | z ::t=>
     have hz:(z.toNat:Int)<256:=by have:=z.toNat_lt;omega
     rw[tail]
     by_cases f:(z.toNat:Int)<128∨191<(z.toNat:Int)
     ·rw[if_pos f];exact⟨(fun h=>by cases h),fun _=>rfl⟩
     ·rw [if_neg f]
      match t with
      |[]=>simp[tail]
      |v::t=>
       have hv:(v.toNat:Int)<256:=by have:=v.toNat_lt;omega
       rw[tail]
       by_cases g:(v.toNat:Int)<128∨191<(v.toNat:Int)
       ·rw[if_pos g];exact⟨(fun h=>by cases h),fun _=>rfl⟩
       ·rw[if_neg g,tail]
        refine⟨fun _=>⟨by unfold Cc;simp only;omega,?_⟩,fun h=>by cases h⟩
        simp only
        rw[enc4 _ (by omega) (by omega),Ur _ x (by omega),Ur _ y (by omega),Ur _ z (by omega),Ur _ v (by omega)]
        rfl
theorem Gv (L:List UInt8) (h:L≠[]):dec L=(rd L).1::dec (L.drop (rd L).2.1.toNat):=by
 cases L with
 |nil=>exact absurd rfl h
 |cons x t=>exact iK x t
theorem val_ne (L:List UInt8) (h:L≠[]):val L=((rd L).2.2&&val (L.drop (rd L).2.1.toNat)):=by
 cases L with
 |nil=>exact absurd rfl h
 |cons x t=>exact sH x t
theorem adp (r:Int) (t:List UInt8):Lib.encodeRune r++t≠[]:=by
 intro h
 have:=Jy r
 have e:=congrArg List.length h
 simp at e
 rw[e.1]at this
 simp at this
theorem fA (r:Int) (l:List Int):enc (r::l)=Lib.encodeRune r++enc l:=by simp[enc]
theorem Ez (l:List Int) (b:List UInt8) (h:∀r ∈ l,Cc r):dec (enc l++b)=l++dec b∧val (enc l++b)=val b:=by
 induction l with
 |nil=>exact⟨rfl,rfl⟩
 |cons r l ih=>
  have hr:=rd_enc r (h r (by simp)) (enc l++b)
  have hi:=ih (fun r hr=>h r (by simp[hr]))
  rw[fA,List.append_assoc]
  constructor
  ·rw[Gv _ (adp r _),hr]
   simp only[Int.toNat_natCast,List.drop_left,hi.1,List.cons_append]
  rw[val_ne _ (adp r _),hr]
  simp only[Int.toNat_natCast,List.drop_left,hi.2,Bool.true_and]
theorem ae9:Cc 65533:=by decide
theorem afa:∀(n:Nat) (L:List UInt8),L.length≤n→∀r ∈ dec L,Cc r
 |_,[],_,r,h=>by simp[lT]at h
 |0,_::_,h,_,_=>by simp at h
 |n+1,x::t,hl,r,h=>by
  have hs:=nJ x t
  rw[iK,List.mem_cons]at h
  rcases h with rfl|h
  ·cases hw:(rd (x::t)).2.2
   ·rw[(sF x t).2 hw];exact ae9
   ·exact((sF x t).1 hw).1
  ·exact afa n _ (by simp only[List.length_drop,List.length_cons]at hl⊢;omega) r h
theorem zU (L:List UInt8):∀r ∈ dec L,Cc r:=afa _ L (Nat.le_refl _)
theorem YJ:∀(n:Nat) (L:List UInt8),L.length≤n→val L=true→enc (dec L)=L
 |_,[],_,_=>rfl
 |0,_::_,h,_=>by simp at h
 |n+1,x::t,hl,h=>by
  have hs:=nJ x t
  rw[sH,Bool.and_eq_true]at h
  rw[iK,fA,YJ n _ (by simp only[List.length_drop,List.length_cons]at hl⊢;omega) h.2,((sF x t).1 h.1).2,List.take_append_drop]
theorem val_iff (L:List UInt8):val L=decide (enc (dec L)=L):=by
 rw[Bool.eq_iff_iff,decide_eq_true_iff]
 constructor
 ·exact YJ _ L (Nat.le_refl _)
 intro h
 have:=(Ez (dec L) [] (zU L)).2
 rw[List.append_nil,h]at this
 rw[this]
 rfl
end Go.Proofs.YtmpeaoacaecgpaaGreatDoor.acU
namespace Go.Proofs.YtmpeaoacaecgpaaGreatDoor.RefS
open Go.RowKit Base Base2 qh
def JV (t:List UInt8):Prop:=∀c ∈ t,128≤(c.toNat:Int)∧(c.toNat:Int)≤191
instance (t:List UInt8):Decidable (JV t):=by unfold JV;exact inferInstance
def Fv (x y:Int):Prop:=x=224∧y<160∨x=237∧159<y∨x=240∧y<144∨x=244∧143<y
instance (x y:Int):Decidable (Fv x y):=by unfold Fv;exact inferInstance
def bad (x:Int):List UInt8→Prop
 |[]=>False
 |y::_=>Fv x y.toNat
instance (x:Int) (t:List UInt8):Decidable (bad x t):=by cases t<;>unfold bad<;>exact inferInstance
def st:List UInt8→Bool×Bool
 |[]=>(false,false)
 |x::t=>if size x.toNat<(t.length:Int)+1∨¬JV t∨bad x.toNat t then(false,false)else(true,decide ((t.length:Int)+1=size x.toNat))
def WO (L:List UInt8) (k:Nat):Prop:=∀j (h:j<L.length),1≤j→j<k→128≤(L[j].toNat:Int)∧(L[j].toNat:Int)≤191
theorem Jc (x:UInt8) (t:List UInt8) (h:WO (x::t) (t.length+1)):JV t:=by
 intro c hc
 obtain⟨i,hi,rfl⟩:=List.mem_iff_getElem.1 hc
 have:=h (i+1) (by simp;omega) (by omega) (by omega)
 simpa using this
theorem Jd (x:UInt8) (t:List UInt8) (k:Nat) (hk:k<t.length+1) (h1:1≤k) (hb:((x::t)[k].toNat:Int)<128∨191<((x::t)[k].toNat:Int)):¬JV t:=by
 intro h
 obtain⟨i,rfl⟩:∃i,k=i+1:=⟨k - 1,by omega⟩
 have:=h t[i] (List.getElem_mem _)
 simp at hb
 omega
theorem QO {a b c:Prop} (h1:¬a) (h2:b) (h3:¬c):¬(a∨¬b∨c):=by
 rintro(h|h|h)
 ·exact h1 h
 ·exact h h2
 exact h3 h
theorem xu (x:UInt8) (t:List UInt8) (h:size x.toNat<(t.length:Int)+1∨¬JV t∨bad x.toNat t):st (x::t)=(false,false):=by rw[st,if_pos h]
theorem vT (x:UInt8) (t:List UInt8) (h:¬(size x.toNat<(t.length:Int)+1∨¬JV t∨bad x.toNat t)):st (x::t)=(true,decide ((t.length:Int)+1=size x.toNat)):=by rw[st,if_neg h]
theorem anF (b off cap : Nat) (x : UInt8) (t : List UInt8) (n : Nat) (w : World) (hn : t.length + 1 = n) (hm : n ≤ 16) (hz : size x.toNat = 1)
  (hL:∀j (h:j<(x::t).length),w.cell? ⟨b,off+j,none⟩=some (.int .u8 ((x::t)[j].toNat:Int)))
  (k1:(x.toNat:Int)<128)
  (R:Bool×Bool) (hR:R=st (x::t)):
  Calls Tryz.prog 157 #[.slice (some ⟨b,off,none⟩) n cap] w fun e w'=>e=.returned (.tuple #[.bool R.1,.bool R.2])∧w=w':=by
 have hc0:w.cell? ⟨b,off,none⟩=some (.int .u8 (x.toNat:Int)):=by
  have:=hL 0 (by simp)
  rw[Nat.add_zero]at this
  exact this
 have HL:=hid hL
 have HN:=hid hn
 have HZ:=hid hz
 have HR:=hid hR
 have hp:(0:Int)<(n:Int):=by omega
 clear hL hn hz hR
 by_cases alY:(1:Int)<(n:Int)
 ·have HE:Hid (R=(false,false)):=by
   have e:=HR.out
   rw[xu x t (.inl (by rw[HZ.out];have:=HN.out;omega))]at e
   exact e
  go_enter Tryz.func157,Tryz.ntmps157
  go_wp2
  go_ret2
  rw[HE.out]
  exact⟨rfl,rfl⟩
 ·go_enter Tryz.func157,Tryz.ntmps157
  go_wp2
  go_loop [5] (fun vk=>∃k:Nat,1≤k∧k≤n∧vk=.int .i64 k∧Hid (WO (x::t) k)) (fun vk=>n - (intOf vk).toNat)
  case atStart=>exact⟨1,by omega,by omega,rfl,fun j _ h1 h2=>absurd h2 (by omega)⟩
  case round=>
   obtain⟨k,hk1,hk2,rfl,HO⟩:=hrel
   by_cases hlt:k<n
   ·have hlx:k<(x::t).length:=by have:=HN.out;simp;omega
    obtain⟨c,hc⟩:∃c,c=(x::t)[k]:=⟨_,rfl⟩
    have hcell:w.cell? ⟨b,off+k,none⟩=some (.int .u8 (c.toNat:Int)):=by rw[hc];exact HL.out k hlx
    have HC:=hid hc
    clear hc
    by_cases hb:(c.toNat:Int)<128∨191<(c.toNat:Int)
    ·have HE:Hid (R=(false,false)):=by
      have e:=HR.out
      rw[xu x t (.inr (.inl (Jd x t k (by have:=HN.out;omega) hk1 (by rw[←HC.out];exact hb))))]at e
      exact e
     rcases hb with hb|hb
     ·go_wp2
      go_ret2
      rw[HE.out]
      exact⟨rfl,rfl⟩
     ·have hb':¬(c.toNat:Int)<128:=by omega
      go_wp2
      go_ret2
      rw[HE.out]
      exact⟨rfl,rfl⟩
    ·have hb1:¬(c.toNat:Int)<128:=by omega
     have hb2:¬191<(c.toNat:Int):=by omega
     have jy:Hid (WO (x::t) (k+1)):=fun j hj h1 h2=>by
      by_cases e:j=k
      ·subst e
       rw[←HC.out]
       omega
      ·exact HO.out j hj h1 (by omega)
     clear hb HO
     go_wp2
     go_round
     case rel=>exact⟨k+1,by omega,by omega,by go_num,jy⟩
     case measure=>simp[intOf];omega
   ·skip
    obtain rfl:k=n:=by omega
    have HA:Hid (JV t):=Jc x t (by have e:=HN.out;rw[e];exact HO.out)
    clear HO hlt
    cases t with
    |nil=>
     have hn1:=HN.out
     simp at hn1
     have HE:Hid (R=(true,decide ((k:Int)=1))):=by
      have e:=HR.out
      rw[vT x [] (QO (by rw[HZ.out];simp) HA.out (fun h=>h)),HZ.out]at e
      rw[e,←hn1]
      exact rfl
     have hn2:¬(1:Int)<(k:Int):=by omega
     clear hn1
     go_wp2
     go_ret2
     rw[HE.out]
     exact⟨vS rfl (iO (by rw[Bool.eq_iff_iff];simp)),rfl⟩
    | cons y t'=>
     have hc1:w.cell? ⟨b,off+1,none⟩=some (.int .u8 (y.toNat:Int)):=HL.out 1 (by simp)
     have hn1:=HN.out
     simp only[List.length_cons]at hn1
     have hn2:(1:Int)<(k:Int):=by omega
     have hy0:0≤(y.toNat:Int)∧(y.toNat:Int)<256:=by have:=y.toNat_lt;omega
     have HK:Hid ((((y::t').length:Nat):Int)+1=k):=by show _=_;simp only[List.length_cons];omega
     clear hn1
     by_cases hbd:Fv x.toNat y.toNat
     ·have HE:Hid (R=(false,false)):=by
       have e:=HR.out
       rw[xu x (y::t') (.inr (.inr hbd))]at e
       exact e
      unfold Fv at hbd
      exact absurd hbd (by omega)
     ·have HE:Hid (R=(true,decide ((k:Int)=1))):=by
       have e:=HR.out
       rw[vT x (y::t') (QO (by rw[HZ.out];have:=HK.out;omega) HA.out hbd),HZ.out,HK.out]at e
       exact e
      unfold Fv at hbd
      clear hbd
      go_wp2
      all_goals
       go_ret2
       rw[HE.out]
       exact⟨vS rfl (iO (by rw[Bool.eq_iff_iff];simp)),rfl⟩
theorem anG (b off cap : Nat) (x : UInt8) (t : List UInt8) (n : Nat) (w : World) (hn : t.length + 1 = n) (hm : n ≤ 16) (hz : size x.toNat = 2)
  (hL:∀j (h:j<(x::t).length),w.cell? ⟨b,off+j,none⟩=some (.int .u8 ((x::t)[j].toNat:Int)))
  (k1:194≤(x.toNat:Int)) (k2:(x.toNat:Int)≤223)
  (R:Bool×Bool) (hR:R=st (x::t)):
  Calls Tryz.prog 157 #[.slice (some ⟨b,off,none⟩) n cap] w fun e w'=>e=.returned (.tuple #[.bool R.1,.bool R.2])∧w=w':=by
 have hc0:w.cell? ⟨b,off,none⟩=some (.int .u8 (x.toNat:Int)):=by
  have:=hL 0 (by simp)
  rw[Nat.add_zero]at this
  exact this
 have HL:=hid hL
 have HN:=hid hn
 have HZ:=hid hz
 have HR:=hid hR
 have hp:(0:Int)<(n:Int):=by omega
 clear hL hn hz hR
 by_cases alY:(2:Int)<(n:Int)
 ·have HE:Hid (R=(false,false)):=by
   have e:=HR.out
   rw[xu x t (.inl (by rw[HZ.out];have:=HN.out;omega))]at e
   exact e
  go_enter Tryz.func157,Tryz.ntmps157
  go_wp2
  go_ret2
  rw[HE.out]
  exact⟨rfl,rfl⟩
 ·go_enter Tryz.func157,Tryz.ntmps157
  go_wp2
  go_loop [5] (fun vk=>∃k:Nat,1≤k∧k≤n∧vk=.int .i64 k∧Hid (WO (x::t) k)) (fun vk=>n - (intOf vk).toNat)
  case atStart=>exact⟨1,by omega,by omega,rfl,fun j _ h1 h2=>absurd h2 (by omega)⟩
  case round=>
   obtain⟨k,hk1,hk2,rfl,HO⟩:=hrel
   by_cases hlt:k<n
   ·have hlx:k<(x::t).length:=by have:=HN.out;simp;omega
    obtain⟨c,hc⟩:∃c,c=(x::t)[k]:=⟨_,rfl⟩
    have hcell:w.cell? ⟨b,off+k,none⟩=some (.int .u8 (c.toNat:Int)):=by rw[hc];exact HL.out k hlx
    have HC:=hid hc
    clear hc
    by_cases hb:(c.toNat:Int)<128∨191<(c.toNat:Int)
    ·have HE:Hid (R=(false,false)):=by
      have e:=HR.out
      rw[xu x t (.inr (.inl (Jd x t k (by have:=HN.out;omega) hk1 (by rw[←HC.out];exact hb))))]at e
      exact e
     rcases hb with hb|hb
     ·go_wp2
      go_ret2
      rw[HE.out]
      exact⟨rfl,rfl⟩
     ·have hb':¬(c.toNat:Int)<128:=by omega
      go_wp2
      go_ret2
      rw[HE.out]
      exact⟨rfl,rfl⟩
    ·have hb1:¬(c.toNat:Int)<128:=by omega
     have hb2:¬191<(c.toNat:Int):=by omega
     have jy:Hid (WO (x::t) (k+1)):=fun j hj h1 h2=>by
      by_cases e:j=k
      ·subst e
       rw[←HC.out]
       omega
      ·exact HO.out j hj h1 (by omega)
     clear hb HO
     go_wp2
     go_round
     case rel=>exact⟨k+1,by omega,by omega,by go_num,jy⟩
     case measure=>simp[intOf];omega
   ·skip
    obtain rfl:k=n:=by omega
    have HA:Hid (JV t):=Jc x t (by have e:=HN.out;rw[e];exact HO.out)
    clear HO hlt
    cases t with
    |nil=>
     have hn1:=HN.out
     simp at hn1
     have HE:Hid (R=(true,decide ((k:Int)=2))):=by
      have e:=HR.out
      rw[vT x [] (QO (by rw[HZ.out];simp) HA.out (fun h=>h)),HZ.out]at e
      rw[e,←hn1]
      exact rfl
     have hn2:¬(1:Int)<(k:Int):=by omega
     clear hn1
     go_wp2
     go_ret2
     rw[HE.out]
     exact⟨vS rfl (iO (by rw[Bool.eq_iff_iff];simp)),rfl⟩
    | cons y t'=>
     have hc1:w.cell? ⟨b,off+1,none⟩=some (.int .u8 (y.toNat:Int)):=HL.out 1 (by simp)
     have hn1:=HN.out
     simp only[List.length_cons]at hn1
     have hn2:(1:Int)<(k:Int):=by omega
     have hy0:0≤(y.toNat:Int)∧(y.toNat:Int)<256:=by have:=y.toNat_lt;omega
     have HK:Hid ((((y::t').length:Nat):Int)+1=k):=by show _=_;simp only[List.length_cons];omega
     clear hn1
     by_cases hbd:Fv x.toNat y.toNat
     ·have HE:Hid (R=(false,false)):=by
       have e:=HR.out
       rw[xu x (y::t') (.inr (.inr hbd))]at e
       exact e
      unfold Fv at hbd
      exact absurd hbd (by omega)
     ·have HE:Hid (R=(true,decide ((k:Int)=2))):=by
       have e:=HR.out
       rw[vT x (y::t') (QO (by rw[HZ.out];have:=HK.out;omega) HA.out hbd),HZ.out,HK.out]at e
       exact e
      unfold Fv at hbd
      clear hbd
      go_wp2
      all_goals
       go_ret2
       rw[HE.out]
       exact⟨vS rfl (iO (by rw[Bool.eq_iff_iff];simp)),rfl⟩
theorem anH (b off cap:Nat) (x:UInt8) (t:List UInt8) (n:Nat) (w:World) (hn:t.length+1=n) (hm:n≤16) (hz:size x.toNat=3)
  (hL:∀j (h:j<(x::t).length),w.cell? ⟨b,off+j,none⟩=some (.int .u8 ((x::t)[j].toNat:Int)))
  (k1:224≤(x.toNat:Int)) (k2:(x.toNat:Int)≤239)
  (R:Bool×Bool) (hR:R=st (x::t)):
  Calls Tryz.prog 157 #[.slice (some ⟨b,off,none⟩) n cap] w fun e w'=>e=.returned (.tuple #[.bool R.1,.bool R.2])∧w=w':=by
 have hc0:w.cell? ⟨b,off,none⟩=some (.int .u8 (x.toNat:Int)):=by
  have:=hL 0 (by simp)
  rw[Nat.add_zero]at this
  exact this
 have HL:=hid hL
 have HN:=hid hn
 have HZ:=hid hz
 have HR:=hid hR
 have hp:(0:Int)<(n:Int):=by omega
 clear hL hn hz hR
 by_cases alY:(3:Int)<(n:Int)
 ·have HE:Hid (R=(false,false)):=by
   have e:=HR.out
   rw[xu x t (.inl (by rw[HZ.out];have:=HN.out;omega))]at e
   exact e
  go_enter Tryz.func157,Tryz.ntmps157
  go_wp2
  go_ret2
  rw[HE.out]
  exact⟨rfl,rfl⟩
 ·go_enter Tryz.func157,Tryz.ntmps157
  go_wp2
  go_loop [5] (fun vk=>∃k:Nat,1≤k∧k≤n∧vk=.int .i64 k∧Hid (WO (x::t) k)) (fun vk=>n - (intOf vk).toNat)
  case atStart=>exact⟨1,by omega,by omega,rfl,fun j _ h1 h2=>absurd h2 (by omega)⟩
  case round=>
   obtain⟨k,hk1,hk2,rfl,HO⟩:=hrel
   by_cases hlt:k<n
   ·have hlx:k<(x::t).length:=by have:=HN.out;simp;omega
    obtain⟨c,hc⟩:∃c,c=(x::t)[k]:=⟨_,rfl⟩
    have hcell:w.cell? ⟨b,off+k,none⟩=some (.int .u8 (c.toNat:Int)):=by rw[hc];exact HL.out k hlx
    have HC:=hid hc
    clear hc
    by_cases hb:(c.toNat:Int)<128∨191<(c.toNat:Int)
    ·have HE:Hid (R=(false,false)):=by
      have e:=HR.out
      rw[xu x t (.inr (.inl (Jd x t k (by have:=HN.out;omega) hk1 (by rw[←HC.out];exact hb))))]at e
      exact e
     rcases hb with hb|hb
     ·go_wp2
      go_ret2
      rw[HE.out]
      exact⟨rfl,rfl⟩
     ·have hb':¬(c.toNat:Int)<128:=by omega
      go_wp2
      go_ret2
      rw[HE.out]
      exact⟨rfl,rfl⟩
    ·have hb1:¬(c.toNat:Int)<128:=by omega
     have hb2:¬191<(c.toNat:Int):=by omega
     have jy:Hid (WO (x::t) (k+1)):=fun j hj h1 h2=>by
      by_cases e:j=k
      ·subst e
       rw[←HC.out]
       omega
      ·exact HO.out j hj h1 (by omega)
     clear hb HO
     go_wp2
     go_round
     case rel=>exact⟨k+1,by omega,by omega,by go_num,jy⟩
     case measure=>simp[intOf];omega
   ·skip
    obtain rfl:k=n:=by omega
    have HA:Hid (JV t):=Jc x t (by have e:=HN.out;rw[e];exact HO.out)
    clear HO hlt
    cases t with
    |nil=>
     have hn1:=HN.out
     simp at hn1
     have HE:Hid (R=(true,decide ((k:Int)=3))):=by
      have e:=HR.out
      rw[vT x [] (QO (by rw[HZ.out];simp) HA.out (fun h=>h)),HZ.out]at e
      rw[e,←hn1]
      exact rfl
     have hn2:¬(1:Int)<(k:Int):=by omega
     clear hn1
     go_wp2
     go_ret2
     rw[HE.out]
     exact⟨vS rfl (iO (by rw[Bool.eq_iff_iff];simp)),rfl⟩
    | cons y t'=>
     have hc1:w.cell? ⟨b,off+1,none⟩=some (.int .u8 (y.toNat:Int)):=HL.out 1 (by simp)
     have hn1:=HN.out
     simp only[List.length_cons]at hn1
     have hn2:(1:Int)<(k:Int):=by omega
     have hy0:0≤(y.toNat:Int)∧(y.toNat:Int)<256:=by have:=y.toNat_lt;omega
     have HK:Hid ((((y::t').length:Nat):Int)+1=k):=by show _=_;simp only[List.length_cons];omega
     clear hn1
     by_cases hbd:Fv x.toNat y.toNat
     ·have HE:Hid (R=(false,false)):=by
       have e:=HR.out
       rw[xu x (y::t') (.inr (.inr hbd))]at e
       exact e
      unfold Fv at hbd
      rcases hbd with hbd|hbd|hbd|hbd
      ·obtain⟨q1,q2⟩:=hbd
       have q3:((x.toNat:Int)==224)=true:=by rw[beq_iff_eq];exact q1
       have aek:((x.toNat:Int)==237)=false:=by rw[beq_eq_false_iff_ne];omega
       have ael:((x.toNat:Int)==240)=false:=by rw[beq_eq_false_iff_ne];omega
       have aem:((x.toNat:Int)==244)=false:=by rw[beq_eq_false_iff_ne];omega
       clear q1
       go_wp2
       go_ret2
       rw[HE.out]
       exact⟨rfl,rfl⟩
      ·obtain⟨q1,q2⟩:=hbd
       have q3:((x.toNat:Int)==237)=true:=by rw[beq_iff_eq];exact q1
       have aej:((x.toNat:Int)==224)=false:=by rw[beq_eq_false_iff_ne];omega
       have ael:((x.toNat:Int)==240)=false:=by rw[beq_eq_false_iff_ne];omega
       have aem:((x.toNat:Int)==244)=false:=by rw[beq_eq_false_iff_ne];omega
       clear q1
       go_wp2
       go_ret2
       rw[HE.out]
       exact⟨rfl,rfl⟩
      ·exact absurd hbd.1 (by omega)
      ·exact absurd hbd.1 (by omega)
     ·have HE:Hid (R=(true,decide ((k:Int)=3))):=by
       have e:=HR.out
       rw[vT x (y::t') (QO (by rw[HZ.out];have:=HK.out;omega) HA.out hbd),HZ.out,HK.out]at e
       exact e
      unfold Fv at hbd
      by_cases e1:(x.toNat:Int)=224
      ·have q1:((x.toNat:Int)==224)=true:=by rw[beq_iff_eq];exact e1
       have q2:¬(y.toNat:Int)<160:=by omega
       have aek:((x.toNat:Int)==237)=false:=by rw[beq_eq_false_iff_ne];omega
       have ael:((x.toNat:Int)==240)=false:=by rw[beq_eq_false_iff_ne];omega
       have aem:((x.toNat:Int)==244)=false:=by rw[beq_eq_false_iff_ne];omega
       clear e1 hbd
       go_wp2
       all_goals
        go_ret2
        rw[HE.out]
        exact⟨vS rfl (iO (by rw[Bool.eq_iff_iff];simp)),rfl⟩
      ·by_cases e2:(x.toNat:Int)=237
       ·have q1:((x.toNat:Int)==237)=true:=by rw[beq_iff_eq];exact e2
        have q2:¬159<(y.toNat:Int):=by omega
        have aej:((x.toNat:Int)==224)=false:=by rw[beq_eq_false_iff_ne];omega
        have ael:((x.toNat:Int)==240)=false:=by rw[beq_eq_false_iff_ne];omega
        have aem:((x.toNat:Int)==244)=false:=by rw[beq_eq_false_iff_ne];omega
        clear e1 e2 hbd
        go_wp2
        all_goals
         go_ret2
         rw[HE.out]
         exact⟨vS rfl (iO (by rw[Bool.eq_iff_iff];simp)),rfl⟩
       ·skip
        have aej:((x.toNat:Int)==224)=false:=by rw[beq_eq_false_iff_ne];omega
        have aek:((x.toNat:Int)==237)=false:=by rw[beq_eq_false_iff_ne];omega
        have ael:((x.toNat:Int)==240)=false:=by rw[beq_eq_false_iff_ne];omega
        have aem:((x.toNat:Int)==244)=false:=by rw[beq_eq_false_iff_ne];omega
        clear e1 e2 hbd
        go_wp2
        all_goals
         go_ret2
         rw[HE.out]
         exact⟨vS rfl (iO (by rw[Bool.eq_iff_iff];simp)),rfl⟩
theorem anI (b off cap:Nat) (x:UInt8) (t:List UInt8) (n:Nat) (w:World) (hn:t.length+1=n) (hm:n≤16) (hz:size x.toNat=4)
  (hL:∀j (h:j<(x::t).length),w.cell? ⟨b,off+j,none⟩=some (.int .u8 ((x::t)[j].toNat:Int)))
  (k1:240≤(x.toNat:Int)) (k2:(x.toNat:Int)≤244)
  (R:Bool×Bool) (hR:R=st (x::t)):
  Calls Tryz.prog 157 #[.slice (some ⟨b,off,none⟩) n cap] w fun e w'=>e=.returned (.tuple #[.bool R.1,.bool R.2])∧w=w':=by
 have hc0:w.cell? ⟨b,off,none⟩=some (.int .u8 (x.toNat:Int)):=by
  have:=hL 0 (by simp)
  rw[Nat.add_zero]at this
  exact this
 have HL:=hid hL
 have HN:=hid hn
 have HZ:=hid hz
 have HR:=hid hR
 have hp:(0:Int)<(n:Int):=by omega
 clear hL hn hz hR
 by_cases alY:(4:Int)<(n:Int)
 ·have HE:Hid (R=(false,false)):=by
   have e:=HR.out
   rw[xu x t (.inl (by rw[HZ.out];have:=HN.out;omega))]at e
   exact e
  go_enter Tryz.func157,Tryz.ntmps157
  go_wp2
  go_ret2
  rw[HE.out]
  exact⟨rfl,rfl⟩
 ·go_enter Tryz.func157,Tryz.ntmps157
  go_wp2
  go_loop [5] (fun vk=>∃k:Nat,1≤k∧k≤n∧vk=.int .i64 k∧Hid (WO (x::t) k)) (fun vk=>n - (intOf vk).toNat)
  case atStart=>exact⟨1,by omega,by omega,rfl,fun j _ h1 h2=>absurd h2 (by omega)⟩
  case round=>
   obtain⟨k,hk1,hk2,rfl,HO⟩:=hrel
   by_cases hlt:k<n
   ·have hlx:k<(x::t).length:=by have:=HN.out;simp;omega
    obtain⟨c,hc⟩:∃c,c=(x::t)[k]:=⟨_,rfl⟩
    have hcell:w.cell? ⟨b,off+k,none⟩=some (.int .u8 (c.toNat:Int)):=by rw[hc];exact HL.out k hlx
    have HC:=hid hc
    clear hc
    by_cases hb:(c.toNat:Int)<128∨191<(c.toNat:Int)
    ·have HE:Hid (R=(false,false)):=by
      have e:=HR.out
      rw[xu x t (.inr (.inl (Jd x t k (by have:=HN.out;omega) hk1 (by rw[←HC.out];exact hb))))]at e
      exact e
     rcases hb with hb|hb
     ·go_wp2
      go_ret2
      rw[HE.out]
      exact⟨rfl,rfl⟩
     ·have hb':¬(c.toNat:Int)<128:=by omega
      go_wp2
      go_ret2
      rw[HE.out]
      exact⟨rfl,rfl⟩
    ·have hb1:¬(c.toNat:Int)<128:=by omega
     have hb2:¬191<(c.toNat:Int):=by omega
     have jy:Hid (WO (x::t) (k+1)):=fun j hj h1 h2=>by
      by_cases e:j=k
      ·subst e
       rw[←HC.out]
       omega
      ·exact HO.out j hj h1 (by omega)
     clear hb HO
     go_wp2
     go_round
     case rel=>exact⟨k+1,by omega,by omega,by go_num,jy⟩
     case measure=>simp[intOf];omega
   ·skip
    obtain rfl:k=n:=by omega
    have HA:Hid (JV t):=Jc x t (by have e:=HN.out;rw[e];exact HO.out)
    clear HO hlt
    cases t with
    |nil=>
     have hn1:=HN.out
     simp at hn1
     have HE:Hid (R=(true,decide ((k:Int)=4))):=by
      have e:=HR.out
      rw[vT x [] (QO (by rw[HZ.out];simp) HA.out (fun h=>h)),HZ.out]at e
      rw[e,←hn1]
      exact rfl
     have hn2:¬(1:Int)<(k:Int):=by omega
     clear hn1
     go_wp2
     go_ret2
     rw[HE.out]
     exact⟨vS rfl (iO (by rw[Bool.eq_iff_iff];simp)),rfl⟩
    | cons y t'=>
     have hc1:w.cell? ⟨b,off+1,none⟩=some (.int .u8 (y.toNat:Int)):=HL.out 1 (by simp)
     have hn1:=HN.out
     simp only[List.length_cons]at hn1
     have hn2:(1:Int)<(k:Int):=by omega
     have hy0:0≤(y.toNat:Int)∧(y.toNat:Int)<256:=by have:=y.toNat_lt;omega
     have HK:Hid ((((y::t').length:Nat):Int)+1=k):=by show _=_;simp only[List.length_cons];omega
     clear hn1
     by_cases hbd:Fv x.toNat y.toNat
     ·have HE:Hid (R=(false,false)):=by
       have e:=HR.out
       rw[xu x (y::t') (.inr (.inr hbd))]at e
       exact e
      unfold Fv at hbd
      rcases hbd with hbd|hbd|hbd|hbd
      ·exact absurd hbd.1 (by omega)
      ·exact absurd hbd.1 (by omega)
      ·obtain⟨q1,q2⟩:=hbd
       have q3:((x.toNat:Int)==240)=true:=by rw[beq_iff_eq];exact q1
       have aej:((x.toNat:Int)==224)=false:=by rw[beq_eq_false_iff_ne];omega
       have aek:((x.toNat:Int)==237)=false:=by rw[beq_eq_false_iff_ne];omega
       have aem:((x.toNat:Int)==244)=false:=by rw[beq_eq_false_iff_ne];omega
       clear q1
       go_wp2
       go_ret2
       rw[HE.out]
       exact⟨rfl,rfl⟩
      ·obtain⟨q1,q2⟩:=hbd
       have q3:((x.toNat:Int)==244)=true:=by rw[beq_iff_eq];exact q1
       have aej:((x.toNat:Int)==224)=false:=by rw[beq_eq_false_iff_ne];omega
       have aek:((x.toNat:Int)==237)=false:=by rw[beq_eq_false_iff_ne];omega
       have ael:((x.toNat:Int)==240)=false:=by rw[beq_eq_false_iff_ne];omega
       clear q1
       go_wp2
       go_ret2
       rw[HE.out]
       exact⟨rfl,rfl⟩
     ·have HE:Hid (R=(true,decide ((k:Int)=4))):=by
       have e:=HR.out
       rw[vT x (y::t') (QO (by rw[HZ.out];have:=HK.out;omega) HA.out hbd),HZ.out,HK.out]at e
       exact e
      unfold Fv at hbd
      by_cases e1:(x.toNat:Int)=240
      ·have q1:((x.toNat:Int)==240)=true:=by rw[beq_iff_eq];exact e1
       have q2:¬(y.toNat:Int)<144:=by omega
       have aej:((x.toNat:Int)==224)=false:=by rw[beq_eq_false_iff_ne];omega
       have aek:((x.toNat:Int)==237)=false:=by rw[beq_eq_false_iff_ne];omega
       have aem:((x.toNat:Int)==244)=false:=by rw[beq_eq_false_iff_ne];omega
       clear e1 hbd
       go_wp2
       all_goals
        go_ret2
        rw[HE.out]
        exact⟨vS rfl (iO (by rw[Bool.eq_iff_iff];simp)),rfl⟩
      ·by_cases e2:(x.toNat:Int)=244
       ·have q1:((x.toNat:Int)==244)=true:=by rw[beq_iff_eq];exact e2
        have q2:¬143<(y.toNat:Int):=by omega
        have aej:((x.toNat:Int)==224)=false:=by rw[beq_eq_false_iff_ne];omega
        have aek:((x.toNat:Int)==237)=false:=by rw[beq_eq_false_iff_ne];omega
        have ael:((x.toNat:Int)==240)=false:=by rw[beq_eq_false_iff_ne];omega
        clear e1 e2 hbd
        go_wp2
        all_goals
         go_ret2
         rw[HE.out]
         exact⟨vS rfl (iO (by rw[Bool.eq_iff_iff];simp)),rfl⟩
       ·skip
        have aej:((x.toNat:Int)==224)=false:=by rw[beq_eq_false_iff_ne];omega
        have aek:((x.toNat:Int)==237)=false:=by rw[beq_eq_false_iff_ne];omega
        have ael:((x.toNat:Int)==240)=false:=by rw[beq_eq_false_iff_ne];omega
        have aem:((x.toNat:Int)==244)=false:=by rw[beq_eq_false_iff_ne];omega
        clear e1 e2 hbd
        go_wp2
        all_goals
         go_ret2
         rw[HE.out]
         exact⟨vS rfl (iO (by rw[Bool.eq_iff_iff];simp)),rfl⟩
theorem aiL (b off cap:Nat) (x:UInt8) (t:List UInt8) (n:Nat) (w:World) (hn:t.length+1=n) (hm:n≤16) (hz:size x.toNat=0)
  (hL:∀j (h:j<(x::t).length),w.cell? ⟨b,off+j,none⟩=some (.int .u8 ((x::t)[j].toNat:Int)))
  (k1:128≤(x.toNat:Int)) (k2:(x.toNat:Int)≤193)
  (R:Bool×Bool) (hR:R=st (x::t)):
  Calls Tryz.prog 157 #[.slice (some ⟨b,off,none⟩) n cap] w fun e w'=>e=.returned (.tuple #[.bool R.1,.bool R.2])∧w=w':=by
 have hc0:w.cell? ⟨b,off,none⟩=some (.int .u8 (x.toNat:Int)):=by
  have:=hL 0 (by simp)
  rw[Nat.add_zero]at this
  exact this
 have HL:=hid hL
 have HN:=hid hn
 have HZ:=hid hz
 have HR:=hid hR
 have hp:(0:Int)<(n:Int):=by omega
 clear hL hn hz hR
 have HE:Hid (R=(false,false)):=by
  have e:=HR.out
  rw[xu x t (.inl (by rw[HZ.out];have:=HN.out;omega))]at e
  exact e
 go_enter Tryz.func157,Tryz.ntmps157
 go_wp2
 go_ret2
 rw[HE.out]
 exact⟨rfl,rfl⟩
theorem aiM (b off cap:Nat) (x:UInt8) (t:List UInt8) (n:Nat) (w:World) (hn:t.length+1=n) (hm:n≤16) (hz:size x.toNat=0)
  (hL:∀j (h:j<(x::t).length),w.cell? ⟨b,off+j,none⟩=some (.int .u8 ((x::t)[j].toNat:Int)))
  (k1:245≤(x.toNat:Int))
  (R:Bool×Bool) (hR:R=st (x::t)):
  Calls Tryz.prog 157 #[.slice (some ⟨b,off,none⟩) n cap] w fun e w'=>e=.returned (.tuple #[.bool R.1,.bool R.2])∧w=w':=by
 have hc0:w.cell? ⟨b,off,none⟩=some (.int .u8 (x.toNat:Int)):=by
  have:=hL 0 (by simp)
  rw[Nat.add_zero]at this
  exact this
 have HL:=hid hL
 have HN:=hid hn
 have HZ:=hid hz
 have HR:=hid hR
 have hp:(0:Int)<(n:Int):=by omega
 clear hL hn hz hR
 have HE:Hid (R=(false,false)):=by
  have e:=HR.out
  rw[xu x t (.inl (by rw[HZ.out];have:=HN.out;omega))]at e
  exact e
 go_enter Tryz.func157,Tryz.ntmps157
 go_wp2
 go_ret2
 rw[HE.out]
 exact⟨rfl,rfl⟩
end Go.Proofs.YtmpeaoacaecgpaaGreatDoor.RefS
namespace Go.Proofs.YtmpeaoacaecgpaaGreatDoor.RefN
open Go.RowKit Base Base2 qh RefS
def inR:Int→Int→List UInt8→Prop
 |_,_,[]=>True
 |l,h,c::t=>l≤(c.toNat:Int)∧(c.toNat:Int)≤h∧inR 128 191 t
def fo (r:Int) (t:List UInt8):Int:=t.foldl (fun r c=>r*64+(c.toNat:Int)%64) r
theorem RY:∀(p:List UInt8) (m k:Nat) (l h r:Int) (rest:List UInt8),inR l h p→p.length=m→tail m k l h r (p++rest)=(fo r p,((k+m:Nat):Int),true)
 |[],m,k,l,h,r,rest,_,hm=>by
  simp at hm
  subst hm
  simp[tail,fo]
 |c::p,0,k,l,h,r,rest,_,hm=>by simp at hm
 |c::p,m+1,k,l,h,r,rest,hi,hm=>by
  obtain⟨h1,h2,h3⟩:=hi
  rw[List.cons_append,tail,if_neg (by omega),RY p m (k+1) 128 191 _ rest h3 (by simpa using hm)]
  refine Prod.ext rfl (Prod.ext ?_ rfl)
  simp only
  omega
theorem Wh:∀(p:List UInt8) (m k:Nat) (l h r:Int) (rest:List UInt8),inR l h p→p.length<m→(rest=[]∨∃c t,rest=c::t∧(p=[]→((c.toNat:Int)<l∨h<(c.toNat:Int)))∧(p≠[]→((c.toNat:Int)<128∨191<(c.toNat:Int))))→
  tail m k l h r (p++rest)=(65533,((k+p.length:Nat):Int),false)
 |_,0,_,_,_,_,_,_,hm,_=>by simp at hm
 |[],m+1,k,l,h,r,rest,_,hm,hr=>by
  rcases hr with rfl|⟨c,t,rfl,hc,_⟩
  ·simp[tail]
  ·rw[List.nil_append,tail,if_pos (hc rfl)]
   simp
 |c::p,m+1,k,l,h,r,rest,hi,hm,hr=>by
  obtain⟨h1,h2,h3⟩:=hi
  rw[List.cons_append,tail,if_neg (by omega),Wh p m (k+1) 128 191 _ rest h3 (by simpa using hm) (by
   rcases hr with hr|⟨c',t',e,_,h5⟩
   ·exact .inl hr
   ·exact .inr ⟨c',t',e,fun _=>h5 (by simp),fun _=>h5 (by simp)⟩)]
  refine Prod.ext rfl (Prod.ext ?_ rfl)
  simp only[List.length_cons]
  omega
theorem amb:∀t:List UInt8,inR 128 191 t↔JV t
 |[]=>by simp[inR,JV]
 |c::t=>by
  have:=amb t
  unfold JV at this⊢
  simp only[inR,List.forall_mem_cons,this,and_assoc]
theorem aaT (c:UInt8) (t:List UInt8):JV (c::t)↔(128≤(c.toNat:Int)∧(c.toNat:Int)≤191)∧JV t:=by
 unfold JV
 simp only[List.forall_mem_cons]
theorem Vp (x:Int) (hs:2≤size x) (p:List UInt8):inR (lo x) (hi x) p↔JV p∧¬bad x p:=by
 have hx:194≤x∧x≤244:=by
  unfold size at hs
  (repeat' split at hs)<;>omega
 cases p with
 |nil=>simp[inR,JV,bad]
 |cons c t=>
  rw[aaT,inR,amb]
  unfold bad Fv lo hi
  constructor
  ·rintro⟨h1,h2,h3⟩
   refine⟨⟨?_,h3⟩,?_⟩
   ·(repeat' split at h1)<;>(repeat' split at h2)<;>omega
   (repeat' split at h1)<;>(repeat' split at h2)<;>omega
  rintro⟨⟨h1,h3⟩,h2⟩
  refine⟨?_,?_,h3⟩
  ·(repeat' split)<;>omega
  (repeat' split)<;>omega
def first(x:Int):Int:=if x≤127 then x else if x≤223 then x%32 else if x≤239 then x%16 else x%8
theorem size_le (x:Int):0≤size x∧size x≤4:=by unfold size;(repeat' split)<;>omega
theorem agh (x:UInt8) (T:List UInt8) (hs:1≤size x.toNat):rd (x::T)=tail (size x.toNat - 1).toNat 1 (lo x.toNat) (hi x.toNat) (first x.toNat) T:=by
 have hx0:0≤(x.toNat:Int):=by omega
 by_cases a:(x.toNat:Int)≤127
 ·have e:size x.toNat=1:=by unfold size;rw[if_pos a]
  rw[rd,if_pos a,e]
  simp[tail,first,a]
 by_cases b:(x.toNat:Int)≤193∨245≤(x.toNat:Int)
 ·exfalso
  unfold size at hs
  (repeat' split at hs)<;>omega
 rw[rd,if_neg a,if_neg b]
 unfold first
 rw[if_neg a]
 by_cases c:(x.toNat:Int)≤223
 ·have e:size x.toNat=2:=by unfold size;rw[if_neg a,if_pos (by omega)]
  rw[if_pos c,if_pos c,e]
  rfl
 rw[if_neg c,if_neg c]
 by_cases d:(x.toNat:Int)≤239
 ·have e:size x.toNat=3:=by unfold size;rw[if_neg a,if_neg (by omega),if_pos (by omega)]
  rw[if_pos d,if_pos d,e]
  rfl
 have e:size x.toNat=4:=by unfold size;rw[if_neg a,if_neg (by omega),if_neg (by omega),if_pos (by omega)]
 rw[if_neg d,if_neg d,e]
 rfl
theorem rd_zero (x:UInt8) (T:List UInt8) (hs:size x.toNat<1):rd (x::T)=(65533,1,false):=by
 have b:((x.toNat:Int)≤193∨245≤(x.toNat:Int))∧¬(x.toNat:Int)≤127:=by
  unfold size at hs
  (repeat' split at hs)<;>omega
 rw[rd,if_neg b.2,if_pos b.1]
theorem JC (x:UInt8) (p:List UInt8) (W:Bool) (h:st (x::p)=(true,W)):¬size x.toNat<(p.length:Int)+1∧JV p∧¬bad x.toNat p∧W=decide ((p.length:Int)+1=size x.toNat):=by
 rw[st]at h
 split at h
 ·cases h
 rename_i hn
 injection h with h1 h2
 refine⟨fun a=>hn (.inl a),?_,fun a=>hn (.inr (.inr a)),h2.symm⟩
 exact Decidable.byContradiction fun a=>hn (.inr (.inl a))
theorem afF (x:Int) (p:List UInt8) (hs:1≤size x) (hp:(p.length:Int)+1≤size x) (h1:JV p) (h2:¬bad x p):inR (lo x) (hi x) p:=by
 by_cases a:2≤size x
 ·exact(Vp x a p).2 ⟨h1,h2⟩
 cases p with
 |nil=>trivial
 |cons c t=>simp at hp;omega
theorem an2 (x:UInt8) (p rest:List UInt8) (h:st (x::p)=(true,true)):rd (x::(p++rest))=(fo (first x.toNat) p,(p.length:Int)+1,true):=by
 obtain⟨h1,h2,h3,h4⟩:=JC x p true h
 have h5:(p.length:Int)+1=size x.toNat:=by simpa using h4.symm
 rw[agh x _ (by omega),RY p _ 1 _ _ _ rest (afF _ p (by omega) (by omega) h2 h3) (by omega)]
 refine Prod.ext rfl (Prod.ext ?_ rfl)
 simp only
 omega
theorem part_rd (x:UInt8) (p rest:List UInt8) (h:st (x::p)=(true,false)) (hr:rest=[]∨∃c t,rest=c::t∧(st (x::(p++[c]))).1=false):rd (x::(p++rest))=(65533,(p.length:Int)+1,false):=by
 obtain⟨h1,h2,h3,h4⟩:=JC x p false h
 have h5:¬(p.length:Int)+1=size x.toNat:=by simpa using h4.symm
 have h6:2≤size x.toNat:=by omega
 rw [agh x _ (by omega),Wh p _ 1 _ _ _ rest (afF _ p (by omega) (by omega) h2 h3) (by omega) (by
  rcases hr with hr|⟨c,t,rfl,hc⟩
  ·exact .inl hr
  refine .inr ⟨c,t,rfl,?_,?_⟩
  ·rintro rfl
   have hn:¬inR (lo x.toNat) (hi x.toNat) [c]:=by
    intro hi
    obtain⟨a1,a2⟩:=(Vp _ h6 [c]).1 hi
    have:st (x::([]++[c]))=(true,decide ((([c]:List UInt8).length:Int)+1=size x.toNat)):=vT x [c] (QO (by simp;omega) a1 a2)
    rw[this]at hc
    cases hc
   simp only[inR,and_true]at hn
   omega
  intro hp
  have hn:¬JV [c]:=by
   intro hok
   have a1:JV (p++[c]):=by
    intro d hd
    rcases List.mem_append.1 hd with hd|hd
    ·exact h2 d hd
    exact hok d hd
   have a2:¬bad x.toNat (p++[c]):=by
    cases p with
    |nil=>exact absurd rfl hp
    |cons d p=>exact h3
   have:st (x::(p++[c]))=(true,decide (((p++[c]).length:Int)+1=size x.toNat)):=vT x _ (QO (by simp;omega) a1 a2)
   rw[this]at hc
   cases hc
  rw[aaT]at hn
  have:JV []:=by intro d hd;cases hd
  simp only[this,and_true]at hn
  omega)]
 refine Prod.ext rfl (Prod.ext ?_ rfl)
 simp only
 omega
theorem none_rd (x:UInt8) (T:List UInt8) (h:(st [x]).1=false):rd (x::T)=(65533,1,false):=by
 refine rd_zero x T ?_
 rcases Int.lt_or_le (size x.toNat) 1 with h1|h1
 ·exact h1
 have:st [x]=(true,decide ((([]:List UInt8).length:Int)+1=size x.toNat)):=vT x [] (QO (by simp;omega) (by intro d hd;cases hd) (fun h=>h))
 rw[this]at h
 cases h
end Go.Proofs.YtmpeaoacaecgpaaGreatDoor.RefN
namespace Go.Proofs.YtmpeaoacaecgpaaGreatDoor.RefM
open Go.RowKit Base Base2 qh RefS RefN
theorem amF (b off cap:Nat) (x:UInt8) (t:List UInt8) (w:World) (hn:t.length=0) (k2:(x.toNat:Int)≤127)
  (hL:∀j (h:j<(x::t).length),w.cell? ⟨b,off+j,none⟩=some (.int .u8 ((x::t)[j].toNat:Int))) (hok:JV t):
  Calls Tryz.prog 158 #[.slice (some ⟨b,off,none⟩) 1 cap] w fun e w'=>e=.returned (.int .i32 (fo (first x.toNat) t))∧w=w':=by
 have hc0:w.cell? ⟨b,off,none⟩=some (.int .u8 (x.toNat:Int)):=by
  have:=hL 0 (by simp)
  rw[Nat.add_zero]at this
  exact this
 have hx0:0≤(x.toNat:Int):=by omega
 have hf:first x.toNat=(x.toNat:Int):=by unfold first;(repeat' split)<;>omega
 obtain⟨f,hf2⟩:∃f,f=first x.toNat:=⟨_,rfl⟩
 rw[←hf2]at hf⊢
 have hb0:0≤(x.toNat:Int)∧(x.toNat:Int)<128:=by omega
 have HL:=hid hL
 have HN:=hid hn
 have HO:=hid hok
 have HF:=hid hf
 clear hL hn hok hf hf2
 go_enter Tryz.func158,Tryz.ntmps158
 go_wp2
 go_loop [3,4] (fun vr vk=>∃(k:Nat) (r:Int),1≤k∧k≤1∧vk=.int .i64 k∧vr=.int .i32 r∧0≤r∧r<4*room k∧Hid (fo r (t.drop (k - 1))=fo f t)) (fun _ vk=>1 - (intOf vk).toNat)
 case atStart=>exact⟨1,(x.toNat:Int),by omega,by omega,rfl,rfl,by omega,by have:room 1=32:=rfl;omega,by rw[HF.out];exact rfl⟩
 case round=>
  obtain⟨k,r,hk1,hk2,rfl,rfl,hr1,hr2,HT⟩:=hrel
  by_cases hlt:k<1
  ·exact absurd hlt (by omega)
  ·obtain rfl:k=1:=by omega
   have HE:Hid (fo f t=r):=by
    have e:=HT.out
    rw[List.drop_of_length_le (by have:=HN.out;omega)]at e
    exact e.symm
   go_wp2
   go_ret
   rw[HE.out]
   exact⟨rfl,rfl⟩
theorem amG (b off cap:Nat) (x:UInt8) (t:List UInt8) (w:World) (hn:t.length=1) (k1:194≤(x.toNat:Int)) (k2:(x.toNat:Int)≤223)
  (hL:∀j (h:j<(x::t).length),w.cell? ⟨b,off+j,none⟩=some (.int .u8 ((x::t)[j].toNat:Int))) (hok:JV t):
  Calls Tryz.prog 158 #[.slice (some ⟨b,off,none⟩) 2 cap] w fun e w'=>e=.returned (.int .i32 (fo (first x.toNat) t))∧w=w':=by
 have hc0:w.cell? ⟨b,off,none⟩=some (.int .u8 (x.toNat:Int)):=by
  have:=hL 0 (by simp)
  rw[Nat.add_zero]at this
  exact this
 have hx0:0≤(x.toNat:Int):=by omega
 have hf:first x.toNat=(x.toNat:Int) - 192:=by unfold first;(repeat' split)<;>omega
 obtain⟨f,hf2⟩:∃f,f=first x.toNat:=⟨_,rfl⟩
 rw[←hf2]at hf⊢
 have hb0:0≤(x.toNat:Int) - 192∧(x.toNat:Int) - 192<128:=by omega
 have HL:=hid hL
 have HN:=hid hn
 have HO:=hid hok
 have HF:=hid hf
 clear hL hn hok hf hf2
 go_enter Tryz.func158,Tryz.ntmps158
 go_wp2
 go_loop [3,4] (fun vr vk=>∃(k:Nat) (r:Int),1≤k∧k≤2∧vk=.int .i64 k∧vr=.int .i32 r∧0≤r∧r<4*room k∧Hid (fo r (t.drop (k - 1))=fo f t)) (fun _ vk=>2 - (intOf vk).toNat)
 case atStart=>exact⟨1,(x.toNat:Int) - 192,by omega,by omega,rfl,rfl,by omega,by have:room 1=32:=rfl;omega,by rw[HF.out];exact rfl⟩
 case round=>
  obtain⟨k,r,hk1,hk2,rfl,rfl,hr1,hr2,HT⟩:=hrel
  by_cases hlt:k<2
  ·obtain⟨hb1,hb2⟩:=uI k hk1 (by omega)
   have HB:=hid hb1
   clear hb1
   have hr3:r<524288:=by omega
   have hlx:k - 1<t.length:=by have:=HN.out;omega
   obtain⟨c,hc⟩:∃c,c=t[k - 1]:=⟨_,rfl⟩
   have hcell:w.cell? ⟨b,off+k,none⟩=some (.int .u8 (c.toNat:Int)):=by
    rw[HL.out k (by simp;omega),hc]
    obtain⟨i,rfl⟩:∃i,k=i+1:=⟨k - 1,by omega⟩
    simp
   obtain⟨hc1,hc2⟩:=HO.out c (by rw[hc];exact List.getElem_mem _)
   have HD:Hid (fo (r*64+((c.toNat:Int) - 128)) (t.drop k)=fo f t):=by
    have e:=HT.out
    rw[List.drop_eq_getElem_cons hlx,←hc,show k - 1+1=k by omega]at e
    rw[show(c.toNat:Int) - 128=(c.toNat:Int)%64 by omega]
    exact e
   clear hc HT
   go_wp2
   go_round
   case rel=>exact⟨k+1,r*64+((c.toNat:Int) - 128),by omega,by omega,by go_num,int_eq (by omega),by omega,by rw[HB.out];omega,HD⟩
   case measure=>simp[intOf];omega
  ·obtain rfl:k=2:=by omega
   have HE:Hid (fo f t=r):=by
    have e:=HT.out
    rw[List.drop_of_length_le (by have:=HN.out;omega)]at e
    exact e.symm
   go_wp2
   go_ret
   rw[HE.out]
   exact⟨rfl,rfl⟩
theorem amH (b off cap:Nat) (x:UInt8) (t:List UInt8) (w:World) (hn:t.length=2) (k1:224≤(x.toNat:Int)) (k2:(x.toNat:Int)≤239)
  (hL:∀j (h:j<(x::t).length),w.cell? ⟨b,off+j,none⟩=some (.int .u8 ((x::t)[j].toNat:Int))) (hok:JV t):
  Calls Tryz.prog 158 #[.slice (some ⟨b,off,none⟩) 3 cap] w fun e w'=>e=.returned (.int .i32 (fo (first x.toNat) t))∧w=w':=by
 have hc0:w.cell? ⟨b,off,none⟩=some (.int .u8 (x.toNat:Int)):=by
  have:=hL 0 (by simp)
  rw[Nat.add_zero]at this
  exact this
 have hx0:0≤(x.toNat:Int):=by omega
 have hf:first x.toNat=(x.toNat:Int) - 224:=by unfold first;(repeat' split)<;>omega
 obtain⟨f,hf2⟩:∃f,f=first x.toNat:=⟨_,rfl⟩
 rw[←hf2]at hf⊢
 have hb0:0≤(x.toNat:Int) - 224∧(x.toNat:Int) - 224<128:=by omega
 have HL:=hid hL
 have HN:=hid hn
 have HO:=hid hok
 have HF:=hid hf
 clear hL hn hok hf hf2
 go_enter Tryz.func158,Tryz.ntmps158
 go_wp2
 go_loop [3,4] (fun vr vk=>∃(k:Nat) (r:Int),1≤k∧k≤3∧vk=.int .i64 k∧vr=.int .i32 r∧0≤r∧r<4*room k∧Hid (fo r (t.drop (k - 1))=fo f t)) (fun _ vk=>3 - (intOf vk).toNat)
 case atStart=>exact⟨1,(x.toNat:Int) - 224,by omega,by omega,rfl,rfl,by omega,by have:room 1=32:=rfl;omega,by rw[HF.out];exact rfl⟩
 case round=>
  obtain⟨k,r,hk1,hk2,rfl,rfl,hr1,hr2,HT⟩:=hrel
  by_cases hlt:k<3
  ·obtain⟨hb1,hb2⟩:=uI k hk1 (by omega)
   have HB:=hid hb1
   clear hb1
   have hr3:r<524288:=by omega
   have hlx:k - 1<t.length:=by have:=HN.out;omega
   obtain⟨c,hc⟩:∃c,c=t[k - 1]:=⟨_,rfl⟩
   have hcell:w.cell? ⟨b,off+k,none⟩=some (.int .u8 (c.toNat:Int)):=by
    rw[HL.out k (by simp;omega),hc]
    obtain⟨i,rfl⟩:∃i,k=i+1:=⟨k - 1,by omega⟩
    simp
   obtain⟨hc1,hc2⟩:=HO.out c (by rw[hc];exact List.getElem_mem _)
   have HD:Hid (fo (r*64+((c.toNat:Int) - 128)) (t.drop k)=fo f t):=by
    have e:=HT.out
    rw[List.drop_eq_getElem_cons hlx,←hc,show k - 1+1=k by omega]at e
    rw[show(c.toNat:Int) - 128=(c.toNat:Int)%64 by omega]
    exact e
   clear hc HT
   go_wp2
   go_round
   case rel=>exact⟨k+1,r*64+((c.toNat:Int) - 128),by omega,by omega,by go_num,int_eq (by omega),by omega,by rw[HB.out];omega,HD⟩
   case measure=>simp[intOf];omega
  ·obtain rfl:k=3:=by omega
   have HE:Hid (fo f t=r):=by
    have e:=HT.out
    rw[List.drop_of_length_le (by have:=HN.out;omega)]at e
    exact e.symm
   go_wp2
   go_ret
   rw[HE.out]
   exact⟨rfl,rfl⟩
theorem amI (b off cap:Nat) (x:UInt8) (t:List UInt8) (w:World) (hn:t.length=3) (k1:240≤(x.toNat:Int)) (k2:(x.toNat:Int)≤244)
  (hL:∀j (h:j<(x::t).length),w.cell? ⟨b,off+j,none⟩=some (.int .u8 ((x::t)[j].toNat:Int))) (hok:JV t):
  Calls Tryz.prog 158 #[.slice (some ⟨b,off,none⟩) 4 cap] w fun e w'=>e=.returned (.int .i32 (fo (first x.toNat) t))∧w=w':=by
 have hc0:w.cell? ⟨b,off,none⟩=some (.int .u8 (x.toNat:Int)):=by
  have:=hL 0 (by simp)
  rw[Nat.add_zero]at this
  exact this
 have hx0:0≤(x.toNat:Int):=by omega
 have hf:first x.toNat=(x.toNat:Int) - 240:=by unfold first;(repeat' split)<;>omega
 obtain⟨f,hf2⟩:∃f,f=first x.toNat:=⟨_,rfl⟩
 rw[←hf2]at hf⊢
 have hb0:0≤(x.toNat:Int) - 240∧(x.toNat:Int) - 240<128:=by omega
 have HL:=hid hL
 have HN:=hid hn
 have HO:=hid hok
 have HF:=hid hf
 clear hL hn hok hf hf2
 go_enter Tryz.func158,Tryz.ntmps158
 go_wp2
 go_loop [3,4] (fun vr vk=>∃(k:Nat) (r:Int),1≤k∧k≤4∧vk=.int .i64 k∧vr=.int .i32 r∧0≤r∧r<4*room k∧Hid (fo r (t.drop (k - 1))=fo f t)) (fun _ vk=>4 - (intOf vk).toNat)
 case atStart=>exact⟨1,(x.toNat:Int) - 240,by omega,by omega,rfl,rfl,by omega,by have:room 1=32:=rfl;omega,by rw[HF.out];exact rfl⟩
 case round=>
  obtain⟨k,r,hk1,hk2,rfl,rfl,hr1,hr2,HT⟩:=hrel
  by_cases hlt:k<4
  ·obtain⟨hb1,hb2⟩:=uI k hk1 (by omega)
   have HB:=hid hb1
   clear hb1
   have hr3:r<524288:=by omega
   have hlx:k - 1<t.length:=by have:=HN.out;omega
   obtain⟨c,hc⟩:∃c,c=t[k - 1]:=⟨_,rfl⟩
   have hcell:w.cell? ⟨b,off+k,none⟩=some (.int .u8 (c.toNat:Int)):=by
    rw[HL.out k (by simp;omega),hc]
    obtain⟨i,rfl⟩:∃i,k=i+1:=⟨k - 1,by omega⟩
    simp
   obtain⟨hc1,hc2⟩:=HO.out c (by rw[hc];exact List.getElem_mem _)
   have HD:Hid (fo (r*64+((c.toNat:Int) - 128)) (t.drop k)=fo f t):=by
    have e:=HT.out
    rw[List.drop_eq_getElem_cons hlx,←hc,show k - 1+1=k by omega]at e
    rw[show(c.toNat:Int) - 128=(c.toNat:Int)%64 by omega]
    exact e
   clear hc HT
   go_wp2
   go_round
   case rel=>exact⟨k+1,r*64+((c.toNat:Int) - 128),by omega,by omega,by go_num,int_eq (by omega),by omega,by rw[HB.out];omega,HD⟩
   case measure=>simp[intOf];omega
  ·obtain rfl:k=4:=by omega
   have HE:Hid (fo f t=r):=by
    have e:=HT.out
    rw[List.drop_of_length_le (by have:=HN.out;omega)]at e
    exact e.symm
   go_wp2
   go_ret
   rw[HE.out]
   exact⟨rfl,rfl⟩
theorem aeC (b off n cap:Nat) (x:UInt8) (t:List UInt8) (w:World) (h:aY w (some ⟨b,off,none⟩) n (ah (x::t))) (hm:n≤16):
  Calls Tryz.prog 157 #[.slice (some ⟨b,off,none⟩) n cap] w fun e w'=>e=.returned (.tuple #[.bool (st (x::t)).1,.bool (st (x::t)).2])∧w=w':=by
 have hn:t.length+1=n:=by have:=h.1;rw[aI]at this;exact this
 have hL:∀j (hj:j<(x::t).length),w.cell? ⟨b,off+j,none⟩=some (.int .u8 ((x::t)[j].toNat:Int)):=fun j hj=>h.byte j hj
 by_cases a:(x.toNat:Int)<128
 ·exact anF b off cap x t n w hn hm (by unfold size;(repeat' split)<;>omega) hL a _ rfl
 by_cases b0:(x.toNat:Int)≤193
 ·exact aiL b off cap x t n w hn hm (by unfold size;(repeat' split)<;>omega) hL (by omega) b0 _ rfl
 by_cases b1:(x.toNat:Int)≤223
 ·exact anG b off cap x t n w hn hm (by unfold size;(repeat' split)<;>omega) hL (by omega) b1 _ rfl
 by_cases b2:(x.toNat:Int)≤239
 ·exact anH b off cap x t n w hn hm (by unfold size;(repeat' split)<;>omega) hL (by omega) b2 _ rfl
 by_cases b3:(x.toNat:Int)≤244
 ·exact anI b off cap x t n w hn hm (by unfold size;(repeat' split)<;>omega) hL (by omega) b3 _ rfl
 ·exact aiM b off cap x t n w hn hm (by unfold size;(repeat' split)<;>omega) hL (by omega) _ rfl
theorem bf (b off n cap:Nat) (x:UInt8) (t:List UInt8) (w:World) (h:aY w (some ⟨b,off,none⟩) n (ah (x::t))) (hs:st (x::t)=(true,true)):
  Calls Tryz.prog 158 #[.slice (some ⟨b,off,none⟩) n cap] w fun e w'=>e=.returned (.int .i32 (fo (first x.toNat) t))∧w=w':=by
 have hn:t.length+1=n:=by have:=h.1;rw[aI]at this;exact this
 have hL:∀j (hj:j<(x::t).length),w.cell? ⟨b,off+j,none⟩=some (.int .u8 ((x::t)[j].toNat:Int)):=fun j hj=>h.byte j hj
 obtain⟨h1,h2,h3,h4⟩:=JC x t true hs
 have h5:(t.length:Int)+1=size x.toNat:=by simpa using h4.symm
 have h6:=size_le x.toNat
 have hx0:0≤(x.toNat:Int):=by omega
 have hcase:n=1∨n=2∨n=3∨n=4:=by omega
 rcases hcase with rfl|rfl|rfl|rfl
 ·exact amF b off cap x t w (by omega) (by
    have e:size x.toNat=1:=by omega
    unfold size at e;(repeat' split at e)<;>omega) hL h2
 ·have e:194≤(x.toNat:Int)∧(x.toNat:Int)≤223:=by
   have e:size x.toNat=2:=by omega
   unfold size at e
   (repeat' split at e)<;>omega
  exact amG b off cap x t w (by omega) e.1 e.2 hL h2
 ·have e:224≤(x.toNat:Int)∧(x.toNat:Int)≤239:=by
   have e:size x.toNat=3:=by omega
   unfold size at e
   (repeat' split at e)<;>omega
  exact amH b off cap x t w (by omega) e.1 e.2 hL h2
 ·have e:240≤(x.toNat:Int)∧(x.toNat:Int)≤244:=by
   have e:size x.toNat=4:=by omega
   unfold size at e
   (repeat' split at e)<;>omega
  exact amI b off cap x t w (by omega) e.1 e.2 hL h2
end Go.Proofs.YtmpeaoacaecgpaaGreatDoor.RefM
namespace Go.Proofs.YtmpeaoacaecgpaaGreatDoor.RefC
open Go.RowKit Base Base2 acU
def ahf (r:Int):Bool:=decide (Cc r)
theorem C9 (r:Int) (w:World):Calls Tryz.prog 253 #[.int .i32 r] w fun e w'=>e=.returned (.bool (ahf r))∧w=w':=by
 go_enter Tryz.func253,Tryz.ntmps253
 go_wp2
 all_goals
  go_ret
  exact⟨ak (by unfold ahf Cc;rw[Bool.eq_iff_iff];simp;omega),rfl⟩
theorem made (w:World) (xs:List Value) (n:Nat) (t:TypeId) (hn:xs.length=n):aY (w.alloc (.cells xs.toArray t)) (some ⟨w.heap.size,0,none⟩) n xs:=
 aY.jF hn (by simp) (fun j hj=>by
  rw[Nat.zero_add,World.cell?_alloc_mark]
  simp)
theorem rds_at {w:World} {g o n:Nat} {xs:List Value} (h:aY w (some ⟨g,o,none⟩) n xs):∀j u,xs[j]?=some u→w.cell? ((⟨g,o,none⟩:Addr).add j)=some u:=by
 intro j u hu
 obtain⟨hj,e⟩:=List.getElem?_eq_some_iff.1 hu
 obtain⟨b,off,e1,_,hc⟩:=h.2 j hj
 injection e1 with e1
 injection e1 with e2 e3
 subst e2 e3
 have ha:(⟨g,o,none⟩:Addr).add j=⟨g,o+j,none⟩:=by
  unfold Addr.add
  split<;>simp_all
 rw[ha,hc,e]
def Zv (w:World) (r:Int) (e:Ending) (w':World):Prop:=
 ∃A c,e=.returned (.slice A (Lib.encodeRune r).length c)∧aY w' A (Lib.encodeRune r).length (ah (Lib.encodeRune r))∧(∃g o,A=some ⟨g,o,none⟩)∧(Lib.encodeRune r).length≤c∧Below w.heap.size w w'
theorem fin (w:World) (news:List Value) (n:Nat) (r:Int) (h:ah (Lib.encodeRune r)=news) (hn:news.length=n):
  Zv w r (.returned (.slice (some ⟨w.heap.size,0,none⟩) n n)) (w.alloc (.cells news.toArray 5)):=by
 have hl:(Lib.encodeRune r).length=n:=by rw[←aI,h,hn]
 unfold Zv
 rw[h,hl]
 exact⟨_,n,rfl,made w news n _ hn,⟨_,_,rfl⟩,Nat.le_refl _,(Below.refl _ _).alloc (Nat.le_refl _) _⟩
theorem one_chr (r:Int) (hc:Cc r) (w:World):Calls Tryz.prog 156 #[.int .i32 r] w (Zv w r):=by
 have hB:Hid (ahf r=true):=by unfold Hid ahf;simpa using hc
 obtain⟨h0,h1,h2⟩:=hc
 by_cases a:r≤127
 ·have a':r<128:=by omega
  have e1:=hid (jw r h0 (by omega))
  have HE:=hid (enc1 r h0 a)
  clear h2
  go_enter Tryz.func156,Tryz.ntmps156
  go_wp2_with fail
  refine(C9 _ _).mono ?_
  rintro e w1 ⟨rfl,rfl⟩
  rw[hB.out]
  go_wp2
  go_ret
  exact fin w [.int .u8 r] 1 r (by
   rw[HE.out]
   simp only[ah,List.map_cons,List.map_nil,e1.out]) rfl
 by_cases b:r≤2047
 ·have a':¬r<128:=by omega
  have b':r<2048:=by omega
  have e1:=hid (jw (192+r / 64) (by omega) (by omega))
  have e2:=hid (jw (128+r%64) (by omega) (by omega))
  have HE:=hid (enc2 r (by omega) b)
  clear h2 a b
  go_enter Tryz.func156,Tryz.ntmps156
  go_wp2_with fail
  refine(C9 _ _).mono ?_
  rintro e w1 ⟨rfl,rfl⟩
  rw[hB.out]
  go_wp2
  go_ret
  exact fin w [.int .u8 (192+r / 64),.int .u8 (128+r%64)] 2 r (by
   rw[HE.out]
   simp only[ah,List.map_cons,List.map_nil,e1.out,e2.out]) rfl
 by_cases c:r≤65535
 ·have b':¬r<2048:=by omega
  have c':r<65536:=by omega
  have e1:=hid (jw (224+r / 4096) (by omega) (by omega))
  have e2:=hid (jw (128+r / 64%64) (by omega) (by omega))
  have e3:=hid (jw (128+r%64) (by omega) (by omega))
  have HE:=hid (enc3 r (by omega))
  clear h2 a b c
  go_enter Tryz.func156,Tryz.ntmps156
  go_wp2_with fail
  refine(C9 _ _).mono ?_
  rintro e w1 ⟨rfl,rfl⟩
  rw[hB.out]
  go_wp2
  go_ret
  exact fin w [.int .u8 (224+r / 4096),.int .u8 (128+r / 64%64),.int .u8 (128+r%64)] 3 r (by
   rw[HE.out]
   simp only[ah,List.map_cons,List.map_nil,e1.out,e2.out,e3.out]) rfl
 have c':¬r<65536:=by omega
 have e1:=hid (jw (240+r / 262144) (by omega) (by omega))
 have e2:=hid (jw (128+r / 4096%64) (by omega) (by omega))
 have e3:=hid (jw (128+r / 64%64) (by omega) (by omega))
 have e4:=hid (jw (128+r%64) (by omega) (by omega))
 have HE:=hid (enc4 r (by omega) h1)
 clear h2 a b c
 go_enter Tryz.func156,Tryz.ntmps156
 go_wp2_with fail
 refine(C9 _ _).mono ?_
 rintro e w1 ⟨rfl,rfl⟩
 rw[hB.out]
 go_wp2
 go_ret
 exact fin w [.int .u8 (240+r / 262144),.int .u8 (128+r / 4096%64),.int .u8 (128+r / 64%64),.int .u8 (128+r%64)] 4 r (by
  rw[HE.out]
  simp only[ah,List.map_cons,List.map_nil,e1.out,e2.out,e3.out,e4.out]) rfl
theorem one_bad (r:Int) (hc:¬Cc r) (w:World):Calls Tryz.prog 156 #[.int .i32 r] w (Zv w r):=by
 have hB:Hid (ahf r=false):=by unfold Hid ahf;simpa using hc
 have HE:Hid (Lib.encodeRune r=[239,191,189]):=by
  show Lib.encodeRune r=[239,191,189]
  rw[encBad r hc]
  decide
 clear hc
 go_enter Tryz.func156,Tryz.ntmps156
 go_wp2_with fail
 refine(C9 _ _).mono ?_
 rintro e w1 ⟨rfl,rfl⟩
 rw[hB.out]
 go_wp2
 go_ret
 exact fin w [.int .u8 239,.int .u8 191,.int .u8 189] 3 r (by rw[HE.out];rfl) rfl
theorem one_any (r:Int) (w:World):Calls Tryz.prog 156 #[.int .i32 r] w (Zv w r):=by
 by_cases h:Cc r
 ·exact one_chr r h w
 exact one_bad r h w
theorem Rn (A:Option Addr) (n cap:Nat) (l:List Int) (w:World) (h:aY w A n (gV .i32 l)) (hm:n≤1073741824):
  Calls Tryz.prog 60 #[.slice A n cap] w fun e w'=>∃v,e=.returned v∧w'.ownsRow w.heap.size 5 1 v (BI.enc l).length (ah (BI.enc l))∧Below w.heap.size w w':=by
 have hl:l.length=n:=by rw[←jA .i32];exact h.1
 have HL:=hid hl
 clear hl
 obtain⟨i0,hi,hz0,hz1,hz2⟩:=info_parts iR
 have HH:=hid h
 clear h
 go_enter Tryz.func60,Tryz.ntmps60
 go_wp2
 go_loopw [3,7] (fun v vk wr=>∃(k:Nat),k≤n∧vk=.int .i64 k∧wr.ownsRow w.heap.size 5 1 v (BI.enc (l.take k)).length (ah (BI.enc (l.take k)))∧Below w.heap.size w wr) (fun _ vk _=>n - (intOf vk).toNat)
 case atStart=>exact⟨0,Nat.zero_le _,rfl,World.ownsRow_nil _ _ _ _,Below.refl _ _⟩
 case round =>
  obtain⟨k,hk,rfl,hown,hbel⟩:=hrel
  by_cases hlt:k<n
  ·obtain ⟨b,off,rfl,hb,_⟩:=(HH.out).spot (by omega)
   obtain⟨r,hx⟩:∃r,r=l[k]'(by rw[HL.out];exact hlt):=⟨_,rfl⟩
   have hcell:wr.cell? ⟨b,off+k,none⟩=some (.int .i32 r):=by
    rw[hx,←HH.out.int k (by rw[HL.out];exact hlt)]
    exact hbel.cell (p:=⟨b,off+k,none⟩) hb
   have HS:Hid (l.take (k+1)=l.take k++[r]):=by
    rw[hx]
    exact List.take_succ_eq_append_getElem (by rw[HL.out];exact hlt)
   clear hx
   have hle:=(BI.iW (l.take k)).1
   have hle2:(l.take k).length≤k:=List.length_take_le _ _
   have hle3:=BI.Jy r
   obtain⟨m,hmm⟩:∃m,m=(BI.enc (l.take k)).length:=⟨_,rfl⟩
   rw[←hmm]at hle hown
   have HM:=hid hmm
   clear hmm
   obtain⟨q,hq⟩:∃q,q=(Lib.encodeRune r).length:=⟨_,rfl⟩
   rw[←hq]at hle3
   have HQ:=hid hq
   clear hq
   go_wp2_with fail
   refine(one_any _ _).mono ?_
   rintro e w1 ⟨A1,c1,rfl,hr1,⟨g,o,rfl⟩,hc1,hb1⟩
   rw[←HQ.out]at hr1 hc1⊢
   have hown1:=aP hown hb1
   have gW:=hbel.trans (hb1.mono hbel.size)
   clear hown hbel
   go_wp2_with (at_builtin;refine wpList_append_own _ rfl _ _ 45 rfl w.heap.size 5 i0 (.int .u8 0) 1 1 Tryz.underlying45 hi hz0 hz1 hz2 rfl (by decide) _ m _ rfl hown1 ⟨g,o,none⟩ q c1 (ah (Lib.encodeRune r)) rfl (by rw[aI,←HQ.out,Nat.mul_one]) (rds_at hr1) (nR _) (by unfold maxLen;omega) (by omega) gW.size ?_)
   intro v' w2 hown2 hg2 _
   have dZ:Below w.heap.size w w2:=gW.grown hg2 gW.size (fun g hg=>(hown1.lt g hg).1)
   clear hown1 gW hg2
   go_wp2
   go_roundw
   case rel=>exact⟨k+1,by omega,by go_num,by
     rw[HS.out,BI.rM,List.length_append,aS,←HM.out,←HQ.out]
     exact hown2,dZ⟩
   case measure=>simp[intOf];omega
  ·obtain rfl:k=n:=by omega
   have HE:Hid (l.take k=l):=by
    rw[←HL.out];exact List.take_length
   go_wp2
   go_ret
   exact⟨_,rfl,by rw[HE.out]at hown;exact hown,hbel⟩
end Go.Proofs.YtmpeaoacaecgpaaGreatDoor.RefC
