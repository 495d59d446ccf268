/- Lemmas. -/
import Derived.IntWalk
import Derived.Test.YtaeohdlnidnofaaGreatDoorPRAAP
set_option linter.unusedSimpArgs false
set_option linter.unusedVariables false
set_option maxRecDepth 100000
set_option maxHeartbeats 64000000
namespace Go.Proofs.YtaeohdlnidnofaaGreatDoor
open Tryz
namespace aal
open Go.RowKit Base dJ nD
theorem str_rest (R:List UInt8) (k:Nat) (h:k≤R.length):(ah R).extract k (ah R).size=ah (R.drop k):=by
 have e:=extract_drop (ah R) k (by rw[ak];exact h);have a:(ah R).data.toList=R:=rfl;rw[a]at e;rw[←bD ((ah R).extract k (ah R).size),e]
theorem X0 (a b c:UInt8) (t:List UInt8):(a=37∧0≤hex b.toNat∧0≤hex c.toNat→esc (a::b::c::t)=some (UInt8.ofNat (16*hex b.toNat+hex c.toNat).toNat))∧(¬(a=37∧0≤hex b.toNat∧0≤hex c.toNat)→esc (a::b::c::t)=none):=by
 constructor<;>intro h
 ·rw[esc,if_pos h]
 rw[esc,if_neg h]
theorem RN (c:Int) (w:World):Calls prog 129 #[.int .u8 c] w fun e w'=>e=.returned (.int .i64 (hex c))∧w'=w:=
 (iD.dI c w).mono fun _ _ ⟨he,hw⟩=>⟨he,hw.symm⟩
theorem one_one (a:Int):∀u ∈ [Value.int .u8 a],u.oneCell'=true:=by
 intro u c;simp at c;subst c;rfl
attribute [local go_sem ↓] Go.wp_at_zero Go.wp_at_succ
def lenOf:Value→Nat
 | .string q=>q.size
 |_=>0
theorem NT (s : ByteArray) (w : World) (hs : s.size ≤ 1073741824) : Calls prog 55 #[.string s] w fun e w' => e = .returned (.string (ah (dec s.data.toList))) ∧ Below w.heap.size w w' := by
 obtain⟨E,hi,n,l,k⟩:=info_parts pU;obtain⟨C,B⟩:∃C,C=s.data.toList:=⟨_,rfl⟩;have P:s=ah C:=by rw[B];exact(bD s).symm
 subst P;rw[ak]at hs;rw[←B];clear B;go_enter func55,ntmps55;go_wp2;go_loopw [0,3] (fun vs v wr=>∃(R X:List UInt8),R.length+X.length≤1073741824∧vs=.string (ah R)∧wr.ownsRow w.heap.size 5 1 v X.length (aQ X)∧Below w.heap.size w wr∧Hid (X++dec R=dec C)) (fun vs _ _=>lenOf vs)
 case atStart=>exact⟨C,[],by simpa using hs,rfl,World.ownsRow_nil _ _ _ _,Below.refl _ _,rfl⟩
 case round=>
  obtain⟨R,X,A,rfl,i,d,D⟩:=hrel;cases R with
  |nil=>
   have HE:Hid (X=dec C):=by
    have e:=D.out;rw[mO,List.append_nil]at e;exact e
   have y:(ah []).size=0:=rfl;rw[HE.out]at i;obtain⟨A',c',rfl,_,_,Q⟩:=aS i;have aU:=aT 45 9 5 underlying45 underlying5 underlying9 _ c' Q;go_wp2;go_ret;exact⟨rfl,d⟩
  | cons a t=>
   have y:(ah (a::t)).size=t.length+1:=by rw[ak,List.length_cons]
   have a2:∀h:0<(ah (a::t)).size,(ah (a::t))[0]'h=a:=fun _=>rfl;have Y:(ah (a::t)).extract 1 (t.length+1)=ah t:=by
    have:=str_rest (a::t) 1 (by simp);rw[y]at this;exact this
   have r:t.length+1+X.length≤1073741824:=by simpa using A
   by_cases h37:a=37
   ·subst h37;have L:(((37:UInt8).toNat:Int)==37)=true:=by decide
    by_cases h3:t.length<2
    ·have z:Hid (dec (37::t)=37::dec t):=lq _ _ (by
      match t,h3 with
      |[],_=>rfl
      |[_],_=>rfl)
     have G:¬(2:Int)<(t.length:Int)+1:=by omega
     go_wp2_with (at_builtin;refine bI rfl _ _ 45 rfl w.heap.size 5 E (.int .u8 0) 1 underlying45 hi n l k rfl _ X.length _ rfl i d d.size [.int .u8 37] 1 rfl rfl (by intro u q;simp at q;subst q;rfl) (by unfold maxLen;omega) (by omega) ?_)
     intro J H f g;clear i d;go_wp2;go_roundw
     case rel=>exact⟨t,X++[37],by simp at r⊢;omega,rfl,by rw[dR,List.length_append];exact f,g,by
       rw[List.append_assoc];have:=D.out;rw[z.out]at this;exact this⟩
     case measure=>simp[lenOf,ak]
    obtain⟨b,c,j,rfl⟩:∃b c j,t=b::c::j:=by
     match t,h3 with
     |b::c::j,_=>exact⟨b,c,j,rfl⟩
     |[],h=>simp at h
     |[_],h=>simp at h
    clear h3;have G:(2:Int)<(((b::c::j).length:Nat):Int)+1:=by simp;omega
    have a1:∀h:1<(ah (37::b::c::j)).size,(ah (37::b::c::j))[1]'h=b:=fun _=>rfl;have a0:∀h:2<(ah (37::b::c::j)).size,(ah (37::b::c::j))[2]'h=c:=fun _=>rfl;have W:(ah (37::b::c::j)).extract 3 ((b::c::j).length+1)=ah j:=by
     have:=str_rest (37::b::c::j) 3 (by simp);rw[y]at this;exact this
    obtain⟨Z,a4⟩:=qC b;obtain⟨V,a3⟩:=qC c;obtain⟨HY,HZ⟩:=X0 37 b c j;obtain⟨m,T⟩:∃m,m=(b::c::j).length:=⟨_,rfl⟩;have F:m=j.length+2:=by rw[T];simp
    rw[←T]at y Y W G r;have HM:=hid F;clear T F;by_cases hx:hex b.toNat<0
    ·have z:Hid (dec (37::b::c::j)=37::dec (b::c::j)):=lq _ _ (HZ (by intro h;omega));go_wp2_with fail
     refine(RN _ _).mono ?_;rintro e I ⟨rfl,x⟩;subst x;go_wp2_with (at_builtin;refine bI rfl _ _ 45 rfl w.heap.size 5 E (.int .u8 0) 1 underlying45 hi n l k rfl _ X.length _ rfl i d d.size [.int .u8 37] 1 rfl rfl (by intro u q;simp at q;subst q;rfl) (by unfold maxLen;omega) (by omega) ?_)
     intro J H f g;clear i d;go_wp2;go_roundw
     case rel=>exact⟨b::c::j,X++[37],by simp;have:=HM.out;omega,rfl,by rw[dR,List.length_append];exact f,g,by
       rw[List.append_assoc];have:=D.out;rw[z.out]at this;exact this⟩
     case measure=>simp[lenOf,ak]
    have O:0≤hex b.toNat:=by omega
    clear hx Z;by_cases hy:hex c.toNat<0
    ·have z:Hid (dec (37::b::c::j)=37::dec (b::c::j)):=lq _ _ (HZ (by intro h;omega));go_wp2_with fail
     refine(RN _ _).mono ?_;rintro e I ⟨rfl,x⟩;subst x;go_wp2_with fail
     refine(RN _ _).mono ?_;rintro e I ⟨rfl,x⟩;subst x;go_wp2_with (at_builtin;refine bI rfl _ _ 45 rfl w.heap.size 5 E (.int .u8 0) 1 underlying45 hi n l k rfl _ X.length _ rfl i d d.size [.int .u8 37] 1 rfl rfl (by intro u q;simp at q;subst q;rfl) (by unfold maxLen;omega) (by omega) ?_)
     intro J H f g;clear i d;go_wp2;go_roundw
     case rel=>exact⟨b::c::j,X++[37],by simp;have:=HM.out;omega,rfl,by rw[dR,List.length_append];exact f,g,by
       rw[List.append_assoc];have:=D.out;rw[z.out]at this;exact this⟩
     case measure=>simp[lenOf,ak]
    have N:0≤hex c.toNat:=by omega
    clear hy V;have z:Hid (dec (37::b::c::j)=UInt8.ofNat (16*hex b.toNat+hex c.toNat).toNat::dec j):=by
     rw[sH _ _ _ (HY ⟨rfl,O,N⟩)];exact rfl
    have HU:Hid (((UInt8.ofNat (16*hex b.toNat+hex c.toNat).toNat).toNat:Int)=16*hex b.toNat+hex c.toNat):=aaf _ (by omega) (by omega);go_wp2_with fail
    refine(RN _ _).mono ?_;rintro e I ⟨rfl,x⟩;subst x;go_wp2_with fail
    refine(RN _ _).mono ?_;rintro e I ⟨rfl,x⟩;subst x;have s1:IntKind.i64.wrap (16*hex b.toNat)=16*hex b.toNat:=IntWalk.i64_in _ (by omega);have s2:IntKind.i64.wrap (16*hex b.toNat+hex c.toNat)=16*hex b.toNat+hex c.toNat:=IntWalk.i64_in _ (by omega);have s3:(16*hex b.toNat+hex c.toNat)%256=16*hex b.toNat+hex c.toNat:=by omega
    have s4:IntKind.u8.wrap (16*hex b.toNat+hex c.toNat)=16*hex b.toNat+hex c.toNat:=by rw[IntKind.wrap_u8];omega
    go_wp2;have s5:(1:Int)<(m:Int)+1:=by omega
    go_region_held3 (fun _=>True) (trivial) (first|(go_at_call 129;refine(RN _ _).mono ?_;rintro e w' ⟨rfl,rfl⟩)|(refine MZ (by rfl) _ _ 45 (by rfl) w.heap.size 5 E (.int .u8 0) 1 underlying45 hi n l k (by rfl) _ X.length _ (by rfl) i d d.size [.int .u8 (16*hex b.toNat+hex c.toNat)] 1 (by rfl) (by decide) (by rfl) (one_one _) (by unfold maxLen;omega) (by omega) ⟨⟨rfl,rfl,rfl,Nat.le_refl _,fun _ _=>rfl⟩,fun _=>rfl,by simp⟩ ?_;intro J H f g))
    go_goals
    all_goals
     clear i d s1 s2 s3 s4 s5;go_wp2;go_roundw
     case rel=>exact⟨j,X++[UInt8.ofNat (16*hex b.toNat+hex c.toNat).toNat],by simp;have:=HM.out;omega,rfl,by
       rw[dR,List.length_append];show World.ownsRow _ _ _ _ _ _ (aQ X++[Value.int .u8 ((UInt8.ofNat (16*hex b.toNat+hex c.toNat).toNat).toNat:Int)]);rw[HU.out];exact f,g,by
       rw[List.append_assoc];have:=D.out;rw[z.out]at this;exact this⟩
     case measure=>simp[lenOf,ak];omega
   have z:Hid (dec (a::t)=a::dec t):=lq _ _ (by
    match t with
    |[]=>rfl
    |[_]=>rfl
    |_::_::_=>rw[esc,if_neg (by intro h;exact h37 h.1)])
   have L:((a.toNat:Int)==37)=false:=by
    simp;intro h;exact h37 (UInt8.toNat_inj.1 (by simp;omega))
   clear h37;go_wp2_with (at_builtin;refine bI rfl _ _ 45 rfl w.heap.size 5 E (.int .u8 0) 1 underlying45 hi n l k rfl _ X.length _ rfl i d d.size [.int .u8 (a.toNat:Int)] 1 rfl rfl (by intro u q;simp at q;subst q;rfl) (by unfold maxLen;omega) (by omega) ?_)
   intro J H f g;clear i d;go_wp2;go_roundw
   case rel=>exact⟨t,X++[a],by simp at A⊢;omega,rfl,by rw[dR,List.length_append];exact f,g,by
     rw[List.append_assoc];have:=D.out;rw[z.out]at this;exact this⟩
   case measure=>simp[lenOf,ak]
end aal
namespace Du
open Go.RowKit gJ lS qm jy Gn
theorem fM {p:UInt8→Prop} [∀c,Decidable (p c)] (h:∀n:Fin 256,p (UInt8.ofNat n.val)) (c:UInt8):p c:=by
 have:=h ⟨c.toNat,c.toNat_lt⟩;simpa using this
theorem Lm {s:List UInt8} {sp:Bool} {R:List UInt8} (h:aU s sp=some R):R.length≤3*s.length+200:=by
 unfold aU at h;split at h
 ·unfold hbr at h;split at h
  ·unfold addr at h;split at h
   ·cases h
   injection h with h
   subst h;simp only[List.length_cons,List.length_append,List.length_nil];unfold VZ;rename_i V _;have:=Js (fun i=>V.getD i 0);omega
  cases h
 split at h
 ·unfold NU at h;split at h
  ·unfold I9 at h;split at h
   ·cases h
   split at h
   ·cases hp:Dz (lower (nD.dec s))with
    |none=>rw[hp]at h;cases h
    |some n=>
     rw[hp]at h;injection h with h
     subst h;have:=yN.abj n (Fz hp);omega
   injection h with h
   subst h;have:=nD.mM s;simp[lower];omega
  cases h
 unfold SB at h;split at h
 ·injection h with h
  subst h;have:=aG.fO 0 s;omega
 cases h
end Du
namespace pI
open Go.RowKit Base gJ iK mG Ko jT iJ gV jy aJ QY
def pl (l:List ByteArray):Nat:=(dL.aF l).length
structure Fit (u:U) (N:Nat):Prop where
 all:u.au.length+u.bU.length+u.bW.length+u.aU.length+u.txt.length+u.bQ.length+u.eX.length+pl u.aF≤N
 lo: -1≤u.port
 hi:u.port≤65535
theorem Fit.mono {u:U} {N M:Nat} (h:Fit u N) (a:N≤M):Fit u M:=⟨Nat.le_trans h.all a,h.lo,h.hi⟩
theorem Fq:pl []=0:=rfl
theorem Jq (l:List ByteArray) (s:ByteArray):pl (l++[s])=pl l+1+s.size:=by
 unfold pl;rw[dL.FB,List.length_append,List.length_cons,show s.data.toList.length=s.size from Array.length_toList];omega
theorem Qz (l:List ByteArray) (k:Nat):pl (l.take k)≤pl l:=by
 unfold pl;rw[dL.kD,dL.kD,List.length_take];have:=dL.FY l k;omega
theorem OL (f:Bool) (l:List ByteArray):pl (jc f l)≤pl l:=by
 unfold jc;split
 ·exact Nat.le_refl _
 exact Qz _ _
theorem abS (f:Bool) (L:List UInt8):(wr f L).length≤3*L.length+1:=by
 unfold wr;split
 ·simp only[List.length_append,List.length_take,List.length_cons,List.length_nil];omega
 have:=aG.fO 4 L;omega
theorem VR (f a:Bool) (l:List ByteArray) (L:List UInt8):pl (rY f a l L)≤pl l+3*L.length+2:=by
 have c:(ah ([]:List UInt8)).size=0:=rfl;have d:=OL f l;unfold rY;split
 ·split
  ·rw[Jq,c];omega
  omega
 split
 ·split
  ·rw[Jq,c];omega
  omega
 have:=abS (f&&l.isEmpty) L;rw[Jq,ak];omega
theorem VT (f sp:Bool):∀(M:List UInt8) (l:List ByteArray) (b:List UInt8),pl (wb f sp l b M)≤pl l+3*(b.length+M.length)+2*(M.length+1)
 |[],l,b=>by
  have:=VR f true l b
  unfold wb
  simp only[List.length_nil]
  omega
 |c::M,l,b=>by
  unfold wb
  split
  ·have a:=VT f sp M (rY f false l b) []
   have d:=VR f false l b
   simp only[List.length_nil,List.length_cons]at a⊢
   omega
  ·have a:=VT f sp M l (b++[c])
   simp only[List.length_append,List.length_nil,List.length_cons]at a⊢
   omega
theorem xX (au:List UInt8) (l:List ByteArray) (s:List UInt8):pl (walk au l s)≤pl l+5*s.length+2:=by
 have:=VT (decide (au=ay)) (aj au) s l [];unfold walk;simp only[List.length_nil]at this;omega
theorem tu (au s:List UInt8):pl (aB au s)≤5*s.length+2:=by
 unfold aB;split
 ·rw[Fq];omega
 have h:=xX au [] (if iM (aj au) s 0=true then s.drop 1 else s);have a:(if iM (aj au) s 0=true then s.drop 1 else s).length≤s.length:=by
  split
  ·rw[List.length_drop];omega
  exact Nat.le_refl _
 rw[Fq]at h;omega
theorem XK (b:UInt8):∀L:List UInt8,(aX b L).1.length≤L.length∧(aX b L).2.1.length≤L.length
 |[]=>by simp[aX]
 |c::L=>by
  have h:=XK b L
  unfold aX
  split
  ·simp
  ·simp only[List.length_cons]
   omega
theorem zI (b:UInt8):∀L:List UInt8,(aX b L).1.length+(aX b L).2.1.length≤L.length
 |[]=>by simp[aX]
 |c::L=>by
  have h:=zI b L
  unfold aX
  split
  ·simp
  ·simp only[List.length_cons]
   omega
theorem EW:∀(L:List UInt8) (p:List UInt8×List UInt8),fU L=some p→p.1.length+p.2.length+1≤L.length
 |[],p,h=>by cases h
 | c :: L, p, h => by
  unfold fU at h
  split at h
  ·rename_i q hq
   have:=EW L q hq
   cases h
   simp only[List.length_cons]
   omega
  ·split at h
   ·cases h
    simp
   ·cases h
theorem Uz (s:List UInt8):(iU s).1.length+(iU s).2.1.length+3*(iU s).2.2.1.length≤3*s.length:=by
 unfold iU;split
 ·simp
 rename_i p hp;have e:=EW s p hp;have d:=zI 58 p.1;have c:=aG.fO 5 (aX 58 p.1).1;have a:=aG.fO 5 (aX 58 p.1).2.1;simp only;omega
theorem YH {au d:List UInt8} {z:Int} (h:prt au d=some z): -1≤z∧z≤65535:=by
 unfold prt at h;split at h
 ·cases h;omega
 split at h
 ·split at h
  ·cases h;omega
  split at h
  ·cases h;omega
  cases h
 cases h
theorem nX {au s:List UInt8} {u:U} {N:Nat} (h:authority au s=some u) (f:au.length+5*s.length+300≤N):Fit u N:=by
 unfold authority at h;obtain⟨_,h⟩:=jC h;obtain⟨_,h⟩:=jC h;have c:(s.take (upto (aj au) s)).length+(s.drop (upto (aj au) s)).length=s.length:=by rw[List.length_take,List.length_drop];omega
 have e:=Uz (s.take (upto (aj au) s));have hh:=qP.xO (iU (s.take (upto (aj au) s))).2.2.1 false;have d:=tu au (s.drop (upto (aj au) s));split at h
 ·rename_i H p e1 e2;have g:=Du.Lm e1;have a:=YH e2;cases h;refine⟨?_,a.1,a.2⟩;simp only[U0,List.length_nil];omega
 cases h
theorem Oe {b:U} {N M:Nat} (a:Fit b M) (l:List ByteArray) (c:M+pl l≤N):Fit {aN b with aF:=l} N:=by
 have:=a.all;refine⟨?_,a.lo,a.hi⟩;simp only[aN,U0,List.length_nil];omega
theorem wJ {b:U} {N M:Nat} (a:Fit b M) (l:List ByteArray) (c:M+(pl l - pl b.aF)≤N):Fit {aN b with aF:=l} N:=by
 have:=a.all;refine⟨?_,a.lo,a.hi⟩;simp only[aN,U0,List.length_nil];omega
theorem GV {b:U} {M:Nat} (a:Fit b M):Fit (along (aN b) b) M:=by
 have:=a.all;refine⟨?_,a.lo,a.hi⟩;simp only[along,aN,U0,List.length_nil];omega
theorem AP {r:List UInt8} {b u:U} {N M:Nat} (h:dW r b=some u) (a:Fit b M) (e:M+5*r.length+300≤N):Fit u N:=by
 have d:=List.length_drop (i:=2) (l:=r);have c:=(List.dropWhile_sublist (bZ true) (l:=r.drop 2)).length_le;unfold dW at h;split at h
 ·refine nX h ?_;have:=a.all;split<;>omega
 injection h with h
 subst h;split
 ·have:=tu b.au r;exact Oe a _ (by omega)
 split
 ·exact(GV a).mono (by omega)
 have g:=xX b.au (jc false b.aF) r;have f:=OL false b.aF;exact wJ a _ (by omega)
theorem F8 (l:List ByteArray) {N:Nat} (H:List UInt8) (a:4+pl l+H.length≤N):Fit {uF with aU:=H,aF:=l} N:=by
 refine⟨?_,?_,?_⟩<;>simp[uF,U0,ay];omega
theorem X5 {s:List UInt8} {u:U} {N:Nat} (h:far s=some u) (a:5*s.length+300≤N):Fit u N:=by
 have g:=tu ay s;have f:=tu ay (s.drop (upto true s));have d:(s.take (upto true s)).length+(s.drop (upto true s)).length=s.length:=by rw[List.length_take,List.length_drop];omega
 unfold far at h;split at h
 ·cases h;exact F8 _ [] (by simp only[List.length_nil];omega)
 split at h
 ·cases h;exact F8 _ [] (by simp only[List.length_nil];omega)
 split at h
 ·cases h
 rename_i H e;have c:=Du.Lm e;cases h;refine F8 _ _ ?_;split
 ·simp only[List.length_nil];omega
 omega
theorem La {r:List UInt8} {base:Option U} {u:U} {N M:Nat} (h:file r base=some u) (a:∀b,base=some b→Fit b M) (j:M+5*r.length+300≤N):Fit u N:=by
 unfold file at h;split at h
 ·refine X5 h ?_;rw[List.length_drop];omega
 split at h
 ·injection h with h
  subst h;have c:∀(q:Prop) [Decidable q] (x:List ByteArray),pl (if q then x.take 1 else[])≤pl x:=by
   intro q _ x;split
   ·exact Qz _ _
   rw[Fq];omega
  have g:=List.length_drop (i:=1) (l:=r);cases base with
  |none=>
   have d:=xX ay (if wO ((Option.elim none [] U.aF).head?.elim [] fun x=>x.data.toList)=true∧pK (r.drop 1)=false then(Option.elim none [] U.aF).take 1 else[]) (r.drop 1);have f:=c (wO ((Option.elim none [] U.aF).head?.elim [] fun x=>x.data.toList)=true∧pK (r.drop 1)=false) (Option.elim none [] U.aF);have e:pl (Option.elim none [] U.aF)=0:=rfl;exact F8 _ [] (by simp only[List.length_nil];omega)
  |some b=>
   have a:=a b rfl;have d:=xX ay (if wO ((Option.elim (some b) [] U.aF).head?.elim [] fun x=>x.data.toList)=true∧pK (r.drop 1)=false then(Option.elim (some b) [] U.aF).take 1 else[]) (r.drop 1);have f:=c (wO ((Option.elim (some b) [] U.aF).head?.elim [] fun x=>x.data.toList)=true∧pK (r.drop 1)=false) (Option.elim (some b) [] U.aF);have e:pl (Option.elim (some b) [] U.aF)=pl b.aF:=rfl;exact wJ a _ (by omega)
 split at h
 ·injection h with h
  subst h;have c:pl (if pK r=true then[]else jc true [])=0:=by split<;>rfl
  have d:=xX ay (if pK r=true then[]else jc true []) r;exact F8 _ [] (by simp only[List.length_nil];omega)
 rename_i b;have a:=a b rfl;split at h
 ·injection h with h
  subst h;exact(GV a).mono (by omega)
 injection h with h
 subst h;have c:pl (if pK r=true then[]else jc true b.aF)≤pl b.aF:=by
  split
  ·rw[Fq];omega
  exact OL _ _
 have d:=xX ay (if pK r=true then[]else jc true b.aF) r;exact wJ a _ (by omega)
theorem YA (m:Bool) (s:List UInt8):(aJ.dF m s).length≤3*s.length+3:=by
 have h:=aG.fO 0 s;unfold aJ.dF Lib.trimSuffix;split
 ·rw[List.length_append];split
  ·rw[List.length_take];simp only[List.length_cons,List.length_nil];omega
  simp only[List.length_cons,List.length_nil];omega
 omega
theorem SA {p:Parts} {u:U} {N:Nat} (h:aJ.plain p=some u) (d:p.au.length+5*p.rest.length+300≤N):Fit u N:=by
 have c:=List.length_drop (i:=2) (l:=p.rest);unfold aJ.plain at h;split at h
 ·exact nX h (by omega)
 split at h
 ·injection h with h
  subst h;have a:=tu p.au p.rest;refine⟨?_,?_,?_⟩<;>simp[U0];omega
 injection h with h
 subst h;have a:=YA (p.hq||p.hf) p.rest;refine⟨?_,?_,?_⟩<;>simp[U0,Fq];omega
theorem MF {p:Parts} {base:Option U} {u:U} {N M:Nat} (h:aJ.resolve p base=some u) (d:∀b,base=some b→Fit b M) (g:M+p.au.length+5*p.rest.length+300≤N):Fit u N:=by
 have f:=(List.dropWhile_sublist (bZ true) (l:=p.rest)).length_le;unfold aJ.resolve at h;split at h
 ·refine La h (fun b e=>d b ?_) (by omega);cases base with
  |none=>cases e
  |some c=>
   simp only[Option.filter]at e;split at e
   ·exact e
   cases e
 split at h
 ·split at h
  ·split at h
   ·exact AP h (d _ rfl) (by omega)
   exact nX h (by omega)
  exact nX h (by omega)
 split at h
 ·exact SA h (by omega)
 split at h
 ·cases h
 rename_i b;have a:=d b rfl;split at h
 ·unfold jl at h;obtain⟨_,h⟩:=jC h;injection h with h
  subst h;exact a.mono (by omega)
 split at h
 ·exact La h (fun c e=>by injection e with e;subst e;exact a) (by omega)
 exact AP h a (by omega)
theorem N8 {u:U} {p:Parts} {N M:Nat} (h:Fit u M) (d:M+3*p.bQ.length+3*p.eX.length≤N):Fit (finish u p) N:=by
 have f:=aG.fO (if aj u.au=true then 3 else 2) p.bQ;have e:=aG.fO 1 p.eX;obtain⟨a,b,c⟩:=h;unfold finish;cases p.hq<;>cases p.hf<;>refine⟨?_,?_,?_⟩<;>simp only[if_true,if_false,Bool.false_eq_true]<;>first|assumption|omega
theorem Ri (C:List UInt8):(aJ.apart C).au.length+(aJ.apart C).rest.length+(aJ.apart C).bQ.length+(aJ.apart C).eX.length≤C.length:=by
 have d:=zI 35 C;have c:=zI 63 (aX 35 C).1;have a:=zI 58 (aX 63 (aX 35 C).1).1;unfold aJ.apart;simp only;split
 ·simp only[lower,List.length_map];omega
 simp only[List.length_nil];omega
theorem JW {s:List UInt8} {base:Option U} {u:U} {M:Nat} (h:aJ.url s base=some u) (c:∀b,base=some b→Fit b M):Fit u (M+15*s.length+300):=by
 have e:=Nr.sG s;have d:=Ri (clean s);unfold aJ.url at h;obtain⟨v,a,rfl⟩:=Option.map_eq_some_iff.1 h;exact N8 (MF (N:=M+(aJ.apart (clean s)).au.length+5*(aJ.apart (clean s)).rest.length+300) a c (Nat.le_refl _)) (by omega)
end pI
namespace Dw
open Go.RowKit aJ
theorem eP (L:List UInt8) (d c:UInt8):Lib.hasSuffix (L++[d]) [c]=decide (d=c):=by
 rw[Bool.eq_iff_iff];unfold Lib.hasSuffix;rw[List.isSuffixOf_iff_suffix,decide_eq_true_iff];constructor
 ·rintro⟨t,e⟩;exact(List.append_inj' e rfl).2|>fun h=>(List.cons.inj h).1.symm
 rintro rfl;exact⟨L,rfl⟩
theorem qK (L:List UInt8):L=[]∨∃M d,L=M++[d]:=by
 rcases List.eq_nil_or_concat L with h|⟨M,d,h⟩
 ·exact .inl h
 exact .inr ⟨M,d,by simpa using h⟩
theorem CV (L:List UInt8) (h:Lib.hasSuffix L [32]=false):Lib.hasSuffix (aG.enc 0 L) [32]=false:=by
 rcases qK L with rfl|⟨M,d,rfl⟩
 ·rfl
 rw[eP,decide_eq_false_iff_not]at h;rw[aG.oH];have H:∃X y,aG.one 0 d=X++[y]∧y≠32:=by
  unfold aG.one;split
  ·refine⟨[37,aG.kV (d.toNat / 16)],aG.kV (d.toNat%16),rfl,?_⟩;have c:∀n:Fin 16,aG.kV n.val≠32:=by decide
   exact c ⟨_,Nat.mod_lt _ (by decide)⟩
  exact⟨[],_,rfl,h⟩
 obtain⟨X,y,e,a⟩:=H;rw[e,←List.append_assoc,eP,decide_eq_false_iff_not];exact a
end Dw
namespace Ub
open Go.RowKit Base jy aJ
def nP (u:U):List UInt8:=dL.BX (ah u.au) (ah u.bU) (ah u.bW) (ah u.aU) u.hh u.port u.dF (ah u.txt) u.aF u.hq u.hf (ah u.bQ) (ah u.eX)
def HC (c:UInt8):Prop:=c≠47∧c≠92∧c≠64∧c≠63∧c≠35∧33≤c.toNat∧c.toNat≤126
instance (c:UInt8):Decidable (HC c):=by unfold HC;exact inferInstance
end Ub
namespace aaF
open Go.RowKit Base dL
theorem below_drewN' (w:World) (k:Nat):Below w.heap.size w (w.drewN k):=Base.below_drewN (Below.refl _ _) k
theorem Zm {s t:ByteArray}:s.data.toList=t.data.toList↔s=t:=⟨fun h=>ext_str h,fun h=>by rw[h]⟩
theorem SX (A V:Option Addr) (n j x i:Nat) (l m:List ByteArray) (w:World) (H:dP w A n (l.map Value.string)) (v:dP w V j (m.map Value.string)) (hc:n≤x) (Z:x≤maxLen) (a1:j≤i) (G:i≤maxLen):
  Calls prog 38 #[.slice A n x,.slice V j i] w fun e w'=>e=.returned (.bool (decide (l=m)))∧Below w.heap.size w w':=by
 unfold maxLen at Z G;have P:l.length=n:=by rw[←H.1,List.length_map]
 have z:m.length=j:=by rw[←v.1,List.length_map]
 have N:=hid P;have y:=hid z;have HR:=hid H;have L:=hid v;clear H v P z;by_cases he:n=j
 ·obtain rfl:=he;have X:((n:Int)==(n:Int))=true:=by simp
  have W:((n:Int) !=(n:Int))=false:=by simp
  go_enter func38,ntmps38;go_wp2;go_loopw [5,13] (fun _ vk wr=>∃k:Nat,k≤n∧vk=.int .i64 (k:Int)∧Hid (l.take k=m.take k)∧Hid (Below w.heap.size w wr)) (fun _ vk _=>n - (intOf vk).toNat)
  case atStart=>exact⟨0,Nat.zero_le _,rfl,rfl,Below.refl _ _⟩
  case round=>
   obtain⟨k,hk,rfl,T,a⟩:=hrel;by_cases hlt:k<n
   ·have r:k<l.length:=by rw[N.out];exact hlt
    have q:k<m.length:=by rw[y.out];exact hlt
    obtain⟨g,Y,rfl,hg,d⟩:=(HR.below a).spot (by omega);obtain⟨g2,O,rfl,a0,c⟩:=(L.below a).spot (by omega);have C:=d k (by rw[List.length_map];exact r);have B:=c k (by rw[List.length_map];exact q);rw[List.getElem_map]at C B;obtain⟨s,F⟩:∃s,s=l[k]:=⟨_,rfl⟩;obtain⟨t,E⟩:∃t,t=m[k]:=⟨_,rfl⟩;have HS:Hid (l.take (k+1)=l.take k++[s]):=by rw[F];exact dG l k r
    have J:Hid (m.take (k+1)=m.take k++[t]):=by rw[E];exact dG m k q
    have HX:Hid (s≠t→l≠m):=by
     intro h1 h2;subst h2;exact h1 (F.trans E.symm)
    rw[←F]at C;rw[←E]at B;clear F E d c r q;have Q:=qR s t;by_cases aU:s.data.toList=t.data.toList
    ·rw[decide_eq_true aU]at Q;have I:=hid (Zm.1 aU);clear aU;go_wp2_with fail
     go_quiet (fail)
     have f:=a.trans ((below_drewN' wr nq).mono a.size);generalize wr.drewN nq=wq at f⊢;go_wp2;go_roundw
     case rel=>exact⟨k+1,by omega,by go_num,by show _=_;rw[HS.out,J.out,T.out,I.out],f⟩
     case measure=>simp[intOf];omega
    ·rw[decide_eq_false aU]at Q;have D:Hid (decide (l=m)=false):=decide_eq_false (HX (fun h=>aU (by rw[h])));clear aU;go_wp2_with fail
     go_quiet (fail)
     have f:=a.trans ((below_drewN' wr nq).mono a.size);generalize wr.drewN nq=wq at f⊢;go_wp2;go_ret;exact⟨aC D.symm,f⟩
   ·obtain rfl:k=n:=by omega
    have D:Hid (decide (l=m)=true):=decide_eq_true (by
     have h:=T.out;rw[List.take_of_length_le (by rw[N.out];exact Nat.le_refl _),List.take_of_length_le (by rw[y.out];exact Nat.le_refl _)]at h;exact h)
    go_wp2;go_ret;exact⟨aC D.symm,a⟩
 ·have X:((n:Int)==(j:Int))=false:=by simp;omega
  have W:((n:Int) !=(j:Int))=true:=by simp;omega
  have D:Hid (decide (l=m)=false):=decide_eq_false (fun h=>he (by rw[←N.out,←y.out,h]));clear he;go_enter func38,ntmps38;go_wp2;go_ret;exact⟨aC D.symm,Below.refl _ _⟩
def spB (b6 c6:Bool) (s7 t7:ByteArray) (l m:List ByteArray):Bool:=if b6||c6 then(b6==c6)&&decide (s7.data.toList=t7.data.toList)else decide (l=m)
end aaF
namespace eU
open Go.RowKit
def ng (c:Bool) (k:Keep):Keep:=⟨fun u w=>(c=true→k.says u w)∧(c=false→u=undef),fun _ _ _ hb h=>⟨fun hc=>k.stays _ _ _ hb (h.1 hc),h.2⟩⟩
theorem rgW (c:Bool) (k:Keep) (u:Value) (w:World):(ng c k).says u w=((c=true→k.says u w)∧(c=false→u=undef)):=rfl
theorem QH:(!false)=true∧(!true)=false∧(∀b,(b&&true)=b)∧(∀b,(b&&false)=false)∧(∀b,(true&&b)=b)∧(∀b,(false&&b)=false)∧(∀b,(b||true)=true)∧(∀b,(b||false)=b)∧(∀b,(true||b)=true)∧(∀b,(false||b)=b)∧(∀b:Bool,(b=b)=True)∧(false=true)=False∧(true=false)=False∧(∀p:Prop,(False→p)=True)∧(∀p:Prop,(True→p)=p)∧(∀p,(p∧True)=p)∧∀p,(True∧p)=p:=by
 refine⟨rfl,rfl,?_,?_,?_,?_,?_,?_,?_,?_,?_,?_,?_,?_,?_,?_,?_⟩<;>intros<;>simp
section
variable {P:Program} {ops:Array Oper} {Q:Exit→Act→World→Prop}
def ac0 (P:Program) (ops:Array Oper) (Q:Exit→Act→World→Prop) (l:List Oper) (a:Act) (w0:World) (R:List Keep) (i:Nat) (o:Oper) (ns:List Nat):Prop:=
 ∀t w,Below w0.heap.size w0 w→Have R t w ns→∀K:Act→World→Prop,(∀v w',Below w.heap.size w w'→(pick R i).says v w'→K ((dS t i l 0 a).put o.dst v) w')→
  if Region.wanted o (yielded ops (dS t i l 0 a).tmps)=true then Oper.wp P o (dS t i l 0 a) w K Q else K ((dS t i l 0 a).put o.dst undef) w
def IX (P:Program) (ops:Array Oper) (Q:Exit→Act→World→Prop) (l:List Oper) (a:Act) (w0:World) (R:List Keep):Nat→List Oper→List (List Nat)→Prop
 |_,[],_=>True
 |k,o::os,ns=>ac0 P ops Q l a w0 R k o (ns.headD [])∧IX P ops Q l a w0 R (k+1) os ns.tail
theorem yD (t c:Nat→Value):∀(n:Nat) (os:List Oper) (k:Nat) (a:Act),(∀j,k≤j→j<k+n→t j=c j)→dS t n os k a=dS c n os k a
 |0,_,_,_,_=>rfl
 |_+1,[],_,_,_=>rfl
 |n+1,o::os,k,a,h=>by
  show dS t n os (k+1) (a.put o.dst (t k))=dS c n os (k+1) (a.put o.dst (c k))
  rw[h k (Nat.le_refl _) (by omega),yD t c n os (k+1) _ fun j h1 h2=>h j (by omega) (by omega)]
theorem zU (t:Nat→Value):∀(n:Nat) (os:List Oper) (k:Nat) (a:Act) (o:Oper),os[n]?=some o→dS t (n+1) os k a=(dS t n os k a).put o.dst (t (k+n))
 |0,[],_,_,_,h=>by simp at h
 |0,p::os,k,a,o,h=>by
  simp at h
  subst h
  rfl
 |n+1,[],_,_,_,h=>by simp at h
 |n+1,p::os,k,a,o,h=>by
  show dS t (n+1) os (k+1) (a.put p.dst (t k))=_
  rw[zU t n os (k+1) _ o (by simpa using h),show k+1+n=k+(n+1)by omega]
  rfl
def ZF (ns:List (List Nat)):Bool:=(List.range ns.length).all fun i=>(ns.getD i []).all fun k=>decide (k<i)
theorem UZ {R:List Keep} {t:Nat→Value} {w:World} {n:Nat} (h:Have R t w (List.range n)) (a:List Nat) (c:∀k ∈ a,k<n):Have R t w a:=
 mQ a fun k hk'=>aO h k (c k hk')
theorem U1 {R:List Keep} {t:Nat→Value} {w w':World} {n:Nat} {v:Value} (h:Have R t w (List.range n)) (d:Below w.heap.size w w') (c:(pick R n).says v w'):Have R (upd t n v) w' (List.range (n+1)):=
 mQ _ fun k a=>by
  have a:=List.mem_range.1 a
  by_cases e:k=n
  ·subst e;simpa[upd]using c
  ·have:=aO h k (by omega)
   simp only[upd,if_neg e]
   exact(pick R k).stays _ _ _ d this
theorem Gl {l:List Oper} {a:Act} {w0:World} {R:List Keep}
  (fin:∀t w,Below w0.heap.size w0 w→Have R t w (List.range l.length)→Q .normal (dS t l.length l 0 a) w):
  ∀(os:List Oper) (k:Nat) (ns:List (List Nat)),(∀j,os[j]?=l[k+j]?)→k+os.length=l.length→(∀i,∀x ∈ ns.getD i [],x<k+i)→IX P ops Q l a w0 R k os ns→
   ∀t w,Below w0.heap.size w0 w→Have R t w (List.range k)→wpList P ops Q os (dS t k l 0 a) w
 |[],k,ns,_,hk,_,_,t,w,hb,hh=>by
  have:k=l.length:=by simpa using hk
  subst this
  exact fin t w hb hh
 | o ::os,k,ns,he,hk,hn,hs,t,w,hb,hh=>by
  have e:l[k]?=some o:=by simpa using(he 0).symm
  have c:∀x ∈ ns.headD [],x<k:=fun x hx=>by
   have:=hn 0 x (by cases ns with|nil=>cases hx|cons a b=>exact hx)
   simpa using this
  have:=hs.1 t w hb (UZ hh _ c) (wpList P ops Q os) fun v w' hb' hv=>by
   have d:=Gl fin os (k+1) ns.tail (fun j=>by have:=he (j+1);simpa[Nat.add_assoc,Nat.add_comm 1 j]using this) (by simp at hk;omega)
    (fun i x hx=>by
     have:=hn (i+1) x (by cases ns with|nil=>cases hx|cons a b=>exact hx)
     omega) hs.2 (upd t k v) w' (hb.trans (hb'.mono hb.size)) (U1 hh hb' hv)
   rw[zU _ k l 0 a o e,yD (upd t k v) t k l 0 a (fun j _ h2=>by simp[upd];omega)]at d
   simpa[upd]using d
  unfold wpList
  split
  ·rename_i hw
   rw[if_pos hw]at this
   exact .inl this
  ·rename_i hw
   rw[if_neg hw]at this
   exact this
theorem Pq {l:List Oper} {a:Act} {w:World} (R:List Keep) (ns:List (List Nat)) (d:ZF ns=true)
  (c:IX P ops Q l a w R 0 l ns)
  (fin:∀t w',Below w.heap.size w w'→Have R t w' (List.range l.length)→Q .normal (dS t l.length l 0 a) w'):wpList P ops Q l a w:=by
 refine Gl (ops:=ops) (l:=l) fin l 0 ns (fun j=>by simp) (by simp) (fun i x hx=>?_) c (fun _=>undef) w (Below.refl _ _) trivial;by_cases hi:i<ns.length
 ·have:=List.all_eq_true.1 d i (List.mem_range.2 hi);have:=List.all_eq_true.1 this x hx;simpa using this
 ·rw[List.getD_eq_getElem?_getD,List.getElem?_eq_none (by omega)]at hx;cases hx
theorem yJ {d:Nat} {a:Act} {w:World} {l:List Oper} (R:List Keep) (ns:List (List Nat)) (e:ZF ns=true)
  (c:IX P l.toArray Q l a w R 0 l ns)
  (fin:∀t w',Below w.heap.size w w'→Have R t w' (List.range l.length)→Q .normal (dS t l.length l 0 a) w'):(Code.region d l.toArray false).wp P Q a w:=
 wp_region_lit (Pq R ns e c fin)
end
end eU
namespace Q9
open Go.RowKit dL aaF
theorem same_iff (A z y x:ByteArray) (C:Bool) (v:Int) (j:Bool) (w:ByteArray) (J:Option Addr) (I F:Nat) (E:List ByteArray) (B g:Bool) (f e r q n m:ByteArray) (t:Bool) (k:Int) (i:Bool) (l:ByteArray) (H:Option Addr) (G D:Nat) (bl:List ByteArray) (s d:Bool) (c a:ByteArray):tN A z y x C v j w E B g f e=tN r q n m t k i l bl s d c a↔(A.data.toList=r.data.toList∧z.data.toList=q.data.toList∧y.data.toList=n.data.toList∧v=k∧txt C x=txt t m∧spB j i w l E bl=true∧txt B f=txt s c∧txt g e=txt d a):=by
 unfold tN;simp only[Prod.mk.injEq,List.cons.injEq,Option.some.injEq,and_true];cases j<;>cases i<;>simp[spB,txt]<;>constructor<;>(intro h;simp[h])
def Bx (w:World) (b:Nat) (c:Array Value):Prop:=w.heap[b]?=some (.cells c 25 (0,0))
theorem Bx.cell {w:World} {b:Nat} {c:Array Value} (h:Bx w b c) (i:Nat):w.cell? ⟨b,i,none⟩=c[i]?:=cell_of_row w b i _ _ _ h
theorem jF {w:World} {b:Nat} {q n m l k j i g f e d c a:Value} (h:Bx w b #[q,n,m,l,k,j,i,g,f,e,d,c,a]):
  w.cell? ⟨b,0,none⟩=some q∧w.cell? ⟨b,1,none⟩=some n∧w.cell? ⟨b,2,none⟩=some m∧w.cell? ⟨b,3,none⟩=some l∧w.cell? ⟨b,4,none⟩=some k∧w.cell? ⟨b,5,none⟩=some j∧w.cell? ⟨b,6,none⟩=some i∧w.cell? ⟨b,7,none⟩=some g∧w.cell? ⟨b,8,none⟩=some f∧w.cell? ⟨b,9,none⟩=some e∧w.cell? ⟨b,10,none⟩=some d∧w.cell? ⟨b,11,none⟩=some c∧w.cell? ⟨b,12,none⟩=some a:=
 ⟨(h.cell 0).trans rfl,(h.cell 1).trans rfl,(h.cell 2).trans rfl,(h.cell 3).trans rfl,(h.cell 4).trans rfl,(h.cell 5).trans rfl,(h.cell 6).trans rfl,(h.cell 7).trans rfl,(h.cell 8).trans rfl,(h.cell 9).trans rfl,(h.cell 10).trans rfl,(h.cell 11).trans rfl,(h.cell 12).trans rfl⟩
end Q9
namespace TP
open Go.RowKit Base
theorem Z9:(prog.info? 106).map (·.size)=some 2:=by kernel_rfl
theorem adE:liesAt prog prog.depth 106 (2 / prog.cellsOf 106) 0 106 1=true:=by kernel_rfl
abbrev Gp (B b:Nat) (l:List UInt8) (w:World):Prop:=Lib.IsBuilder 106 5 B b (Lib.byteCells l) w
theorem Et (b:Nat) (w:World) (c:w.cell? ⟨b,0,none⟩=some (.pointer (some ⟨b,0,none⟩))):
  Calls prog 174 #[.pointer (some ⟨b,0,none⟩)] w fun e w'=>e=.returned (.tuple #[])∧w'=w:=by
 obtain⟨j,a,_⟩:=Option.map_eq_some_iff.1 Z9;go_enter func174,ntmps174;go_wp2;rw[Lib.run_neq_ptr_same w _ underlying104 a];go_wp2
 go_end0
 exact⟨rfl,rfl⟩
theorem CP (b:Nat) (w:World) (g:w.cell? ⟨b,0,none⟩=some (.pointer none)) (a:w.shape? b=some (106,2)) (f:w.frozen? ⟨b,0,none⟩=false):
  Calls prog 174 #[.pointer (some ⟨b,0,none⟩)] w fun e w'=>e=.returned (.tuple #[])∧w'=w.setCell ⟨b,0,none⟩ (.pointer (some ⟨b,0,none⟩)):=by
 obtain⟨j,d,c⟩:=Option.map_eq_some_iff.1 Z9;go_enter func174,ntmps174;go_wp2;rw[Lib.run_to_unsafe w ⟨b,0,none⟩ underlying104 underlying176 d (by rw[c];decide) a (Nat.zero_lt_succ 1)];simp only[Result.andThen];rw[Oper.upon_value];go_wp2;rw[run_callFunc_extern func203 (by kernel_rfl) (by kernel_rfl) (by kernel_rfl) (e:=Extern.AbiNoEscape.same) (by kernel_rfl)];rw[Lib.run_noEscape];simp only[Result.andThen];rw[Oper.upon_value];go_wp2;rw[Lib.run_from_unsafe w ⟨b,0,none⟩ underlying176 underlying104 d a adE];simp only[Result.andThen];rw[Oper.upon_value];go_wp2
 go_end0
 exact⟨rfl,rfl⟩
theorem check_any (B b:Nat) (bs:List Value) (w:World) (h:Lib.IsBuilder 106 5 B b bs w):
  Calls prog 174 #[.pointer (some ⟨b,0,none⟩)] w fun e w'=>e=.returned (.tuple #[])∧(Lib.BuilderAt 106 5 B b (.pointer (some ⟨b,0,none⟩)) bs w'∧Below B w w'):=by
 rcases h with h|h
 ·refine(CP b w h.cell0 h.shape h.frozen0).mono ?_;rintro e w' ⟨rfl,rfl⟩;exact⟨rfl,h.used _,(Below.refl B w).setCell (p:=⟨b,0,none⟩) h.1 _⟩
 ·refine(Et b w h.cell0).mono ?_;rintro e w' ⟨rfl,rfl⟩;exact⟨rfl,h,Below.refl B _⟩
theorem nU (B b:Nat) (l:List UInt8) (s:ByteArray) (w:World) (h:Gp B b l w) (F:l.length+s.size≤140737488355328) (N:B≤w.heap.size):
  Calls prog 101 #[.pointer (some ⟨b,0,none⟩),.string s] w fun e w'=>e=.returned (.tuple #[.int .i64 s.size,.nilIface])∧Gp B b (l++s.data.toList) w'∧Below B w w':=by
 obtain⟨J,hi,z,y,x⟩:=info_parts pU;have n:(Lib.byteCells l).length=l.length:=by simp[Lib.byteCells]
 have q:=Base.hid n;clear n;go_enter func101,ntmps101;go_wp2_with (refine(check_any B b _ _ h).mono ?_)
 rintro e t ⟨rfl,O,j⟩;obtain⟨G,v,d,i,C⟩:=O;have Y:t.cell? ⟨b,0,none⟩=some (.pointer (some ⟨b,0,none⟩)):=by rw[Lib.cell_of_heap d];rfl
 have X:t.cell? ⟨b,1,none⟩=some v:=by rw[Lib.cell_of_heap d];rfl
 go_wp2_with (at_builtin;refine Lib.wpList_append_own_string _ rfl _ _ 45 9 rfl B 5 J underlying45 underlying9 hi z y x _ _ _ rfl i s rfl ?c3 ?c4 ?c5 ?_)
 case c3=>have:=q.out;unfold maxLen;omega
 case c4=>have:=q.out;omega
 case c5=>have:=j.size;omega
 intro I r a c _;have D:b<t.heap.size:=(Array.getElem?_eq_some_iff.1 d).1;have f:r.heap[b]?=some (.cells #[.pointer (some ⟨b,0,none⟩),v] 106 (0,0)):=by
  rw[c.block b D (fun e=>C e.symm)];exact d
 have W:r.cell? ⟨b,0,none⟩=some (.pointer (some ⟨b,0,none⟩)):=by rw[Lib.cell_of_heap f];rfl
 have V:r.cell? ⟨b,1,none⟩=some v:=by rw[Lib.cell_of_heap f];rfl
 have Q:r.frozen? ⟨b,1,none⟩=false:=Lib.frozen_of_heap f 1;obtain⟨H,E,m,rfl⟩:∃H E m,I=.slice H E m:=by
  rcases a.2 with⟨A,_⟩|⟨g,m,P,A,_⟩
  ·exact⟨_,_,_,A⟩
  ·exact⟨_,_,_,A⟩
 go_wp2;go_ret2;refine⟨rfl,Or.inr ?_,?_⟩
 ·have L:=Lib.BuilderAt.put (T:=106) (e:=5) G f (bs':=Lib.byteCells l++Lib.strCells s) (by simpa[Lib.strCells_length]using a) (by decide);have e:Lib.byteCells (l++s.data.toList)=Lib.byteCells l++Lib.strCells s:=by simp[Lib.byteCells,Lib.strCells]
  rw[e];exact L
 ·exact(j.grown c (by have:=j.size;omega) (fun k hk=>(i.lt k hk).1)).setCell (p:=⟨b,1,none⟩) G _
end TP
namespace ac3
open Go.RowKit Base bC dL TP
theorem vC (B b:Nat) (l:List UInt8) (w:World) (h:Gp B b l w) (a:B≤w.heap.size):
  Calls prog 105 #[.pointer (some ⟨b,0,none⟩)] w fun e w'=>e=.returned (.string (ah l))∧Below B w w':=Tryz.Builder_String B b l w h a
theorem Uy (v a c t:ByteArray) (b4:Bool) (r:Int) (D:Bool) (s:ByteArray) (A:Option Addr) (n m:Nat) (l:List ByteArray) (C q:Bool) (i h:ByteArray) (w:World) (G:a.size≤1073741824) (F:c.size≤1073741824):
  Calls prog 112 #[.agg #[.string v,.string a,.string c,.string t,.bool b4,.int .i64 r,.bool D,.string s,.slice A n m,.bool C,.bool q,.string i,.string h]] w fun e w'=>e=.returned (.string (ah (kZ a c)))∧Below w.heap.size w w':=by
 have f:a.data.toList.length=a.size:=Array.length_toList;have d:c.data.toList.length=c.size:=Array.length_toList;by_cases e2:c.data.toList=[]
 ·have y:c.toList=[]:=by rw[tl];exact e2
  have HC:Hid (kZ a c=if a.data.toList=[]then[]else a.data.toList++[64]):=if_pos e2;by_cases e1:a.data.toList=[]
  ·have B:a.toList=[]:=by rw[tl];exact e1
   have g:Hid (kZ a c=[]):=HC.trans (if_pos e1);clear e1 e2 f d;go_enter func112,ntmps112;go_wp2;go_ret;exact⟨by rw[g.out];rfl,(Below.refl _ _).alloc (Nat.le_refl _) _⟩
  ·have B:(a.toList==[])=false:=by rw[tl];simpa using e1
   have z:a.toList.isEmpty=false:=by rw[tl];simpa using e1
   have g:Hid (kZ a c=a.data.toList++[64]):=HC.trans (if_neg e1);have E:∀w:World,(Op.stringOp .add a ⟨#[64]⟩).run prog w=.ok (.string (ah (a.data.toList++[64]))) w:=fun w=>ig a ⟨#[64]⟩ w (by show a.size+1≤_;omega);clear e1 e2 f d;go_enter func112,ntmps112;go_wp2;go_ret;exact⟨by rw[g.out];rfl,(Below.refl _ _).alloc (Nat.le_refl _) _⟩
 ·have y:(c.toList==[])=false:=by rw[tl];simpa using e2
  have x:c.toList.isEmpty=false:=by rw[tl];simpa using e2
  have HC:Hid (kZ a c=a.data.toList++[58]++c.data.toList++[64]):=if_neg e2;obtain⟨X,k⟩:∃X,X=ah (a.data.toList++[58]):=⟨_,rfl⟩;obtain⟨Y,j⟩:∃Y,Y=ah (a.data.toList++[58]++c.data.toList):=⟨_,rfl⟩;have E:∀w:World,(Op.stringOp .add a ⟨#[58]⟩).run prog w=.ok (.string X) w:=fun w=>by rw[k];exact ig a ⟨#[58]⟩ w (by show a.size+1≤_;omega)
  have I:∀w:World,(Op.stringOp .add X c).run prog w=.ok (.string Y) w:=fun w=>by rw[k,j];exact ig _ c w (by rw[ak,List.length_append];simp;omega)
  have H:∀w:World,(Op.stringOp .add Y ⟨#[64]⟩).run prog w=.ok (.string (ah (kZ a c))) w:=fun w=>by rw[HC.out,j];exact ig _ ⟨#[64]⟩ w (by rw[ak];simp;show _+1≤_;omega)
  clear e2 f d k j;go_enter func112,ntmps112;go_wp2;go_ret;exact⟨rfl,(Below.refl _ _).alloc (Nat.le_refl _) _⟩
theorem VH (s0 s1 s2 s3:ByteArray) (b4:Bool) (Z:Int) (J:Bool) (D:ByteArray) (A:Option Addr) (n r:Nat) (l:List ByteArray) (b9 L:Bool) (F E:ByteArray) (w:World) (C:dP w A n (l.map Value.string)) (a3:n≤r) (I:r≤maxLen) (h7:D.size≤1073741824) (T:(aF l).length≤1073741824):
  Calls prog 40 #[.agg #[.string s0,.string s1,.string s2,.string s3,.bool b4,.int .i64 Z,.bool J,.string D,.slice A n r,.bool b9,.bool L,.string F,.string E]] w fun e w'=>e=.returned (.string (ah (pF J D l)))∧Below w.heap.size w w':=by
 have G:l.length=n:=by rw[←C.1,List.length_map]
 have a:=kD l;unfold maxLen at I;cases J with
 |true=>
  clear G a;clear C;go_enter func40,ntmps40;go_wp2;go_ret;exact⟨rfl,(Below.refl _ _).alloc (Nat.le_refl _) _⟩
 | false=>
  have HR:=hid C;have W:=hid G;have N:=hid a;have O:=hid T;clear C G a T;go_enter func40,ntmps40;go_wp2;generalize hw1:w.alloc _=w1;have x:Below w.heap.size w w1:=by rw[←hw1];exact(Below.refl _ _).alloc (Nat.le_refl _) _
  have m:w1.heap.size=w.heap.size+1:=by rw[←hw1];simp
  clear hw1;have Q:Hid (Gp (w.heap.size+1) (w.heap.size+1) [] (w1.alloc (.cells #[.pointer none,.slice none 0 0] 106))):=by
   have h:=Lib.fresh_isBuilder 106 5 w1;rw[m]at h;exact h
  go_loopw [5,13] (fun _ vk wr=>∃k:Nat,k≤n∧vk=.int .i64 (k:Int)∧Hid (Gp (w.heap.size+1) (w.heap.size+1) (aF (l.take k)) wr)∧Hid (Below (w.heap.size+1) w1 wr)) (fun _ vk _=>n - (intOf vk).toNat)
  case atStart=>exact⟨0,Nat.zero_le _,rfl,Q,(Below.refl _ _).alloc (by rw[m];exact Nat.le_refl _) _⟩
  case round=>
   obtain⟨k,hk,rfl,Y,f⟩:=hrel;have t:w.heap.size+1≤wr.heap.size:=by have:=f.size;rw[m]at this;exact this
   by_cases hlt:k<n
   ·have d:k<l.length:=by rw[W.out];exact hlt
    have y:=HR.below (x.trans (f.mono (by omega)));obtain⟨g,a0,rfl,hg,c⟩:=y.spot (by omega);have V:=c k (by rw[List.length_map];exact d);rw[List.getElem_map]at V;obtain⟨s,B⟩:∃s,s=l[k]:=⟨_,rfl⟩;have HS:Hid (l.take (k+1)=l.take k++[s]):=by rw[B];exact dG l k d
    rw[←B]at V;have i:=WS l k d;have j:=FY l (k+1);have v:=kD (l.take k);rw[List.length_take,Nat.min_eq_left (by omega)]at v;have a:=N.out;have H:=O.out;rw[←B]at i;have a2:s.size≤1073741824:=by omega
    have a1:∀w:World,(Op.stringOp .add ⟨#[47]⟩ s).run prog w=.ok (.string (ah ([47]++s.data.toList))) w:=fun w=>ig ⟨#[47]⟩ s w (by show 1+s.size≤_;omega);have z:Hid ((aF (l.take k)).length+(1+s.size)≤140737488355328):=by show _≤_;omega
    clear B i j v a H y c d;go_wp2_with (refine(nU _ _ _ _ _ Y (by rw[ak];have:=z.out;simp at this⊢;omega) t).mono ?_;rintro e w3 ⟨rfl,P,q⟩)
    go_roundw
    case rel=>exact⟨k+1,by omega,by go_num,by
     rw[HS.out,FB];exact P,f.trans q⟩
    case measure=>simp[intOf];omega
   ·obtain rfl:k=n:=by omega
    have HT:Hid (l.take k=l):=List.take_of_length_le (by rw[W.out];exact Nat.le_refl _);go_wp2_with (refine(vC _ _ _ _ Y t).mono ?_;rintro e w3 ⟨rfl,q⟩)
    go_ret;exact⟨congrArg (fun X=>Ending.returned (.string (ah (aF X)))) HT,x.trans ((f.trans q).mono (by omega))⟩
end ac3
namespace Q8
open Go.RowKit Base bC dL TP ac3 eU
def Box (w:World) (b:Nat) (c:Array Value):Prop:=w.heap[b]?=some (.cells c 25 (0,0))
theorem Box.cell {w:World} {b:Nat} {c:Array Value} (h:Box w b c) (i:Nat):w.cell? ⟨b,i,none⟩=c[i]?:=cell_of_row w b i _ _ _ h
theorem Box.below {w w':World} {B b:Nat} {c:Array Value} (h:Box w b c) (a:Below B w w') (d:b<B):Box w' b c:=(a.block b d).trans h
theorem jF {w:World} {b:Nat} {q n m l k j i g f e d c a:Value} (h:Box w b #[q,n,m,l,k,j,i,g,f,e,d,c,a]):
  w.cell? ⟨b,0,none⟩=some q∧w.cell? ⟨b,1,none⟩=some n∧w.cell? ⟨b,2,none⟩=some m∧w.cell? ⟨b,3,none⟩=some l∧w.cell? ⟨b,4,none⟩=some k∧w.cell? ⟨b,5,none⟩=some j∧w.cell? ⟨b,6,none⟩=some i∧w.cell? ⟨b,7,none⟩=some g∧w.cell? ⟨b,8,none⟩=some f∧w.cell? ⟨b,9,none⟩=some e∧w.cell? ⟨b,10,none⟩=some d∧w.cell? ⟨b,11,none⟩=some c∧w.cell? ⟨b,12,none⟩=some a:=
 ⟨(h.cell 0).trans rfl,(h.cell 1).trans rfl,(h.cell 2).trans rfl,(h.cell 3).trans rfl,(h.cell 4).trans rfl,(h.cell 5).trans rfl,(h.cell 6).trans rfl,(h.cell 7).trans rfl,(h.cell 8).trans rfl,(h.cell 9).trans rfl,(h.cell 10).trans rfl,(h.cell 11).trans rfl,(h.cell 12).trans rfl⟩
theorem U9 (z:Int) (d: -9223372036854775808≤z) (c:z≤9223372036854775807) (w:World) (a:Tab.Pow w):
  Calls prog 109 #[.int .i64 z] w fun e w'=>e=.returned (.string (ah (Lib.itoa z)))∧Below w.heap.size w w':=
 (strconv_Itoa z d c w a).mono fun e w' ⟨he,k,os,hw⟩=>⟨he,by rw[hw];exact Tab.below_grow w k os⟩
theorem nK (k:Nat):∀n,n<10^(k+1)→(Lib.decDigits n).length≤k+1:=by
 induction k with
 |zero=>intro n h;rw[Lib.decDigits,dif_pos (by omega)];simp
 |succ k ih=>
  intro n h;rw[Lib.decDigits];split
  ·simp
  have:=ih (n / 10) (by rw[Nat.pow_succ]at h;omega);rw[List.length_append];simp;omega
theorem Lu (z:Int) (c: -9223372036854775808≤z) (a:z≤9223372036854775807):(Lib.itoa z).length≤20:=by
 unfold Lib.itoa;split
 ·have:=nK 18 z.natAbs (by omega);simp;omega
 have:=nK 18 z.toNat (by omega);omega
theorem KN (c a:ByteArray) (g:c.size≤1073741824) (f:a.size≤1073741824):(kZ c a).length≤2147483650:=by
 have e:c.data.toList.length=c.size:=Array.length_toList;have d:a.data.toList.length=a.size:=Array.length_toList;unfold kZ;split
 ·split
  ·simp
  rw[List.length_append];simp;omega
 rw[List.length_append,List.length_append,List.length_append];simp;omega
theorem LW (a:Int) (d: -9223372036854775808≤a) (c:a≤9223372036854775807):(jW a).length≤21:=by
 have:=Lu a d c;unfold jW;split<;>simp<;>omega
theorem Qr (e d c:ByteArray) (b4:Bool) (a:Int) (k:Bool) (l:List ByteArray) (i:e.size≤1073741824) (h:d.size≤1073741824) (m:c.size≤1073741824) (j: -9223372036854775808≤a) (g:a≤9223372036854775807):(qE e d c b4 a k l).length≤4294967296:=by
 have:=KN e d i h;have:=LW a j g;have f:c.data.toList.length=c.size:=Array.length_toList;unfold qE;split
 ·rw[List.length_append,List.length_append,List.length_append];simp;omega
 split<;>simp
theorem xR {B b:Nat} {l:List UInt8} {w w':World} (h:Gp B b l w) (c:Below w.heap.size w w'):Gp B b l w':=by
 rcases h with⟨f,v,a,e,d⟩|⟨f,v,a,e,d⟩
 ·exact Or.inl ⟨f,v,(c.block _ (Array.getElem?_eq_some_iff.1 a).1).trans a,bf e c,d⟩
 exact Or.inr ⟨f,v,(c.block _ (Array.getElem?_eq_some_iff.1 a).1).trans a,bf e c,d⟩
theorem Ur (d m k i:ByteArray) (b4:Bool) (c:Int) (B:Bool) (D:ByteArray) (A:Option Addr) (n F:Nat) (l:List ByteArray) (b9 V:Bool) (f O:ByteArray) (w:World) (hR:dP w A n (l.map Value.string)) (g1:n≤F) (g7:F≤maxLen) (h6:d.size≤1073741824) (d2:m.size≤1073741824) (d1:k.size≤1073741824) (f9:i.size≤1073741824) (f8:D.size≤1073741824) (h3:f.size≤1073741824) (hz: -9223372036854775808≤c) (d0:c≤9223372036854775807) (hl:(aF l).length≤1073741824) (hT:Tab.Pow w):
  Calls prog 46 #[.agg #[.string d,.string m,.string k,.string i,.bool b4,.int .i64 c,.bool B,.string D,.slice A n F,.bool b9,.bool V,.string f,.string O]] w fun e w'=>e=.returned (.string (ah (vI d m k i b4 c B D l b9 f)))∧Below w.heap.size w w':=by
 have g6:d.data.toList.length=d.size:=Array.length_toList;have g5:i.data.toList.length=i.size:=Array.length_toList;have g4:D.data.toList.length=D.size:=Array.length_toList;have d8:f.data.toList.length=f.size:=Array.length_toList;have hn:l.length=n:=by rw[←hR.1,List.length_map]
 have HN:=hid hn;have f0:=hid (KN m k d2 d1);have e9:=hid (Lu c hz d0);have h0:=hid (Qr m k i b4 c B l d2 d1 f9 hz d0);have W:Hid ((d.data.toList++[58]).length≤1073741825):=by show _≤_;rw[List.length_append];simp;omega
 obtain⟨CA,b3⟩:∃X,X=[47,47]++kZ m k:=⟨_,rfl⟩;obtain⟨CB,b0⟩:∃X,X=CA++i.data.toList:=⟨_,rfl⟩;have e2:CA.length≤2147483652:=by rw[b3,List.length_append];have:=f0.out;simp;omega
 have e6:Hid (CB.length≤3221225476):=by show _≤_;rw[b0,List.length_append];omega
 have a2:∀w:World,(Op.stringOp .add ⟨#[47,47]⟩ (ah (kZ m k))).run prog w=.ok (.string (ah CA)) w:=fun w=>by rw[b3];exact ig ⟨#[47,47]⟩ _ w (by rw[ak];have:=f0.out;show 2+_≤_;omega)
 have a3:∀w:World,(Op.stringOp .add (ah CA) i).run prog w=.ok (.string (ah CB)) w:=fun w=>by rw[b0];exact ig _ i w (by rw[ak];omega)
 have f1:Hid (CB=[47,47]++kZ m k++i.data.toList):=by show _=_;rw[b0,b3]
 clear b3 b0 e2;have e4:Hid ((pF B D l).length≤1073741824):=by show _≤_;unfold pF;split<;>omega
 have a1:∀w:World,(Op.stringOp .add d ⟨#[58]⟩).run prog w=.ok (.string (ah (d.data.toList++[58]))) w:=fun w=>ig d ⟨#[58]⟩ w (by show d.size+1≤_;omega);obtain⟨QL,a8⟩:∃X,X=[63]++f.data.toList:=⟨_,rfl⟩;have a5:∀w:World,(Op.stringOp .add ⟨#[63]⟩ f).run prog w=.ok (.string (ah QL)) w:=fun w=>by rw[a8];exact ig ⟨#[63]⟩ f w (by show 1+f.size≤_;omega)
 have e3:Hid (QL.length≤1073741825):=by show _≤_;rw[a8,List.length_append];simp;omega
 have g9:=hid a8;clear a8;clear g6 g5 g4 d8 hn;have HR:=hid hR;have h1:=hid hl;have HT:=hid hT;clear hR hl hT;unfold maxLen at g7;go_enter func46,ntmps46;go_upto_region 1 with(fail)
 generalize hw1:w.alloc _=w1;have g8:Below w.heap.size w w1:=by rw[←hw1];exact(Below.refl _ _).alloc (Nat.le_refl _) _
 have G:w1.heap.size=w.heap.size+1:=by rw[←hw1];simp
 have f2:Hid (Box w1 w.heap.size #[.string d,.string m,.string k,.string i,.bool b4,.int .i64 c,.bool B,.string D,.slice A n F,.bool b9,.bool V,.string f,.string O]):=by
  show _=_;rw[←hw1];exact heap_alloc_new w _
 clear hw1;go_upto_region 2 with(fail)
 have f7:Hid (Gp (w.heap.size+1) (w.heap.size+1) [] (w1.alloc (.cells #[.pointer none,.slice none 0 0] 106))):=by
  have h:=Lib.fresh_isBuilder 106 5 w1;rw[G]at h;exact h
 have T:Below (w.heap.size+1) w1 (w1.alloc (.cells #[.pointer none,.slice none 0 0] 106)):=(Below.refl _ _).alloc (by rw[G];exact Nat.le_refl _) _;have b7:(w1.alloc (.cells #[.pointer none,.slice none 0 0] 106)).heap.size=w.heap.size+2:=by simp[G]
 generalize hw2:w1.alloc _=w2 at f7 T b7⊢;clear hw2;have C:Below w.heap.size w w2:=g8.trans (T.mono (by omega));have a:=f2.below T (by omega);have a0:=hid a;obtain⟨c0,c1,c2,c3,c4,c5,c6,c7,c8,c9,z,v,s⟩:=jF a;clear a;have d7:w.heap.size+1≤w2.heap.size:=by omega
 clear G b7;go_wp2_with fail
 refine(nU _ _ _ _ _ f7 (by rw[ak];have:=W.out;simp at this⊢;omega) d7).mono ?_;rintro e w3 ⟨rfl,f6,j⟩;have N:Hid (Gp (w.heap.size+1) (w.heap.size+1) (d.data.toList++[58]) w3):=f6;have d6:w.heap.size+1≤w3.heap.size:=by have:=j.size;omega
 have a:=a0.below j (by omega:w.heap.size<w.heap.size+1);have Z:=hid a;clear c0 c1 c2 c3 c4 c5 c6 c7 c8 c9 z v s;obtain⟨c0,c1,c2,c3,c4,c5,c6,c7,c8,c9,z,v,s⟩:=jF a;clear a
 go_upto_if 9 with(fail)
 go_cut [] (fun wx=>Hid (Gp (w.heap.size+1) (w.heap.size+1) (d.data.toList++[58]++qE m k i b4 c B l) wx)∧Hid (Below (w.heap.size+1) w2 wx))
 case first=>
  cases b4 with
  | true=>
   go_wp2_with fail
   clear c0 c1 c2 c3 c4 c5 c6 c7 c8 c9 z v s;refine aW (by kernel_rfl) 6 [is (.agg #[.string d,.string m,.string k,.string i,.bool true,.int .i64 c,.bool B,.string D,.slice A n F,.bool b9,.bool V,.string f,.string O]),is (.string (ah (kZ m k))),is (.string (ah CA)),pg w.heap.size 3,is (.string i),is (.string (ah CB))] [[],[0],[0,1],[],[3],[0,1,2,3,4],[0,1,2,3,4,5]] (by kernel_rfl) ?_ ?_
   ·refine⟨?_,?_,?_,?_,?_,?_,trivial⟩;all_goals(intro t wq E hh K hK;simp only[iG,oV,Act.put,Nat.reduceAdd,Nat.reduceEqDiff,reduceIte]at hh hK⊢;(try simp only[hh]at hK⊢);clear hh)
    ·have a:=Z.below E (by omega);obtain⟨c0,c1,c2,c3,c4,c5,c6,c7,c8,c9,z,v,s⟩:=jF a;clear a;go_simp;exact hK _ _ aV rfl
    ·go_simp;refine(Uy d m k i true c B D A n F l b9 V f O _ d2 d1).mono ?_;rintro e w5 ⟨rfl,q⟩;exact hK _ _ q rfl
    ·have d9:=a2 wq;go_simp;exact hK _ _ aV rfl
    ·go_simp;exact hK _ _ aV rfl
    ·have a:=Z.below E (by omega);obtain⟨c0,c1,c2,c3,c4,c5,c6,c7,c8,c9,z,v,s⟩:=jF a;clear a;go_simp;exact hK _ _ aV rfl
    ·have d9:=a3 wq;go_simp;exact hK _ _ aV rfl
   ·intro t wq E hh;have f5:=aO hh 5 (by decide);simp only[pick]at f5;replace f5:t 5=(.string (ah CB)):=f5;clear hh;simp only[iG,oV,Act.put,Nat.reduceAdd,Nat.reduceEqDiff,reduceIte];simp only[f5];have f4:=N.out;go_wp2_with fail
    refine(nU _ _ _ _ _ (xR N E) (by rw[ak];have:=W.out;have:=e6.out;omega) (by have:=E.size;omega)).mono ?_;rintro e w5 ⟨rfl,a7,q⟩;rw[jV]at a7;have H:=j.trans ((E.mono (by omega)).trans q);have a:=Z.below ((E.mono (by omega)).trans q) (by omega:w.heap.size<w.heap.size+1);obtain⟨c0,c1,c2,c3,c4,c5,c6,c7,c8,c9,z,v,s⟩:=jF a;clear a;have d4:w.heap.size+1≤w5.heap.size:=by have:=H.size;omega
    by_cases hp:c= -1
    ·have q1:(c== -1)=true:=by simpa using hp
     have q2:(c != -1)=false:=by simpa using hp
     have HP:Hid (jW c=[]):=if_pos hp;clear hp;go_wp2
     go_meet
     refine⟨?_,H⟩;have e:d.data.toList++[58]++qE m k i true c B l=d.data.toList++[58]++CB:=by unfold qE;rw[if_pos rfl,HP.out,List.append_nil,f1.out]
     show Gp _ _ _ _;rw[e];exact a7
    ·have q1:(c== -1)=false:=by simpa using hp
     have q2:(c != -1)=true:=by simpa using hp
     have HP:Hid (jW c=58::Lib.itoa c):=if_neg hp;clear hp;obtain⟨IT,a9⟩:∃X,X=[58]++Lib.itoa c:=⟨_,rfl⟩;have a4:∀w:World,(Op.stringOp .add ⟨#[58]⟩ (ah (Lib.itoa c))).run prog w=.ok (.string (ah IT)) w:=fun w=>by rw[a9];exact ig ⟨#[58]⟩ _ w (by rw[ak];have:=e9.out;show 1+_≤_;omega)
     have e7:Hid (IT.length≤21):=by show _≤_;rw[a9,List.length_append];have:=e9.out;simp;omega
     have e8:=hid a9;clear a9;go_wp2_with fail
     refine(U9 c hz d0 _ (HT.below (C.trans (H.mono (by omega))))).mono ?_;rintro e w6 ⟨rfl,Q⟩;go_wp2_with fail
     refine(nU _ _ _ _ _ (xR a7 Q) (by rw[ak,List.length_append];have:=e7.out;have:=W.out;have:=e6.out;omega) (by have:=Q.size;omega)).mono ?_;rintro e w7 ⟨rfl,a6,L⟩;rw[jV]at a6;go_wp2
     go_meet
     refine⟨?_,H.trans ((Q.mono d4).trans L)⟩;have e:d.data.toList++[58]++qE m k i true c B l=d.data.toList++[58]++CB++IT:=by unfold qE;rw[if_pos rfl,HP.out,f1.out,e8.out];simp
     show Gp _ _ _ _;rw[e];exact a6
  | false=>
   cases B with
   |true=>
    go_wp2
    go_meet
    refine⟨?_,j⟩;show Gp _ _ (_++[]) _;rw[List.append_nil];exact N
   | false=>
    by_cases h1n:1<n
    ·obtain⟨x,y,r,d3⟩:∃x y r,l=x::y::r:=by
      have:=HN.out
      match l,this with
      |x::y::r,_=>exact⟨x,y,r,rfl⟩
      |[_],h=>simp at h;omega
      |[],h=>simp at h;omega
     have e1:=HR.below (C.trans (j.mono (by omega)));obtain⟨g,h5,rfl,hg,P⟩:=e1.spot (by omega);have hc:=P 0 (by rw[List.length_map,HN.out];omega);have e0:(l.map Value.string)[0]'(by rw[List.length_map,HN.out];omega)=.string x:=by simp[d3]
     rw[e0,Nat.add_zero]at hc;have HD:Hid (rP false l=decide (x.data.toList=[])):=by show _=_;rw[d3];rfl
     clear e1 P e0 d3;by_cases hx:x.data.toList=[]
     ·have q1:x.toList=[]:=by rw[tl];exact hx
      have Y:Hid (rP false l=true):=HD.trans (decide_eq_true hx);clear hx;go_wp2_with fail
      refine(nU _ _ _ _ _ N (by have:=W.out;show _+2≤_;omega) d6).mono ?_;rintro e w5 ⟨rfl,a7,q⟩;go_wp2
      go_meet
      refine⟨?_,j.trans q⟩;have e:d.data.toList++[58]++qE m k i false c false l=d.data.toList++[58]++[47,46]:=by unfold qE;rw[if_neg (by decide),if_pos Y.out]
      show Gp _ _ _ _;rw[e];exact a7
     ·have q1:(x.toList==[])=false:=by rw[tl];simpa using hx
      have h4:x.toList.isEmpty=false:=by rw[tl];simpa using hx
      have Y:Hid (¬rP false l=true):=by show ¬_;rw[HD.out];simpa using hx
      clear hx;go_wp2
      go_meet
      refine⟨?_,j⟩;have e:d.data.toList++[58]++qE m k i false c false l=d.data.toList++[58]:=by unfold qE;rw[if_neg (by decide),if_neg Y.out,List.append_nil]
      show Gp _ _ _ _;rw[e];exact N
    ·have Y:Hid (¬rP false l=true):=by
      have:=HN.out
      match l,this with
      |x::y::r,h=>simp at h;omega
      |[_],h=>simp[rP,Hid]
      |[],h=>simp[rP,Hid]
     go_wp2
     go_meet
     refine⟨?_,j⟩;have e:d.data.toList++[58]++qE m k i false c false l=d.data.toList++[58]:=by unfold qE;rw[if_neg (by decide),if_neg Y.out,List.append_nil]
     show Gp _ _ _ _;rw[e];exact N
 case rest=>
 obtain⟨f4,J⟩:=hcut;clear c0 c1 c2 c3 c4 c5 c6 c7 c8 c9 z v s;have a:=a0.below J (by omega:w.heap.size<w.heap.size+1);obtain⟨c0,c1,c2,c3,c4,c5,c6,c7,c8,c9,z,v,s⟩:=jF a;clear a;have d5:w.heap.size+1≤wc.heap.size:=by have:=J.size;omega
 go_wp2_with fail
 refine(VH d m k i b4 c B D A n F l b9 V f O _ (HR.below (C.trans (J.mono (by omega)))) g1 (by unfold maxLen;omega) f8 h1).mono ?_;rintro e w5 ⟨rfl,q⟩;go_wp2_with fail
 have g2:=h0.out;have g3:=W.out;have g0:=e4.out;have e5:Hid ((d.data.toList++[58]++qE m k i b4 c B l).length≤5368709121):=by show _≤_;rw[List.length_append];omega
 have h2:Hid ((d.data.toList++[58]++qE m k i b4 c B l++pF B D l).length≤6442450945):=by show _≤_;rw[List.length_append];have:=e5.out;omega
 clear g2 g3 g0;refine(nU _ _ _ _ _ (xR f4 q) (by rw[ak];have:=e5.out;have:=e4.out;omega) (by have:=q.size;omega)).mono ?_;rintro e w6 ⟨rfl,f3,Q⟩;rw[jV]at f3;have I:=J.trans ((q.mono d5).trans Q);have b5:w.heap.size+1≤w6.heap.size:=by have:=I.size;omega
 clear c0 c1 c2 c3 c4 c5 c6 c7 c8 c9 z v s;have a:=a0.below I (by omega:w.heap.size<w.heap.size+1);obtain⟨c0,c1,c2,c3,c4,c5,c6,c7,c8,c9,z,v,s⟩:=jF a;clear a;have b8:=hid f3;cases b9 with
 |false=>
  go_wp2_with fail
  refine(vC _ _ _ _ b8 b5).mono ?_;rintro e w7 ⟨rfl,L⟩;go_wp2;go_ret;refine⟨?_,C.trans ((I.trans L).mono (by omega))⟩;have e:vI d m k i b4 c B D l false f=d.data.toList++[58]++qE m k i b4 c B l++pF B D l:=by unfold vI;rw[if_neg (by decide),List.append_nil]
  refine congrArg (fun X=>Ending.returned (.string (ah X))) ?_;rw[e];simp
 |true=>
  go_wp2_with fail
  refine(nU _ _ _ _ _ b8 (by rw[ak];have:=h2.out;have:=e3.out;omega) b5).mono ?_;rintro e w7 ⟨rfl,a6,L⟩;rw[jV]at a6;go_wp2_with fail
  refine(vC _ _ _ _ a6 (by have:=L.size;omega)).mono ?_;rintro e w8 ⟨rfl,hb8⟩;go_wp2;go_ret;refine⟨?_,C.trans (((I.trans L).trans hb8).mono (by omega))⟩;have e:vI d m k i b4 c B D l true f=d.data.toList++[58]++qE m k i b4 c B l++pF B D l++QL:=by unfold vI;rw[if_pos rfl,g9.out];rfl
  refine congrArg (fun X=>Ending.returned (.string (ah X))) ?_;rw[e];simp
theorem Ej (q m k j:ByteArray) (b4:Bool) (f:Int) (D:Bool) (i:ByteArray) (A:Option Addr) (n c:Nat) (l:List ByteArray) (C h:Bool) (a d:ByteArray) (w:World) (I:dP w A n (l.map Value.string)) (z:n≤c) (B:c≤maxLen) (y:q.size≤1073741824) (x:m.size≤1073741824) (v:k.size≤1073741824) (t:j.size≤1073741824) (s:i.size≤1073741824) (g:a.size≤1073741824) (E:d.size≤1073741824) (F: -9223372036854775808≤f) (r:f≤9223372036854775807) (G:(aF l).length≤1073741824) (H:Tab.Pow w):
  Calls prog 46 #[.agg #[.string q,.string m,.string k,.string j,.bool b4,.int .i64 f,.bool D,.string i,.slice A n c,.bool C,.bool h,.string a,.string d]] w fun e w'=>e=.returned (.string (ah (vI q m k j b4 f D i l C a)))∧Below w.heap.size w w':=
 Ur q m k j b4 f D i A n c l C h a d w I z B y x v t s g F r G H
theorem Us (e i g f:ByteArray) (b4:Bool) (c:Int) (v:Bool) (d:ByteArray) (A:Option Addr) (n C:Nat) (l:List ByteArray) (D E:Bool) (a h:ByteArray) (y:e.size≤1073741824) (q:i.size≤1073741824) (m:g.size≤1073741824) (k:f.size≤1073741824) (x:d.size≤1073741824) (s:a.size≤1073741824) (r:h.size≤1073741824) (w: -9223372036854775808≤c) (j:c≤9223372036854775807) (F:(aF l).length≤1073741824):(vI e i g f b4 c v d l D a).length≤8589934592:=by
 have B:e.data.toList.length=e.size:=Array.length_toList;have z:d.data.toList.length=d.size:=Array.length_toList;have t:a.data.toList.length=a.size:=Array.length_toList;have:=Qr i g f b4 c v l q m k w j;unfold vI pF;rw[List.length_append,List.length_append,List.length_append,List.length_append];split<;>split<;>simp<;>omega
theorem nR (q m k j:ByteArray) (b4:Bool) (h:Int) (v:Bool) (i:ByteArray) (A:Option Addr) (n d:Nat) (l:List ByteArray) (s G:Bool) (c a:ByteArray) (w:World) (hR:dP w A n (l.map Value.string)) (Z:n≤d) (a3:d≤maxLen) (Q:q.size≤1073741824) (P:m.size≤1073741824) (O:k.size≤1073741824) (N:j.size≤1073741824) (L:i.size≤1073741824) (y:c.size≤1073741824) (x:a.size≤1073741824) (hz: -9223372036854775808≤h) (J:h≤9223372036854775807) (hl:(aF l).length≤1073741824) (hT:Tab.Pow w):
  Calls prog 24 #[.agg #[.string q,.string m,.string k,.string j,.bool b4,.int .i64 h,.bool v,.string i,.slice A n d,.bool s,.bool G,.string c,.string a]] w fun e w'=>e=.returned (.string (ah (BX q m k j b4 h v i l s G c a)))∧Below w.heap.size w w':=by
 have I:=a3;unfold maxLen at a3;have a0:a.data.toList.length=a.size:=Array.length_toList;obtain⟨BL,W⟩:∃X,X=vI q m k j b4 h v i l s c:=⟨_,rfl⟩;have a7:BL.length≤8589934592:=by rw[W];exact Us q m k j b4 h v i A n d l s G c a Q P O N L y x hz J hl
 have a6:=hid W;obtain⟨BM,C⟩:∃X,X=BL++[35]:=⟨_,rfl⟩;obtain⟨Y,V⟩:∃X,X=BM++a.data.toList:=⟨_,rfl⟩;have a1:∀w:World,(Op.stringOp .add (ah BL) ⟨#[35]⟩).run prog w=.ok (.string (ah BM)) w:=fun w=>by rw[C];exact ig _ ⟨#[35]⟩ w (by rw[ak];show _+1≤_;omega)
 have a2:∀w:World,(Op.stringOp .add (ah BM) a).run prog w=.ok (.string (ah Y)) w:=fun w=>by rw[V];exact ig _ a w (by rw[ak,C,List.length_append];simp;omega)
 have a8:Hid (Y=BL++[35]++a.data.toList):=by show _=_;rw[V,C]
 clear W C V a0 a7;have HR:=hid hR;have a5:=hid hl;have HT:=hid hT;clear hR hl hT;cases G with
 | true=>
  go_enter func24,ntmps24;go_upto_region 1 with(fail)
  generalize hw1:w.alloc _=w1;have g:Below w.heap.size w w1:=by rw[←hw1];exact(Below.refl _ _).alloc (Nat.le_refl _) _
  have H:w.heap.size<w1.heap.size:=by rw[←hw1];simp
  have f:Hid (Box w1 w.heap.size #[.string q,.string m,.string k,.string j,.bool b4,.int .i64 h,.bool v,.string i,.slice A n d,.bool s,.bool true,.string c,.string a]):=by
   show _=_;rw[←hw1];exact heap_alloc_new w _
  clear hw1;obtain⟨c0,c1,c2,c3,c4,c5,c6,c7,c8,c9,F,E,D⟩:=jF f;go_wp2_with fail
  clear c0 c1 c2 c3 c4 c5 c6 c7 c8 c9 F E D;refine dH (by kernel_rfl) [is (.agg #[.string q,.string m,.string k,.string j,.bool b4,.int .i64 h,.bool v,.string i,.slice A n d,.bool s,.bool true,.string c,.string a]),is (.string (ah BL)),is (.string (ah BM)),pg w.heap.size 12,is (.string a),is (.string (ah Y)),is (.string (ah Y))] [[],[0],[1],[],[3],[2,4],[5]] (by kernel_rfl) ?_ ?_
  ·refine⟨?_,?_,?_,?_,?_,?_,?_,trivial⟩;all_goals(intro t wq r hh K B;simp only[iG,Act.put,Nat.reduceAdd,Nat.reduceEqDiff,reduceIte]at hh B⊢;(try simp only[hh]at B⊢);clear hh)
   ·have z:=f.below r H;obtain⟨c0,c1,c2,c3,c4,c5,c6,c7,c8,c9,F,E,D⟩:=jF z;clear z;go_simp;exact B _ _ aV rfl
   ·go_simp;refine(Ej q m k j b4 h v i A n d l s true c a _ (HR.below (g.trans (r.mono (by omega)))) Z I Q P O N L y x hz J a5 ((HT.below (g.trans (r.mono (by omega)))))).mono ?_;rintro e w5 ⟨rfl,T⟩;rw[←a6.out];exact B _ _ T rfl
   ·have a4:=a1 wq;go_simp;exact B _ _ aV rfl
   ·go_simp;exact B _ _ aV rfl
   ·have z:=f.below r H;obtain⟨c0,c1,c2,c3,c4,c5,c6,c7,c8,c9,F,E,D⟩:=jF z;clear z;go_simp;exact B _ _ aV rfl
   ·have a4:=a2 wq;go_simp;exact B _ _ aV rfl
   ·go_simp;exact B _ _ aV rfl
  ·intro t wq r hh;have f6:=aO hh 6 (by decide);simp only[pick]at f6;replace f6:t 6=(.string (ah Y)):=f6;clear hh;simp only[iG,Act.put,Nat.reduceAdd,Nat.reduceEqDiff,reduceIte];simp only[f6];go_wp2;go_ret;refine⟨?_,g.trans (r.mono (by omega))⟩;have e:BX q m k j b4 h v i l s true c a=Y:=by unfold BX;rw[if_pos rfl,a8.out,←a6.out];simp
   exact congrArg (fun X=>Ending.returned (.string (ah X))) e.symm
 |false=>
  clear a1 a2;go_enter func24,ntmps24;go_upto_region 1 with(fail)
  generalize hw1:w.alloc _=w1;have g:Below w.heap.size w w1:=by rw[←hw1];exact(Below.refl _ _).alloc (Nat.le_refl _) _
  have f:Hid (Box w1 w.heap.size #[.string q,.string m,.string k,.string j,.bool b4,.int .i64 h,.bool v,.string i,.slice A n d,.bool s,.bool false,.string c,.string a]):=by
   show _=_;rw[←hw1];exact heap_alloc_new w _
  clear hw1;obtain⟨c0,c1,c2,c3,c4,c5,c6,c7,c8,c9,F,E,D⟩:=jF f;go_wp2_with fail
  refine(Ej q m k j b4 h v i A n d l s false c a _ (HR.below g) Z I Q P O N L y x hz J a5 (HT.below g)).mono ?_;rintro e w5 ⟨rfl,T⟩;go_wp2;go_ret;refine⟨?_,bF g T⟩;have e:BX q m k j b4 h v i l s false c a=vI q m k j b4 h v i l s c:=by unfold BX;rw[if_neg (by decide),List.append_nil]
  exact congrArg (fun X=>Ending.returned (.string (ah X))) e.symm
end Q8
