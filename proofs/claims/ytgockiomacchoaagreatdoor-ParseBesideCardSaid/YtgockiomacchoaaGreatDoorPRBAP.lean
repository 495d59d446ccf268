/- Lemmas. -/
import Derived.IntWalk
import Derived.Test.YtgockiomacchoaaGreatDoorPRBAO
set_option linter.unusedSimpArgs false
set_option linter.unusedVariables false
set_option maxRecDepth 100000
set_option maxHeartbeats 64000000
namespace Go.Proofs.YtgockiomacchoaaGreatDoor
open Tryz
namespace ZY
open Go.RowKit Base dI ng
theorem str_rest (R:List UInt8) (k:Nat) (h:k≤R.length):(ah R).extract k (ah R).size=ah (R.drop k):=by
 have e:=extract_drop (ah R) k (by rw[ak];exact h);have a:(ah R).data.toList=R:=rfl;rw[a]at e;rw[←bF ((ah R).extract k (ah R).size),e]
theorem XL (a b c:UInt8) (t:List UInt8):(a=37∧0≤hex b.toNat∧0≤hex c.toNat→esc (a::b::c::t)=some (UInt8.ofNat (16*hex b.toNat+hex c.toNat).toNat))∧(¬(a=37∧0≤hex b.toNat∧0≤hex c.toNat)→esc (a::b::c::t)=none):=by
 constructor<;>intro h
 ·rw[esc,if_pos h]
 rw[esc,if_neg h]
theorem Rj (c:Int) (w:World):Calls prog 194 #[.int .u8 c] w fun e w'=>e=.returned (.int .i64 (hex c))∧w'=w:=
 (jf.dG c w).mono fun _ _ ⟨he,hw⟩=>⟨he,hw.symm⟩
theorem one_one (a:Int):∀u ∈ [Value.int .u8 a],u.oneCell'=true:=by
 intro u c;simp at c;subst c;rfl
attribute [local go_sem ↓] Go.wp_at_zero Go.wp_at_succ
def lenOf:Value→Nat
 | .string q=>q.size
 |_=>0
theorem Nq (s : ByteArray) (w : World) (hs : s.size ≤ 1073741824) : Calls prog 167 #[.string s] w fun e w' => e = .returned (.string (ah (dec s.data.toList))) ∧ Below w.heap.size w w' := by
 obtain⟨E,hi,n,l,k⟩:=info_parts qU;obtain⟨C,B⟩:∃C,C=s.data.toList:=⟨_,rfl⟩;have P:s=ah C:=by rw[B];exact(bF s).symm
 subst P;rw[ak]at hs;rw[←B];clear B;go_enter func167,ntmps167;go_wp2;go_loopw [0,3] (fun vs v wr=>∃(R X:List UInt8),R.length+X.length≤1073741824∧vs=.string (ah R)∧wr.ownsRow w.heap.size 5 1 v X.length (aQ X)∧Below w.heap.size w wr∧Hid (X++dec R=dec C)) (fun vs _ _=>lenOf vs)
 case atStart=>exact⟨C,[],by simpa using hs,rfl,World.ownsRow_nil _ _ _ _,Below.refl _ _,rfl⟩
 case round=>
  obtain⟨R,X,A,rfl,i,d,D⟩:=hrel;cases R with
  |nil=>
   have HE:Hid (X=dec C):=by
    have e:=D.out;rw[mG,List.append_nil]at e;exact e
   have y:(ah []).size=0:=rfl;rw[HE.out]at i;obtain⟨A',c',rfl,_,_,Q⟩:=aS i;have aU:=bI 50 9 5 underlying50 underlying5 underlying9 _ c' Q;go_wp2;go_ret;exact⟨rfl,d⟩
  | cons a t=>
   have y:(ah (a::t)).size=t.length+1:=by rw[ak,List.length_cons]
   have a2:∀h:0<(ah (a::t)).size,(ah (a::t))[0]'h=a:=fun _=>rfl;have Y:(ah (a::t)).extract 1 (t.length+1)=ah t:=by
    have:=str_rest (a::t) 1 (by simp);rw[y]at this;exact this
   have r:t.length+1+X.length≤1073741824:=by simpa using A
   by_cases h37:a=37
   ·subst h37;have L:(((37:UInt8).toNat:Int)==37)=true:=by decide
    by_cases h3:t.length<2
    ·have z:Hid (dec (37::t)=37::dec t):=kZ _ _ (by
      match t,h3 with
      |[],_=>rfl
      |[_],_=>rfl)
     have G:¬(2:Int)<(t.length:Int)+1:=by omega
     go_wp2_with (at_builtin;refine bJ rfl _ _ 50 rfl w.heap.size 5 E (.int .u8 0) 1 underlying50 hi n l k rfl _ X.length _ rfl i d d.size [.int .u8 37] 1 rfl rfl (by intro u q;simp at q;subst q;rfl) (by unfold maxLen;omega) (by omega) ?_)
     intro J H f g;clear i d;go_wp2;go_roundw
     case rel=>exact⟨t,X++[37],by simp at r⊢;omega,rfl,by rw[eU,List.length_append];exact f,g,by
       rw[List.append_assoc];have:=D.out;rw[z.out]at this;exact this⟩
     case measure=>simp[lenOf,ak]
    obtain⟨b,c,j,rfl⟩:∃b c j,t=b::c::j:=by
     match t,h3 with
     |b::c::j,_=>exact⟨b,c,j,rfl⟩
     |[],h=>simp at h
     |[_],h=>simp at h
    clear h3;have G:(2:Int)<(((b::c::j).length:Nat):Int)+1:=by simp;omega
    have a1:∀h:1<(ah (37::b::c::j)).size,(ah (37::b::c::j))[1]'h=b:=fun _=>rfl;have a0:∀h:2<(ah (37::b::c::j)).size,(ah (37::b::c::j))[2]'h=c:=fun _=>rfl;have W:(ah (37::b::c::j)).extract 3 ((b::c::j).length+1)=ah j:=by
     have:=str_rest (37::b::c::j) 3 (by simp);rw[y]at this;exact this
    obtain⟨Z,a4⟩:=qo b;obtain⟨V,a3⟩:=qo c;obtain⟨HY,HZ⟩:=XL 37 b c j;obtain⟨m,T⟩:∃m,m=(b::c::j).length:=⟨_,rfl⟩;have F:m=j.length+2:=by rw[T];simp
    rw[←T]at y Y W G r;have HM:=hid F;clear T F;by_cases hx:hex b.toNat<0
    ·have z:Hid (dec (37::b::c::j)=37::dec (b::c::j)):=kZ _ _ (HZ (by intro h;omega));go_wp2_with fail
     refine(Rj _ _).mono ?_;rintro e I ⟨rfl,x⟩;subst x;go_wp2_with (at_builtin;refine bJ rfl _ _ 50 rfl w.heap.size 5 E (.int .u8 0) 1 underlying50 hi n l k rfl _ X.length _ rfl i d d.size [.int .u8 37] 1 rfl rfl (by intro u q;simp at q;subst q;rfl) (by unfold maxLen;omega) (by omega) ?_)
     intro J H f g;clear i d;go_wp2;go_roundw
     case rel=>exact⟨b::c::j,X++[37],by simp;have:=HM.out;omega,rfl,by rw[eU,List.length_append];exact f,g,by
       rw[List.append_assoc];have:=D.out;rw[z.out]at this;exact this⟩
     case measure=>simp[lenOf,ak]
    have O:0≤hex b.toNat:=by omega
    clear hx Z;by_cases hy:hex c.toNat<0
    ·have z:Hid (dec (37::b::c::j)=37::dec (b::c::j)):=kZ _ _ (HZ (by intro h;omega));go_wp2_with fail
     refine(Rj _ _).mono ?_;rintro e I ⟨rfl,x⟩;subst x;go_wp2_with fail
     refine(Rj _ _).mono ?_;rintro e I ⟨rfl,x⟩;subst x;go_wp2_with (at_builtin;refine bJ rfl _ _ 50 rfl w.heap.size 5 E (.int .u8 0) 1 underlying50 hi n l k rfl _ X.length _ rfl i d d.size [.int .u8 37] 1 rfl rfl (by intro u q;simp at q;subst q;rfl) (by unfold maxLen;omega) (by omega) ?_)
     intro J H f g;clear i d;go_wp2;go_roundw
     case rel=>exact⟨b::c::j,X++[37],by simp;have:=HM.out;omega,rfl,by rw[eU,List.length_append];exact f,g,by
       rw[List.append_assoc];have:=D.out;rw[z.out]at this;exact this⟩
     case measure=>simp[lenOf,ak]
    have N:0≤hex c.toNat:=by omega
    clear hy V;have z:Hid (dec (37::b::c::j)=UInt8.ofNat (16*hex b.toNat+hex c.toNat).toNat::dec j):=by
     rw[sD _ _ _ (HY ⟨rfl,O,N⟩)];exact rfl
    have HU:Hid (((UInt8.ofNat (16*hex b.toNat+hex c.toNat).toNat).toNat:Int)=16*hex b.toNat+hex c.toNat):=ZR _ (by omega) (by omega);go_wp2_with fail
    refine(Rj _ _).mono ?_;rintro e I ⟨rfl,x⟩;subst x;go_wp2_with fail
    refine(Rj _ _).mono ?_;rintro e I ⟨rfl,x⟩;subst x;have s1:IntKind.i64.wrap (16*hex b.toNat)=16*hex b.toNat:=IntWalk.i64_in _ (by omega);have s2:IntKind.i64.wrap (16*hex b.toNat+hex c.toNat)=16*hex b.toNat+hex c.toNat:=IntWalk.i64_in _ (by omega);have s3:(16*hex b.toNat+hex c.toNat)%256=16*hex b.toNat+hex c.toNat:=by omega
    have s4:IntKind.u8.wrap (16*hex b.toNat+hex c.toNat)=16*hex b.toNat+hex c.toNat:=by rw[IntKind.wrap_u8];omega
    go_wp2;have s5:(1:Int)<(m:Int)+1:=by omega
    go_region_held3 (fun _=>True) (trivial) (first|(go_at_call 194;refine(Rj _ _).mono ?_;rintro e w' ⟨rfl,rfl⟩)|(refine Me (by rfl) _ _ 50 (by rfl) w.heap.size 5 E (.int .u8 0) 1 underlying50 hi n l k (by rfl) _ X.length _ (by rfl) i d d.size [.int .u8 (16*hex b.toNat+hex c.toNat)] 1 (by rfl) (by decide) (by rfl) (one_one _) (by unfold maxLen;omega) (by omega) ⟨⟨rfl,rfl,rfl,Nat.le_refl _,fun _ _=>rfl⟩,fun _=>rfl,by simp⟩ ?_;intro J H f g))
    go_goals
    all_goals
     clear i d s1 s2 s3 s4 s5;go_wp2;go_roundw
     case rel=>exact⟨j,X++[UInt8.ofNat (16*hex b.toNat+hex c.toNat).toNat],by simp;have:=HM.out;omega,rfl,by
       rw[eU,List.length_append];show World.ownsRow _ _ _ _ _ _ (aQ X++[Value.int .u8 ((UInt8.ofNat (16*hex b.toNat+hex c.toNat).toNat).toNat:Int)]);rw[HU.out];exact f,g,by
       rw[List.append_assoc];have:=D.out;rw[z.out]at this;exact this⟩
     case measure=>simp[lenOf,ak];omega
   have z:Hid (dec (a::t)=a::dec t):=kZ _ _ (by
    match t with
    |[]=>rfl
    |[_]=>rfl
    |_::_::_=>rw[esc,if_neg (by intro h;exact h37 h.1)])
   have L:((a.toNat:Int)==37)=false:=by
    simp;intro h;exact h37 (UInt8.toNat_inj.1 (by simp;omega))
   clear h37;go_wp2_with (at_builtin;refine bJ rfl _ _ 50 rfl w.heap.size 5 E (.int .u8 0) 1 underlying50 hi n l k rfl _ X.length _ rfl i d d.size [.int .u8 (a.toNat:Int)] 1 rfl rfl (by intro u q;simp at q;subst q;rfl) (by unfold maxLen;omega) (by omega) ?_)
   intro J H f g;clear i d;go_wp2;go_roundw
   case rel=>exact⟨t,X++[a],by simp at A⊢;omega,rfl,by rw[eU,List.length_append];exact f,g,by
     rw[List.append_assoc];have:=D.out;rw[z.out]at this;exact this⟩
   case measure=>simp[lenOf,ak]
end ZY
namespace FW
open Go.RowKit jX aG ng
theorem uy (k:Int) (c:k≠6) (n:Nat) (h:n<16):iJ k (aG.kU n).toNat=false:=by
 by_cases ho:k<0∨6<k
 ·exact Dy k _ ho
 have H:∀(a:Fin 6) (b:Fin 16),iJ (a.val:Int) ((aG.kU b.val).toNat:Int)=false:=by decide
 have:=H ⟨k.toNat,by omega⟩ ⟨n,h⟩;simpa[Int.toNat_of_nonneg (show 0≤k by omega)]using this
theorem DJ (k:Int) (c:k≠6):iJ k ((37:UInt8).toNat:Int)=false:=by
 by_cases ho:k<0∨6<k
 ·exact Dy k _ ho
 have H:∀(a:Fin 6),iJ (a.val:Int) ((37:UInt8).toNat:Int)=false:=by decide
 have:=H ⟨k.toNat,by omega⟩;simpa[Int.toNat_of_nonneg (show 0≤k by omega)]using this
theorem dX (k:Int) (c:UInt8) (L:List UInt8):enc k (c::L)=one k c++enc k L:=by simp[enc]
theorem pG (k:Int) (L:List UInt8) (h:∀c ∈ L,iJ k c.toNat=false):enc k L=L:=by
 induction L with
 |nil=>rfl
 |cons c L ih=>
  rw[dX,ih (fun d hd=>h d (by simp[hd]))];unfold one;rw[h c (by simp)];rfl
theorem xO (k:Int) (e:k≠6) (c:UInt8):∀d ∈ one k c,iJ k d.toNat=false:=by
 intro d a;have f:=c.toNat_lt;unfold one at a;split at a
 ·simp only[List.mem_cons,List.not_mem_nil,or_false]at a;rcases a with rfl|rfl|rfl
  ·exact DJ k e
  ·exact uy k e _ (by omega)
  exact uy k e _ (by omega)
 rename_i hn;simp only[List.mem_cons,List.not_mem_nil,or_false]at a;subst a;simpa using hn
theorem IG (k:Int) (e:k≠6) (L:List UInt8):enc k (enc k L)=enc k L:=by
 refine pG k _ fun d a=>?_;simp only[enc,List.mem_flatMap]at a;obtain⟨c,_,a⟩:=a;exact xO k e c d a
theorem zH (x:UInt8) (t:List UInt8) (h:x≠37):esc (x::t)=none:=by
 match t with
 |[]=>rfl
 |[_]=>rfl
 |_::_::_=>rw[esc,if_neg (fun e=>h e.1)]
end FW
namespace Dc
open Go.RowKit gB lQ pX Dj QD jw FX
theorem fJ {p:UInt8→Prop} [∀c,Decidable (p c)] (h:∀n:Fin 256,p (UInt8.ofNat n.val)) (c:UInt8):p c:=by
 have:=h ⟨c.toNat,c.toNat_lt⟩;simpa using this
theorem X6 (c:UInt8):low (low c)=low c:=fJ (p:=fun c=>low (low c)=low c) (by decide+kernel) c
theorem CJ (L:List UInt8):lower (lower L)=lower L:=by
 unfold lower;rw[List.map_map];exact List.map_congr_left fun c _=>X6 c
theorem Ro (c:UInt8) (h:ku 16 c=true):33≤c.toNat∧c.toNat≤126:=by
 have:=fJ (p:=fun c=>ku 16 c=true→33≤c.toNat∧c.toNat≤126) (by decide+kernel) c;exact this h
theorem Rl (c:UInt8) (h:ku 10 c=true):okb true c=true∧low c=c∧c≠37:=by
 have:=fJ (p:=fun c=>ku 10 c=true→okb true c=true∧low c=c∧c≠37) (by decide+kernel) c;exact this h
theorem kD (c:UInt8) (h:okb true c=true):33≤c.toNat∧c.toNat≤126∧zh true c=false∧c≠91∧c≠37:=by
 have:=fJ (p:=fun c=>okb true c=true→33≤c.toNat∧c.toNat≤126∧zh true c=false∧c≠91∧c≠37) (by decide+kernel) c;exact this h
theorem Bo {x:UInt8}:∀(ws:List (List UInt8)),x ∈ iU ws→x=58∨∃v ∈ ws,x ∈ v
 |[],h=>by simp[iU]at h
 |[v],h=>.inr ⟨v,by simp,h⟩
 | v :: u :: r, h => by
  have a:x ∈ v++58::iU (u::r):=h
  rcases List.mem_append.1 a with h1|h1
  ·exact .inr ⟨v,by simp,h1⟩
  ·rcases List.mem_cons.1 h1 with h2|h2
   ·exact .inl h2
   ·rcases Bo (u::r) h2 with h3|⟨t,ht,hx⟩
    ·exact .inl h3
    ·exact .inr ⟨t,by simp at ht⊢;exact .inr ht,hx⟩
theorem NP {x:UInt8} {L:List Nat} (c:∀n ∈ L,n<65536) (h:x ∈ jx L):33≤x.toNat∧x.toNat≤126:=by
 unfold jx at h;rcases Bo _ h with rfl|⟨v,hv,hx⟩
 ·decide
 obtain⟨n,a,rfl⟩:=List.mem_map.1 hv;exact Ro x (List.all_eq_true.1 (zS n n (Nat.le_refl _) (c n a)).1 x hx)
theorem Yx {x:UInt8} {f:Nat→Nat} (c:∀i,f i<65536) (h:x ∈ jD.prt f):33≤x.toNat∧x.toNat≤126:=by
 have a:=jD.DZ c;unfold jD.prt at h;split at h
 ·exact NP a h
 simp only[List.mem_append,List.mem_cons,List.not_mem_nil,or_false]at h;rcases h with(h|rfl|rfl)|h
 ·exact NP (fun n hn=>a n (List.mem_of_mem_take hn)) h
 ·decide
 ·decide
 exact NP (fun n hn=>a n (List.mem_of_mem_drop hn)) h
theorem GK:∀(L:List UInt8),(∀c ∈ L,c≠37)→ng.dec L=L
 |[],_=>rfl
 |c::L,h=>by
  rw[ng.kZ c L (FW.zH c L (h c (by simp))),GK L fun d hd=>h d (by simp[hd])]
theorem xM {d:Bool} {L:List UInt8} (h:oks d L=true) {c:UInt8} (a:c ∈ L):okb d c=true:=List.all_eq_true.1 h c a
theorem Vo {d:Bool} {L:List UInt8} (h:∀c ∈ L,okb d c=true):oks d L=true:=List.all_eq_true.2 h
theorem Vm {L:List UInt8} (h:oks true L=true):L.head?≠some 91:=by
 intro e;cases L with
 |nil=>cases e
 |cons c r=>
  simp at e;exact(kD c (xM h (by simp))).2.2.2.1 e
theorem VL {c:UInt8} (n:Nat) (h:c ∈ yI.pr n):okb true c=true∧low c=c∧c≠37:=by
 have a:∀m:Nat,c ∈ Lib.decDigits m→okb true c=true∧low c=c∧c≠37:=fun m hm=>
  Rl c (List.all_eq_true.1 (QB.Dv (m+1) m (by omega)).2 c hm)
 rw[QB.Qg]at h;simp only[List.mem_append,List.mem_cons]at h;rcases h with h|rfl|h|rfl|h|rfl|h
 ·exact a _ h
 ·decide
 ·exact a _ h
 ·decide
 ·exact a _ h
 ·decide
 exact a _ h
theorem ZF (n:Nat):yI.pr n≠[]:=by
 obtain⟨c,r,h,_⟩:=QB.Yr n;rw[h];simp
theorem UN {M:List UInt8} (a:oks true M=true) (d:lower M=M):aU M true=IE M:=by
 unfold aU;rw[if_neg (Vm a),if_pos rfl,GK M fun c hc=>(kD c (xM a hc)).2.2.2.2];unfold Nr;rw[if_pos a,d]
def Good (sp:Bool) (R:List UInt8):Prop:=aU R sp=some R∧(∀c ∈ R,33≤c.toNat∧c.toNat≤126)∧(R.head?≠some 91→∀c ∈ R,zh sp c=false)
theorem Pz {R:List UInt8} (a:oks true R=true) (d:lower R=R) (e:IE R=some R):Good true R:=
 ⟨by rw[UN a d,e],fun c hc=>⟨(kD c (xM a hc)).1,(kD c (xM a hc)).2.1⟩,fun _ c hc=>(kD c (xM a hc)).2.2.1⟩
theorem Uz {L:List UInt8} (a:oks false L=true) {c:UInt8} (h:c ∈ aG.enc 0 L):Rf c=false∧33≤c.toNat∧c.toNat≤126:=by
 unfold aG.enc at h;obtain⟨x,hx,d⟩:=List.mem_flatMap.1 h;have e:=xM a hx;have H:=fJ (p:=fun x=>okb false x=true→∀c ∈ aG.one 0 x,Rf c=false∧33≤c.toNat∧c.toNat≤126) (by decide+kernel) x;exact H e c d
theorem KJ {s:List UInt8} {sp:Bool} {R:List UInt8} (h:aU s sp=some R):Good sp R:=by
 unfold aU at h;split at h
 ·unfold hbr at h;split at h
  ·unfold addr at h;split at h
   ·cases h
   rename_i V hv;injection h with h
   obtain⟨f,rfl,m⟩:=DL hv;rw[Ag]at h;subst h;refine⟨?_,?_,?_⟩
   ·unfold aU;rw[if_pos (show(91::(jD.prt f++[93])).head?=some 91 from rfl)];show hbr (jD.prt f++[93])=_;have l:Lib.hasSuffix (jD.prt f++[93]) [93]=true:=by
     unfold Lib.hasSuffix;rw[List.isSuffixOf_iff_suffix];exact⟨_,rfl⟩
    have q:Lib.trimSuffix (jD.prt f++[93]) [93]=jD.prt f:=by
     unfold Lib.trimSuffix;rw[if_pos l];simp
    unfold hbr;rw[if_pos l,q];unfold addr;rw[YP f m];show some (91::(VN (V8 f)++[93]))=_;rw[Ag]
   ·intro c d;simp only[List.mem_cons,List.mem_append,List.not_mem_nil,or_false]at d;rcases d with rfl|d|rfl
    ·decide
    ·exact Yx m d
    decide
   intro k;exact absurd rfl k
  cases h
 split at h
 ·rename_i hsp;subst hsp;unfold Nr at h;split at h
  ·rename_i ho;have j:oks true (lower (ng.dec s))=true:=by rw[Hu];exact ho
   unfold IE at h;split at h
   ·cases h
   rename_i hne;split at h
   ·rename_i he;cases hp:Dl (lower (ng.dec s))with
    |none=>rw[hp]at h;cases h
    |some n=>
     rw[hp]at h;injection h with h
     subst h;have k:=EX hp;refine Pz (Vo fun c d=>(VL n d).1) ?_ ?_
     ·unfold lower
      conv=>rhs;rw[←List.map_id (yI.pr n)]
      exact List.map_congr_left fun c d=>(VL n d).2.1
     unfold IE;rw[if_neg (ZF n),if_pos (QB.XJ n),QB.aaZ n k];rfl
   rename_i he;injection h with h
   subst h;refine Pz j (CJ _) ?_;unfold IE;rw[if_neg hne,if_neg he]
  cases h
 rename_i hsp;have g:sp=false:=by simpa using hsp
 subst g;unfold RJ at h;split at h
 ·rename_i ho;injection h with h
  subst h;have i:=fun c d=>Uz ho (c:=c) d;refine⟨?_,fun c d=>(i c d).2,fun _ c d=>by rw[GZ];exact(i c d).1⟩;unfold aU;rw[if_neg,if_neg (by simp)]
  ·unfold RJ;rw[if_pos (Vo fun c d=>by rw[RF,(i c d).1];rfl),FW.IG 0 (by decide)]
  intro e;cases hE:aG.enc 0 s with
  |nil=>rw[hE]at e;cases e
  |cons a r=>
   rw[hE]at e;simp at e;subst e;have:=(i 91 (by rw[hE];simp)).1;revert this;decide
 cases h
theorem KL {s:List UInt8} {sp:Bool} {R:List UInt8} (h:aU s sp=some R):R.length≤3*s.length+200:=by
 unfold aU at h;split at h
 ·unfold hbr at h;split at h
  ·unfold addr at h;split at h
   ·cases h
   injection h with h
   subst h;simp only[List.length_cons,List.length_append,List.length_nil];unfold VN;rename_i V _;have:=Ja (fun i=>V.getD i 0);omega
  cases h
 split at h
 ·unfold Nr at h;split at h
  ·unfold IE at h;split at h
   ·cases h
   split at h
   ·cases hp:Dl (lower (ng.dec s))with
    |none=>rw[hp]at h;cases h
    |some n=>
     rw[hp]at h;injection h with h
     subst h;have:=yI.aaY n (EX hp);omega
   injection h with h
   subst h;have:=ng.pF s;simp[lower];omega
  cases h
 unfold RJ at h;split at h
 ·injection h with h
  subst h;have:=aG.fK 0 s;omega
 cases h
end Dc
namespace Xj
open Go.RowKit rY uh aJ
def ED (L:List UInt8):List UInt8:=enc (dec L)
theorem qg (L:List UInt8):clean L=(tX (ED L)).filter fun c=> !brk c:=rfl
theorem Iz (t:UInt8) (h:brk t=true):cu t=true∧t.toNat≤127:=by
 unfold brk at h;simp only[Bool.or_eq_true,decide_eq_true_eq]at h;rcases h with rfl|rfl|rfl<;>decide
theorem PU (c:UInt8) (h:cu c=false):brk c=false:=by
 cases hb:brk c
 ·rfl
 rw[(Iz c hb).1]at h;cases h
end Xj
namespace o8
open Go.RowKit Base gB iI mD JQ jR iH gK jw aJ QA
def pl (l:List ByteArray):Nat:=(dL.aF l).length
structure Fit (u:U) (N:Nat):Prop where
 all:u.au.length+u.bY.length+u.bZ.length+u.aU.length+u.txt.length+u.bT.length+u.eY.length+pl u.aF≤N
 lo: -1≤u.port
 hi:u.port≤65535
theorem Fit.mono {u:U} {N M:Nat} (h:Fit u N) (a:N≤M):Fit u M:=⟨Nat.le_trans h.all a,h.lo,h.hi⟩
theorem EW:pl []=0:=rfl
theorem I8 (l:List ByteArray) (s:ByteArray):pl (l++[s])=pl l+1+s.size:=by
 unfold pl;rw[dL.Lr,List.length_append,List.length_cons,show s.data.toList.length=s.size from Array.length_toList];omega
theorem Qe (l:List ByteArray) (k:Nat):pl (l.take k)≤pl l:=by
 unfold pl;rw[dL.nH,dL.nH,List.length_take];have:=dL.MC l k;omega
theorem Ol (f:Bool) (l:List ByteArray):pl (iW f l)≤pl l:=by
 unfold iW;split
 ·exact Nat.le_refl _
 exact Qe _ _
theorem abC (f:Bool) (L:List UInt8):(wr f L).length≤3*L.length+1:=by
 unfold wr;split
 ·simp only[List.length_append,List.length_take,List.length_cons,List.length_nil];omega
 have:=aG.fK 4 L;omega
theorem VG (f a:Bool) (l:List ByteArray) (L:List UInt8):pl (rW f a l L)≤pl l+3*L.length+2:=by
 have c:(ah ([]:List UInt8)).size=0:=rfl;have d:=Ol f l;unfold rW;split
 ·split
  ·rw[I8,c];omega
  omega
 split
 ·split
  ·rw[I8,c];omega
  omega
 have:=abC (f&&l.isEmpty) L;rw[I8,ak];omega
theorem VH (f sp:Bool):∀(M:List UInt8) (l:List ByteArray) (b:List UInt8),pl (wb f sp l b M)≤pl l+3*(b.length+M.length)+2*(M.length+1)
 |[],l,b=>by
  have:=VG f true l b
  unfold wb
  simp only[List.length_nil]
  omega
 |c::M,l,b=>by
  unfold wb
  split
  ·have a:=VH f sp M (rW f false l b) []
   have d:=VG f false l b
   simp only[List.length_nil,List.length_cons]at a⊢
   omega
  ·have a:=VH f sp M l (b++[c])
   simp only[List.length_append,List.length_nil,List.length_cons]at a⊢
   omega
theorem xP (au:List UInt8) (l:List ByteArray) (s:List UInt8):pl (walk au l s)≤pl l+5*s.length+2:=by
 have:=VH (decide (au=ay)) (aj au) s l [];unfold walk;simp only[List.length_nil]at this;omega
theorem sV (au s:List UInt8):pl (aB au s)≤5*s.length+2:=by
 unfold aB;split
 ·rw[EW];omega
 have h:=xP au [] (if iK (aj au) s 0=true then s.drop 1 else s);have a:(if iK (aj au) s 0=true then s.drop 1 else s).length≤s.length:=by
  split
  ·rw[List.length_drop];omega
  exact Nat.le_refl _
 rw[EW]at h;omega
theorem Xz (b:UInt8):∀L:List UInt8,(aW b L).1.length≤L.length∧(aW b L).2.1.length≤L.length
 |[]=>by simp[aW]
 |c::L=>by
  have h:=Xz b L
  unfold aW
  split
  ·simp
  ·simp only[List.length_cons]
   omega
theorem zA (b:UInt8):∀L:List UInt8,(aW b L).1.length+(aW b L).2.1.length≤L.length
 |[]=>by simp[aW]
 |c::L=>by
  have h:=zA b L
  unfold aW
  split
  ·simp
  ·simp only[List.length_cons]
   omega
theorem EI:∀(L:List UInt8) (p:List UInt8×List UInt8),fP L=some p→p.1.length+p.2.length+1≤L.length
 |[],p,h=>by cases h
 | c :: L, p, h => by
  unfold fP at h
  split at h
  ·rename_i q hq
   have:=EI L q hq
   cases h
   simp only[List.length_cons]
   omega
  ·split at h
   ·cases h
    simp
   ·cases h
theorem Uk (s:List UInt8):(iR s).1.length+(iR s).2.1.length+3*(iR s).2.2.1.length≤3*s.length:=by
 unfold iR;split
 ·simp
 rename_i p hp;have e:=EI s p hp;have d:=zA 58 p.1;have c:=aG.fK 5 (aW 58 p.1).1;have a:=aG.fK 5 (aW 58 p.1).2.1;simp only;omega
theorem Yw {au d:List UInt8} {z:Int} (h:prt au d=some z): -1≤z∧z≤65535:=by
 unfold prt at h;split at h
 ·cases h;omega
 split at h
 ·split at h
  ·cases h;omega
  split at h
  ·cases h;omega
  cases h
 cases h
theorem nS {au s:List UInt8} {u:U} {N:Nat} (h:authority au s=some u) (f:au.length+5*s.length+300≤N):Fit u N:=by
 unfold authority at h;obtain⟨_,h⟩:=jB h;obtain⟨_,h⟩:=jB h;have c:(s.take (upto (aj au) s)).length+(s.drop (upto (aj au) s)).length=s.length:=by rw[List.length_take,List.length_drop];omega
 have e:=Uk (s.take (upto (aj au) s));have hh:=qM.xH (iR (s.take (upto (aj au) s))).2.2.1 false;have d:=sV au (s.drop (upto (aj au) s));split at h
 ·rename_i H p e1 e2;have g:=Dc.KL e1;have a:=Yw e2;cases h;refine⟨?_,a.1,a.2⟩;simp only[U0,List.length_nil];omega
 cases h
theorem NI {b:U} {N M:Nat} (a:Fit b M) (l:List ByteArray) (c:M+pl l≤N):Fit {aN b with aF:=l} N:=by
 have:=a.all;refine⟨?_,a.lo,a.hi⟩;simp only[aN,U0,List.length_nil];omega
theorem wF {b:U} {N M:Nat} (a:Fit b M) (l:List ByteArray) (c:M+(pl l - pl b.aF)≤N):Fit {aN b with aF:=l} N:=by
 have:=a.all;refine⟨?_,a.lo,a.hi⟩;simp only[aN,U0,List.length_nil];omega
theorem Gs {b:U} {M:Nat} (a:Fit b M):Fit (along (aN b) b) M:=by
 have:=a.all;refine⟨?_,a.lo,a.hi⟩;simp only[along,aN,U0,List.length_nil];omega
theorem Am {r:List UInt8} {b u:U} {N M:Nat} (h:dS r b=some u) (a:Fit b M) (e:M+5*r.length+300≤N):Fit u N:=by
 have d:=List.length_drop (i:=2) (l:=r);have c:=(List.dropWhile_sublist (bW true) (l:=r.drop 2)).length_le;unfold dS at h;split at h
 ·refine nS h ?_;have:=a.all;split<;>omega
 injection h with h
 subst h;split
 ·have:=sV b.au r;exact NI a _ (by omega)
 split
 ·exact(Gs a).mono (by omega)
 have g:=xP b.au (iW false b.aF) r;have f:=Ol false b.aF;exact wF a _ (by omega)
theorem FH (l:List ByteArray) {N:Nat} (H:List UInt8) (a:4+pl l+H.length≤N):Fit {uF with aU:=H,aF:=l} N:=by
 refine⟨?_,?_,?_⟩<;>simp[uF,U0,ay];omega
theorem XM {s:List UInt8} {u:U} {N:Nat} (h:far s=some u) (a:5*s.length+300≤N):Fit u N:=by
 have g:=sV ay s;have f:=sV ay (s.drop (upto true s));have d:(s.take (upto true s)).length+(s.drop (upto true s)).length=s.length:=by rw[List.length_take,List.length_drop];omega
 unfold far at h;split at h
 ·cases h;exact FH _ [] (by simp only[List.length_nil];omega)
 split at h
 ·cases h;exact FH _ [] (by simp only[List.length_nil];omega)
 split at h
 ·cases h
 rename_i H e;have c:=Dc.KL e;cases h;refine FH _ _ ?_;split
 ·simp only[List.length_nil];omega
 omega
theorem KD {r:List UInt8} {base:Option U} {u:U} {N M:Nat} (h:file r base=some u) (a:∀b,base=some b→Fit b M) (j:M+5*r.length+300≤N):Fit u N:=by
 unfold file at h;split at h
 ·refine XM h ?_;rw[List.length_drop];omega
 split at h
 ·injection h with h
  subst h;have c:∀(q:Prop) [Decidable q] (x:List ByteArray),pl (if q then x.take 1 else[])≤pl x:=by
   intro q _ x;split
   ·exact Qe _ _
   rw[EW];omega
  have g:=List.length_drop (i:=1) (l:=r);cases base with
  |none=>
   have d:=xP ay (if wJ ((Option.elim none [] U.aF).head?.elim [] fun x=>x.data.toList)=true∧pz (r.drop 1)=false then(Option.elim none [] U.aF).take 1 else[]) (r.drop 1);have f:=c (wJ ((Option.elim none [] U.aF).head?.elim [] fun x=>x.data.toList)=true∧pz (r.drop 1)=false) (Option.elim none [] U.aF);have e:pl (Option.elim none [] U.aF)=0:=rfl;exact FH _ [] (by simp only[List.length_nil];omega)
  |some b=>
   have a:=a b rfl;have d:=xP ay (if wJ ((Option.elim (some b) [] U.aF).head?.elim [] fun x=>x.data.toList)=true∧pz (r.drop 1)=false then(Option.elim (some b) [] U.aF).take 1 else[]) (r.drop 1);have f:=c (wJ ((Option.elim (some b) [] U.aF).head?.elim [] fun x=>x.data.toList)=true∧pz (r.drop 1)=false) (Option.elim (some b) [] U.aF);have e:pl (Option.elim (some b) [] U.aF)=pl b.aF:=rfl;exact wF a _ (by omega)
 split at h
 ·injection h with h
  subst h;have c:pl (if pz r=true then[]else iW true [])=0:=by split<;>rfl
  have d:=xP ay (if pz r=true then[]else iW true []) r;exact FH _ [] (by simp only[List.length_nil];omega)
 rename_i b;have a:=a b rfl;split at h
 ·injection h with h
  subst h;exact(Gs a).mono (by omega)
 injection h with h
 subst h;have c:pl (if pz r=true then[]else iW true b.aF)≤pl b.aF:=by
  split
  ·rw[EW];omega
  exact Ol _ _
 have d:=xP ay (if pz r=true then[]else iW true b.aF) r;exact wF a _ (by omega)
theorem Yo (m:Bool) (s:List UInt8):(aJ.dK m s).length≤3*s.length+3:=by
 have h:=aG.fK 0 s;unfold aJ.dK Lib.trimSuffix;split
 ·rw[List.length_append];split
  ·rw[List.length_take];simp only[List.length_cons,List.length_nil];omega
  simp only[List.length_cons,List.length_nil];omega
 omega
theorem RI {p:Parts} {u:U} {N:Nat} (h:aJ.plain p=some u) (d:p.au.length+5*p.rest.length+300≤N):Fit u N:=by
 have c:=List.length_drop (i:=2) (l:=p.rest);unfold aJ.plain at h;split at h
 ·exact nS h (by omega)
 split at h
 ·injection h with h
  subst h;have a:=sV p.au p.rest;refine⟨?_,?_,?_⟩<;>simp[U0];omega
 injection h with h
 subst h;have a:=Yo (p.hq||p.hf) p.rest;refine⟨?_,?_,?_⟩<;>simp[U0,EW];omega
theorem LH {p:Parts} {base:Option U} {u:U} {N M:Nat} (h:aJ.resolve p base=some u) (d:∀b,base=some b→Fit b M) (g:M+p.au.length+5*p.rest.length+300≤N):Fit u N:=by
 have f:=(List.dropWhile_sublist (bW true) (l:=p.rest)).length_le;unfold aJ.resolve at h;split at h
 ·refine KD h (fun b e=>d b ?_) (by omega);cases base with
  |none=>cases e
  |some c=>
   simp only[Option.filter]at e;split at e
   ·exact e
   cases e
 split at h
 ·split at h
  ·split at h
   ·exact Am h (d _ rfl) (by omega)
   exact nS h (by omega)
  exact nS h (by omega)
 split at h
 ·exact RI h (by omega)
 split at h
 ·cases h
 rename_i b;have a:=d b rfl;split at h
 ·unfold jk at h;obtain⟨_,h⟩:=jB h;injection h with h
  subst h;exact a.mono (by omega)
 split at h
 ·exact KD h (fun c e=>by injection e with e;subst e;exact a) (by omega)
 exact Am h a (by omega)
theorem Nz {u:U} {p:Parts} {N M:Nat} (h:Fit u M) (d:M+3*p.bT.length+3*p.eY.length≤N):Fit (finish u p) N:=by
 have f:=aG.fK (if aj u.au=true then 3 else 2) p.bT;have e:=aG.fK 1 p.eY;obtain⟨a,b,c⟩:=h;unfold finish;cases p.hq<;>cases p.hf<;>refine⟨?_,?_,?_⟩<;>simp only[if_true,if_false,Bool.false_eq_true]<;>first|assumption|omega
theorem QI (C:List UInt8):(aJ.apart C).au.length+(aJ.apart C).rest.length+(aJ.apart C).bT.length+(aJ.apart C).eY.length≤C.length:=by
 have d:=zA 35 C;have c:=zA 63 (aW 35 C).1;have a:=zA 58 (aW 63 (aW 35 C).1).1;unfold aJ.apart;simp only;split
 ·simp only[lower,List.length_map];omega
 simp only[List.length_nil];omega
theorem JC {s:List UInt8} {base:Option U} {u:U} {M:Nat} (h:aJ.url s base=some u) (c:∀b,base=some b→Fit b M):Fit u (M+15*s.length+300):=by
 have e:=MN.su s;have d:=QI (clean s);unfold aJ.url at h;obtain⟨v,a,rfl⟩:=Option.map_eq_some_iff.1 h;exact Nz (LH (N:=M+(aJ.apart (clean s)).au.length+5*(aJ.apart (clean s)).rest.length+300) a c (Nat.le_refl _)) (by omega)
end o8
namespace aad
open Go.RowKit aJ
theorem zy (b:UInt8):∀L:List UInt8,(∀c ∈ (aW b L).1,c ∈ L)∧∀c ∈ (aW b L).2.1,c ∈ L
 |[]=>by simp[aW]
 | x :: L => by
  have a:=zy b L
  unfold aW
  split
  ·exact⟨fun c hc=>by simp at hc,fun c hc=>by simp only at hc;simp[hc]⟩
  ·refine⟨fun c hc=>?_,fun c hc=>?_⟩
   ·simp only[List.mem_cons]at hc⊢
    rcases hc with h|h
    ·exact .inl h
    ·exact .inr (a.1 c h)
   ·simp only at hc
    simp[a.2 c hc]
end aad
namespace TF
open Go.RowKit Base dI gB iI oQ mD JQ jR iH jX aG
theorem Js (file e:Bool) (l:List ByteArray) (b:List UInt8) (h:qh b=true):rW file e l b=if e then iW file l++[ah []]else iW file l:=by unfold rW;rw[if_pos h]
theorem DR (file e:Bool) (l:List ByteArray) (b:List UInt8) (h:qh b=false) (a:rD b=true):rW file e l b=if e then l++[ah []]else l:=by unfold rW;rw[h,if_neg (by decide),if_pos a]
theorem Az (file e:Bool) (l:List ByteArray) (b:List UInt8) (h:qh b=false) (a:rD b=false):rW file e l b=l++[ah (wr (file&&l.isEmpty) b)]:=by unfold rW;rw[h,if_neg (by decide),a,if_neg (by decide)]
theorem uy (n:Nat) (h:n<16):iJ 4 (aG.kU n).toNat=false∧∀sp,bW sp (aG.kU n)=false:=by
 have H:∀(b:Fin 16),iJ 4 ((aG.kU b.val).toNat:Int)=false∧∀sp,bW sp (aG.kU b.val)=false:=by decide+kernel
 exact H ⟨n,h⟩
theorem DJ:iJ 4 ((37:UInt8).toNat:Int)=false∧∀sp,bW sp 37=false:=by decide+kernel
theorem dX (k:Int) (c:UInt8) (L:List UInt8):enc k (c::L)=one k c++enc k L:=by simp[enc]
theorem pG (k:Int) (L:List UInt8) (h:∀c ∈ L,iJ k c.toNat=false):enc k L=L:=by
 induction L with
 |nil=>rfl
 |cons c L ih=>
  rw[dX,ih (fun d hd=>h d (by simp[hd]))];unfold one;rw[h c (by simp)];rfl
theorem xO (sp:Bool) (c:UInt8) (e:bW sp c=false):∀d ∈ one 4 c,iJ 4 d.toNat=false∧bW sp d=false:=by
 intro d a;have f:=c.toNat_lt;unfold one at a;split at a
 ·simp only[List.mem_cons,List.not_mem_nil,or_false]at a;rcases a with rfl|rfl|rfl
  ·exact⟨DJ.1,DJ.2 sp⟩
  ·exact⟨(uy _ (by omega)).1,(uy _ (by omega)).2 sp⟩
  exact⟨(uy _ (by omega)).1,(uy _ (by omega)).2 sp⟩
 rename_i hn;simp only[List.mem_cons,List.not_mem_nil,or_false]at a;subst a;exact⟨by simpa using hn,e⟩
theorem II (sp:Bool) (L:List UInt8) (h:∀c ∈ L,bW sp c=false):∀d ∈ enc 4 L,iJ 4 d.toNat=false∧bW sp d=false:=by
 intro d a;simp only[enc,List.mem_flatMap]at a;obtain⟨c,e,a⟩:=a;exact xO sp c (h c e) d a
theorem IG (sp:Bool) (L:List UInt8) (h:∀c ∈ L,bW sp c=false):enc 4 (enc 4 L)=enc 4 L:=pG 4 _ fun d hd=>(II sp L h d hd).1
def okp:List UInt8→Bool
 |[]=>true
 |c::r=>(decide (c≠37)||(match r with|a::b::_=>decide (a=50)&&decide (b=101)|_=>false))&&okp r
theorem Yi (c:UInt8) (h:iJ 4 c.toNat=true):¬(low (aG.kU (c.toNat / 16))=50∧low (aG.kU (c.toNat%16))=101):=by
 have H:∀n:Fin 256,iJ 4 (n.val:Int)=true→¬(low (aG.kU (n.val / 16))=50∧low (aG.kU (n.val%16))=101):=by decide+kernel
 exact H ⟨c.toNat,c.toNat_lt⟩ h
theorem uz:∀(p L:List UInt8),okp p=true→lower (enc 4 L)=p→lower L=p
 |p,[],_,h=>h
 | p,c::L,hp,h=>by
  rw[dX]at h
  unfold one at h
  cases hc:iJ 4 (c.toNat:Int)with
  |true=>
   rw[hc,if_pos rfl,List.cons_append,List.cons_append,List.cons_append,iL,iL,iL]at h
   subst h
   have e:low 37=37:=by decide+kernel
   simp only[okp,e,Bool.and_eq_true,Bool.or_eq_true,decide_eq_true_eq]at hp
   rcases hp.1 with h1|h1
   ·exact absurd rfl h1
   ·exact absurd h1 (Yi c hc)
  |false=>
   rw[hc,if_neg (by decide),List.cons_append,List.nil_append,iL]at h
   match p,hp,h with
   |d::r,hp,h=>
    injection h with h1 h2
    simp only[okp,Bool.and_eq_true]at hp
    rw[iL,h1,uz r L hp.2 h2]
theorem XI (L:List UInt8) (h:rD L=false):rD (enc 4 L)=false:=by
 cases e:rD (enc 4 L)with
 |false=>rfl
 |true=>
  unfold rD at h e;simp only[Bool.or_eq_true,decide_eq_true_eq,Bool.or_eq_false_iff,decide_eq_false_iff_not]at h e;rcases e with e|e
  ·exact absurd ((pR L).1 (uz [46] L (by decide) ((pR _).2 e))) h.1
  exact absurd (uz _ L (by decide) e) h.2
theorem XF (L:List UInt8) (h:qh L=false):qh (enc 4 L)=false:=by
 cases e:qh (enc 4 L)with
 |false=>rfl
 |true=>
  unfold qh at h e;simp only[Bool.or_eq_true,decide_eq_true_eq,Bool.or_eq_false_iff,decide_eq_false_iff_not]at h e;rcases e with((e|e)|e)|e
  ·exact absurd (uz _ L (by decide) e) h.1.1.1
  ·exact absurd (uz _ L (by decide) e) h.1.1.2
  ·exact absurd (uz _ L (by decide) e) h.1.2
  exact absurd (uz _ L (by decide) e) h.2
theorem GV:∀L:List UInt8,(enc 4 L).length≤2→enc 4 L=L
 |[],_=>rfl
 |c::L,h=>by
  rw[dX]at h⊢
  unfold one at h⊢
  cases hc:iJ 4 (c.toNat:Int)with
  |true=>rw[hc,if_pos rfl]at h;simp at h
  |false=>
   rw[hc,if_neg (by decide)]at h
   rw[if_neg (by decide),GV L (by simp at h;omega)]
   rfl
theorem XG (L:List UInt8) (h:lq L=false):lq (enc 4 L)=false:=by
 cases e:lq (enc 4 L)with
 |false=>rfl
 |true=>
  have:=GV L (by rw[zG _ e];omega);rw[this,h]at e;cases e
structure At (f sp:Bool) (x:List UInt8):Prop where
 stops:∀c ∈ x,bW sp c=false
 qh:iI.qh x=false
 rD:iI.rD x=false
 same:wr f x=x
theorem at_nil (f sp:Bool):At f sp []:=⟨fun _ h=>by(cases h),rfl,rfl,by cases f<;>rfl⟩
theorem Zo (f sp:Bool) (b:List UInt8) (d:∀c ∈ b,bW sp c=false) (i:qh b=false) (h:rD b=false):At f sp (wr f b)∧(wr f b).length≤3*b.length+2:=by
 cases hf:(f&&lq b)with
 | true=>
  have e:wr f b=b.take 1++[58]:=by unfold wr;rw[hf,if_pos rfl]
  rw[Bool.and_eq_true]at hf;obtain⟨rfl,a⟩:=hf;rw[e]
  match b,a,d with
  |[x,y],a,d=>
   have hx:letter (x.toNat:Int)=true:=by
    simp only[lq,Bool.and_eq_true]at a;exact a.1
   refine⟨⟨fun c hc=>?_,?_,?_,?_⟩,by simp⟩
   ·simp only[List.take_succ_cons,List.take_zero,List.cons_append,List.nil_append,List.mem_cons,List.not_mem_nil,or_false]at hc;rcases hc with rfl|rfl
    ·exact d _ (by simp)
    cases sp<;>rfl
   ·simp[qh,iL,show lower ([]:List UInt8)=[]from rfl];intro _;decide+kernel
   ·simp[rD,iL,show lower ([]:List UInt8)=[]from rfl]
   show wr true [x,58]=[x,58];have g:(true&&lq [x,58])=true:=by
    show(true&&(letter (x.toNat:Int)&&(decide ((58:UInt8)=58)||decide ((58:UInt8)=124))))=true;rw[hx];rfl
   unfold wr;rw[g];rfl
 |false=>
  have e:wr f b=enc 4 b:=by unfold wr;rw[hf,if_neg (by decide)]
  rw[e];refine⟨⟨fun c hc=>(II sp b d c hc).2,XF b i,XI b h,?_⟩,by have:=fK 4 b;omega⟩;have a:(f&&lq (enc 4 b))=false:=by
   cases f with
   |false=>rfl
   |true=>rw[Bool.true_and]at hf⊢;exact XG b hf
  unfold wr;rw[a,if_neg (by decide),IG sp b d]
def All (G:Nat→List UInt8→Prop) (l:List ByteArray):Prop:=∀i (h:i<l.length),G i (l[i]).data.toList
theorem D5 {G:Nat→List UInt8→Prop} {l:List ByteArray} (h:All G l) (x:List UInt8) (hx:G l.length x):All G (l++[ah x]):=fun i hi=>by
 rw[List.getElem_append];split
 ·exact h i _
 have:i=l.length:=by simp at hi;omega
 subst this;simpa[ah]using hx
theorem JY {G:Nat→List UInt8→Prop} {l:List ByteArray} (h:All G l) (n:Nat):All G (l.take n):=fun i hi=>by
 rw[List.getElem_take];exact h i _
theorem Qs (file sp e:Bool) (N:Nat) (G:Nat→List UInt8→Prop) (d:∀i,G i []) (f:∀i b,(∀c ∈ b,bW sp c=false)→b.length≤N→qh b=false→rD b=false→G i (wr (file&&decide (i=0)) b))
  (l:List ByteArray) (b:List UInt8) (h:All G l) (j:∀c ∈ b,bW sp c=false) (g:b.length≤N):All G (rW file e l b):=by
 have a:All G (iW file l):=by
  unfold iW;split
  ·exact h
  ·exact JY h _
 cases hd:qh b with
 |true=>
  rw[Js _ _ _ _ hd];split
  ·exact D5 a [] (d _)
  ·exact a
 |false=>
  cases hg:rD b with
  |true=>
   rw[DR _ _ _ _ hd hg];split
   ·exact D5 h [] (d _)
   ·exact h
  |false=>
   rw[Az _ _ _ _ hd hg];refine D5 h _ ?_;have:=f l.length b j g hd hg;have e:decide (l.length=0)=l.isEmpty:=by cases l<;>simp
   rw[e]at this;exact this
theorem FN (file sp:Bool) (N:Nat) (G:Nat→List UInt8→Prop) (a:∀i,G i []) (e:∀i b,(∀c ∈ b,bW sp c=false)→b.length≤N→qh b=false→rD b=false→G i (wr (file&&decide (i=0)) b)):
  ∀(M:List UInt8) (l:List ByteArray) (b:List UInt8),All G l→(∀c ∈ b,bW sp c=false)→b.length+M.length≤N→All G (wb file sp l b M)
 |[],l,b,h,h1,h2=>Qs file sp true N G a e l b h h1 (by simpa using h2)
 | c :: M, l, b, h, h1, h2 => by
  simp only[List.length_cons]at h2
  cases hc:bW sp c with
  |true=>
   rw[wb,if_pos hc]
   exact FN file sp N G a e M _ [] (Qs file sp false N G a e l b h h1 (by omega)) (fun _ h=>by(cases h)) (by simp;omega)
  |false=>
   rw[wb,hc,if_neg (by decide)]
   exact FN file sp N G a e M l (b++[c]) h (fun d hd=>by
    rcases List.mem_append.1 hd with hd|hd
    ·exact h1 d hd
    ·simp at hd;subst hd;exact hc) (by simp;omega)
theorem AU (file sp:Bool):∀(M:List UInt8) (l:List ByteArray) (b:List UInt8),wb file sp l b M≠[]
 |[],l,b=>by
  show rW file true l b≠[]
  unfold rW
  repeat' split
  all_goals simp_all
 |c::M,l,b=>by
  unfold wb
  split
  ·exact AU file sp M _ _
  ·exact AU file sp M _ _
end TF
namespace Di
open Go.RowKit dI gB iI mD JQ iH TF gK jw Dc aJ QA Xj aad jX
def Seg (au:List UInt8) (i:Nat) (x:List UInt8):Prop:=TF.At (decide (au=ay)&&decide (i=0)) (aj au) x∧∀c ∈ x,iJ 4 c.toNat=false
def lN (au:List UInt8) (l:List ByteArray):Prop:=TF.All (Seg au) l
theorem YK (au:List UInt8) (i:Nat):Seg au i []:=⟨at_nil _ _,fun _ h=>by cases h⟩
theorem NR (c:UInt8) (h:letter (c.toNat:Int)=true):iJ 4 c.toNat=false:=
 fJ (p:=fun c=>letter (c.toNat:Int)=true→iJ 4 c.toNat=false) (by decide+kernel) c h
theorem abD (f:Bool) (b:List UInt8) (sp:Bool) (g:∀c ∈ b,bW sp c=false):∀c ∈ wr f b,iJ 4 c.toNat=false:=by
 intro c a;cases hf:(f&&lq b)with
 | true=>
  have e:wr f b=b.take 1++[58]:=by unfold wr;rw[hf,if_pos rfl]
  rw[Bool.and_eq_true]at hf;obtain⟨_,d⟩:=hf;rw[e]at a
  match b,d,a with
  |[x,y],d,a=>
   have hx:letter (x.toNat:Int)=true:=by
    simp only[lq,Bool.and_eq_true]at d;exact d.1
   simp only[List.take_succ_cons,List.take_zero,List.cons_append,List.nil_append,List.mem_cons,List.not_mem_nil,or_false]at a;rcases a with rfl|rfl
   ·exact NR _ hx
   decide+kernel
 |false=>
  have e:wr f b=aG.enc 4 b:=by unfold wr;rw[hf,if_neg (by decide)]
  rw[e]at a;exact(II sp b g c a).1
theorem pU {au:List UInt8} {l:List ByteArray} (h:lN au l) (s:List UInt8):lN au (walk au l s):=by
 unfold walk lN;exact FN (decide (au=ay)) (aj au) s.length (Seg au) (YK au) (fun i b h1 h2 h3 h4=>⟨(Zo _ _ b h1 h3 h4).1,abD _ b _ h1⟩) s l [] h (fun _ h=>by cases h) (by simp)
theorem xZ (au:List UInt8) (l:List ByteArray) (s:List UInt8):walk au l s≠[]:=AU _ _ _ _ _
theorem oK (au:List UInt8):lN au []:=fun i h=>absurd h (by simp)
theorem BD {au:List UInt8} {l:List ByteArray} (h:lN au l) (n:Nat):lN au (l.take n):=JY h n
theorem ES {au:List UInt8} {l:List ByteArray} (h:lN au l) (f:Bool):lN au (iW f l):=by
 unfold iW;split
 ·exact h
 exact BD h _
theorem oL (au s:List UInt8):lN au (aB au s):=by
 unfold aB;split
 ·exact oK _
 exact pU (oK _) _
theorem tC {au s:List UInt8} (h:s≠[]∨aj au=true):aB au s≠[]:=by
 unfold aB;rw[if_neg]
 ·exact xZ _ _ _
 rintro⟨c,a⟩;rcases h with h|h
 ·exact h c
 rw[h]at a;cases a
theorem aaP (k:Int) (c:UInt8):aG.one k c≠[]:=fun e=>by
 have:=aG.I7 k c;rw[e]at this;simp at this
theorem XH {k:Int} {L:List UInt8} (h:aG.enc k L=[]):L=[]:=by
 cases L with
 |nil=>rfl
 |cons c t=>
  have e:aG.enc k (c::t)=aG.one k c++aG.enc k t:=by simp[aG.enc]
  rw[e]at h;exact absurd (List.append_eq_nil_iff.1 h).1 (aaP k c)
theorem Dw {s:List UInt8} {sp:Bool} (h:aU s sp=some []):s=[]∧sp=false:=by
 unfold aU at h;split at h
 ·unfold hbr at h;split at h
  ·unfold addr at h;split at h
   ·cases h
   injection h with h;cases h
  cases h
 split at h
 ·unfold Nr at h;split at h
  ·unfold IE at h;split at h
   ·cases h
   split at h
   ·obtain⟨n,_,e⟩:=Option.map_eq_some_iff.1 h;exact absurd e (ZF n)
   rename_i h1 _;injection h with h
   exact absurd h h1
  cases h
 rename_i hs;unfold RJ at h;split at h
 ·injection h with h
  exact⟨XH h,by simpa using hs⟩
 cases h
theorem XR:∀(L:List UInt8) (i:Bool),(kT i L).1=[]→(kT i L).2.2=false→L=[]
 |[],_,_,_=>rfl
 |c::L,i,h1,h2=>by
  unfold kT at h1 h2
  split at h1
  ·rename_i hc
   rw[if_pos hc]at h2
   cases h2
  ·cases h1
structure Ok (u:U):Prop where
 au:ji u.au=true
 low:lower u.au=u.au
 dK:u.dK=true→aj u.au=false∧u.hh=false∧u.aF=[]∧(∀c ∈ u.txt,iJ 0 c.toNat=false∧c≠63∧c≠35)∧u.txt.head?≠some 47∧Lib.hasSuffix u.txt [32]=false
 path:u.dK=false→lN u.au u.aF∧u.txt=[]∧(u.hh=false∨aj u.au=true→u.aF≠[])
 spec:aj u.au=true→u.hh=true
 EN:u.hh=false→u.bY=[]∧u.bZ=[]∧u.port= -1∧u.aU=[]
 bY:∀c ∈ u.bY,iJ 5 c.toNat=false
 bZ:∀c ∈ u.bZ,iJ 5 c.toNat=false
 host:u.hh=true→(u.aU=[]∧u.bY=[]∧u.bZ=[]∧u.port= -1∧(aj u.au=false∨u.au=ay))∨(u.aU≠[]∧Dc.Good (aj u.au) u.aU)
 file:u.au=ay→u.bY=[]∧u.bZ=[]∧u.port= -1∧u.aU≠LOCAL
 port:u.port= -1∨(0≤u.port∧u.port≤65535∧u.port≠jm u.au)
 bT:∀c ∈ u.bT,iJ (if aj u.au=true then 3 else 2) c.toNat=false
 eY:∀c ∈ u.eY,iJ 1 c.toNat=false
 noq:u.hq=false→u.bT=[]
 nof:u.hf=false→u.eY=[]
theorem Ad (k:Int) (d:k≠6) (L:List UInt8):∀c ∈ aG.enc k L,iJ k c.toNat=false:=by
 intro c a;unfold aG.enc at a;obtain⟨x,_,a⟩:=List.mem_flatMap.1 a;exact FW.xO k d x c a
theorem aa1 {au d:List UInt8} {z:Int} (h:prt au d=some z):z= -1∨(0≤z∧z≤65535∧z≠jm au):=by
 unfold prt at h;split at h
 ·cases h;exact .inl rfl
 split at h
 ·split at h
  ·cases h;exact .inl rfl
  split at h
  ·rename_i h1 h2;cases h;exact .inr ⟨by omega,by omega,h1⟩
  cases h
 cases h
theorem Xx (s:List UInt8):(∀c ∈ (iR s).1,iJ 5 c.toNat=false)∧(∀c ∈ (iR s).2.1,iJ 5 c.toNat=false)∧((iR s).2.2.2=false→(iR s).1=[]∧(iR s).2.1=[]):=by
 unfold iR;split
 ·simp
 exact⟨Ad 5 (by decide) _,Ad 5 (by decide) _,fun h=>by cases h⟩
theorem pq {au s:List UInt8} {u:U} (h:authority au s=some u) (q:ji au=true) (n:lower au=au) (m:au≠ay):Ok u:=by
 unfold authority at h;obtain⟨i,h⟩:=jB h;obtain⟨g,h⟩:=jB h;have a:=Xx (s.take (upto (aj au) s));have f:=XR (iR (s.take (upto (aj au) s))).2.2.1 false;have l:=oL au (s.drop (upto (aj au) s));have k:=fun e=>tC (au:=au) (s:=s.drop (upto (aj au) s)) (.inr e);generalize iR (s.take (upto (aj au) s))=K at h i g a f;split at h
 ·rename_i H p e1 e2;have d:=aa1 e2;cases h;refine⟨q,n,fun e=>(by cases e),fun _=>⟨l,rfl,?_⟩,fun _=>rfl,fun e=>(by cases e),a.1,a.2.1,fun _=>?_,fun e=>absurd e m,d,fun c a=>(by cases a),fun c a=>(by cases a),fun _=>rfl,fun _=>rfl⟩
  ·rintro(e|e)
   ·cases e
   exact k e
  by_cases hH:H=[]
  ·left;rw[hH]at e1;obtain⟨j,v⟩:=Dw e1;have b1:(kT false K.2.2.1).2.2=false:=by
    cases hb:(kT false K.2.2.1).2.2
    ·rfl
    exact absurd ⟨hb,j⟩ g
   have b2:=f j b1;have t:K.2.2.2=false:=by
    cases hb:K.2.2.2
    ·rfl
    exact absurd ⟨hb,b2⟩ i
   have b4:=a.2.2 t;rw[b2]at e2;have r:(-1:Int)=p:=by
    have:prt au []=some p:=e2;rw[qM.RQ]at this;injection this
   exact⟨hH,b4.1,b4.2,r.symm,.inl v⟩
  exact .inr ⟨hH,KJ e1⟩
 cases h
theorem xJ {b:U} (a:Ok b) (g:b.dK=false) {l:List ByteArray} (f:lN b.au l) (d:b.hh=false∨aj b.au=true→l≠[]):Ok {aN b with aF:=l}:=
 ⟨a.au,a.low,fun e=>(by cases e),fun _=>⟨f,rfl,d⟩,a.spec,a.EN,a.bY,a.bZ,a.host,a.file,a.port,fun c hc=>(by cases hc),fun c hc=>(by cases hc),fun _=>rfl,fun _=>rfl⟩
theorem JZ {b:U} (a:Ok b) (d:b.dK=false):Ok (along (aN b) b):=
 ⟨a.au,a.low,fun e=>(by cases e),fun _=>⟨(a.path d).1,rfl,(a.path d).2.2⟩,a.spec,a.EN,a.bY,a.bZ,a.host,a.file,a.port,a.bT,fun c hc=>(by cases hc),a.noq,fun _=>rfl⟩
theorem CV {r:List UInt8} {b u:U} (h:dS r b=some u) (a:Ok b) (c:b.dK=false) (hf:b.au≠ay):Ok u:=by
 unfold dS at h;split at h
 ·exact pq h a.au a.low hf
 injection h with h
 subst h;split
 ·rename_i hsl;refine xJ a c (oL _ _) fun _=>tC (.inl ?_);rintro rfl;cases hsl
 split
 ·exact JZ a c
 exact xJ a c (pU (ES (a.path c).1 _) _) fun _=>xZ _ _ _
theorem lC:ji ay=true∧lower ay=ay∧aj ay=true:=by decide+kernel
theorem MI {l:List ByteArray} (f:lN ay l) (d:l≠[]) {H:List UInt8} (a:H=[]∨(H≠[]∧Dc.Good true H∧H≠LOCAL)):Ok {uF with aU:=H,aF:=l}:=by
 refine⟨lC.1,lC.2.1,fun e=>(by cases e),fun _=>⟨f,rfl,fun _=>d⟩,fun _=>rfl,fun e=>(by cases e),fun c hc=>(by cases hc),fun c hc=>(by cases hc),fun _=>?_,fun _=>⟨rfl,rfl,rfl,?_⟩,.inl rfl,fun c hc=>(by cases hc),fun c hc=>(by cases hc),fun _=>rfl,fun _=>rfl⟩
 ·rcases a with a|a
  ·exact .inl ⟨a,rfl,rfl,rfl,.inr rfl⟩
  exact .inr ⟨a.1,by show Dc.Good (aj ay) H;rw[lC.2.2];exact a.2.1⟩
 show H≠LOCAL;rcases a with a|a
 ·rw[a];decide
 exact a.2.2
theorem aay {s:List UInt8} {u:U} (h:far s=some u):Ok u:=by
 have d:=oL ay s;have a:=oL ay (s.drop (upto true s));have f:=tC (au:=ay) (s:=s) (.inr lC.2.2);have c:=tC (au:=ay) (s:=s.drop (upto true s)) (.inr lC.2.2);unfold far at h;split at h
 ·cases h;exact MI d f (.inl rfl)
 split at h
 ·cases h;exact MI a c (.inl rfl)
 split at h
 ·cases h
 rename_i H e;cases h;refine MI a c ?_;split
 ·exact .inl rfl
 rename_i hl;refine .inr ⟨?_,KJ e,hl⟩;rintro rfl;have:=Dw e;cases this.2
theorem Pv {r:List UInt8} {base:Option U} {u:U} (h:file r base=some u) (f:∀b,base=some b→Ok b∧b.dK=false∧b.au=ay):Ok u:=by
 unfold file at h;split at h
 ·exact aay h
 split at h
 ·injection h with h
  subst h;cases base with
  |none=>exact MI (pU (by split<;>first|exact oK _|exact BD (oK _) _) _) (xZ _ _ _) (H:=[]) (.inl rfl)
  |some b=>
   obtain⟨c,a,e⟩:=f b rfl;have d:=(c.path a).1;rw[e]at d;refine xJ c a ?_ fun _=>xZ _ _ _;rw[e];refine pU ?_ _;split
   ·exact BD d _
   exact oK _
 split at h
 ·injection h with h
  subst h;refine MI (pU ?_ _) (xZ _ _ _) (H:=[]) (.inl rfl);split
  ·exact oK _
  exact ES (oK _) _
 rename_i b;obtain⟨c,a,e⟩:=f b rfl;have d:=(c.path a).1;rw[e]at d;split at h
 ·injection h with h
  subst h;exact JZ c a
 injection h with h
 subst h;refine xJ c a ?_ fun _=>xZ _ _ _;rw[e];refine pU ?_ _;split
 ·exact oK _
 exact ES d _
structure POk (p:Parts):Prop where
 au:p.au≠[]→ji p.au=true∧lower p.au=p.au
 rest:∀c ∈ p.rest,c≠63∧c≠35
 last:p.au≠[]→p.hq=false→p.hf=false→Lib.hasSuffix p.rest [32]=false
theorem eG (L:List UInt8) (d c:UInt8):Lib.hasSuffix (L++[d]) [c]=decide (d=c):=by
 rw[Bool.eq_iff_iff];unfold Lib.hasSuffix;rw[List.isSuffixOf_iff_suffix,decide_eq_true_iff];constructor
 ·rintro⟨t,e⟩;exact(List.append_inj' e rfl).2|>fun h=>(List.cons.inj h).1.symm
 rintro rfl;exact⟨L,rfl⟩
theorem qH (L:List UInt8):L=[]∨∃M d,L=M++[d]:=by
 rcases List.eq_nil_or_concat L with h|⟨M,d,h⟩
 ·exact .inl h
 exact .inr ⟨M,d,by simpa using h⟩
theorem Cm (L:List UInt8) (h:Lib.hasSuffix L [32]=false):Lib.hasSuffix (aG.enc 0 L) [32]=false:=by
 rcases qH L with rfl|⟨M,d,rfl⟩
 ·rfl
 rw[eG,decide_eq_false_iff_not]at h;rw[aG.oC];have H:∃X y,aG.one 0 d=X++[y]∧y≠32:=by
  unfold aG.one;split
  ·refine⟨[37,aG.kU (d.toNat / 16)],aG.kU (d.toNat%16),rfl,?_⟩;have c:∀n:Fin 16,aG.kU n.val≠32:=by decide
   exact c ⟨_,Nat.mod_lt _ (by decide)⟩
  exact⟨[],_,rfl,h⟩
 obtain⟨X,y,e,a⟩:=H;rw[e,←List.append_assoc,eG,decide_eq_false_iff_not];exact a
theorem dw_head (p:UInt8→Bool):∀L:List UInt8,L.dropWhile p=[]∨∃c t,L.dropWhile p=c::t∧p c=false
 |[]=>.inl rfl
 |c::L=>by
  rw[List.dropWhile_cons]
  split
  ·exact dw_head p L
  ·rename_i h
   exact .inr ⟨c,L,rfl,by simpa using h⟩
theorem WM (X:List UInt8):tX X=[]∨∃M d,tX X=M++[d]∧cu d=false:=by
 unfold tX;rcases dw_head cu (X.dropWhile cu).reverse with h|⟨c,t,h,hc⟩
 ·left;rw[h];rfl
 right;exact⟨t.reverse,c,by rw[h];simp,hc⟩
theorem Nl (s:List UInt8):Lib.hasSuffix (clean s) [32]=false:=by
 rw[qg];rcases WM (ED s)with h|⟨M,d,h,hd⟩
 ·rw[h];rfl
 rw[h,List.filter_append,List.filter_cons_of_pos (by rw[PU d hd];rfl),List.filter_nil,eG,decide_eq_false_iff_not];rintro rfl;cases hd
theorem yM (b:UInt8):∀L:List UInt8,(aW b L).2.2=false→(aW b L).1=L∧∀c ∈ L,c≠b
 |[],_=>⟨rfl,fun _ h=>by cases h⟩
 |c::L,h=>by
  unfold aW at h⊢
  split at h
  ·cases h
  ·rename_i hc
   have a:=yM b L h
   rw[if_neg hc]
   refine⟨by simp only;rw[a.1],fun d hd=>?_⟩
   rcases List.mem_cons.1 hd with rfl|hd
   ·exact hc
   ·exact a.2 d hd
theorem GH (b:UInt8):∀L:List UInt8,(aW b L).2.2=true→L=(aW b L).1++b::(aW b L).2.1
 |[],h=>by cases h
 |c::L,h=>by
  unfold aW at h⊢
  split at h
  ·rename_i hc
   rw[if_pos hc,hc]
   rfl
  ·rename_i hc
   rw[if_neg hc]
   have a:=GH b L h
   simp only[List.cons_append]
   rw[←a]
theorem IC (b:UInt8):∀L:List UInt8,∀c ∈ (aW b L).1,c≠b
 |[],c,h=>by cases h
 |x::L,c,h=>by
  unfold aW at h
  split at h
  ·cases h
  ·rename_i hx
   rcases List.mem_cons.1 h with rfl|h
   ·exact hx
   ·exact IC b L c h
theorem OH (A B:List UInt8) (c:UInt8) (h:Lib.hasSuffix (A++B) [c]=false):Lib.hasSuffix B [c]=false:=by
 rcases qH B with rfl|⟨M,d,rfl⟩
 ·rfl
 rw[←List.append_assoc,eG]at h;rw[eG];exact h
theorem Sz (L:List UInt8) (h:ji L=true):ji (lower L)=true:=by
 cases L with
 |nil=>cases h
 |cons c r=>
  unfold ji at h;rw[Bool.and_eq_true]at h;show ji (low c::lower r)=true;unfold ji;rw[Bool.and_eq_true];constructor
  ·exact fJ (p:=fun c=>letter c.toNat=true→letter (low c).toNat=true) (by decide+kernel) c h.1
  unfold lower;rw[List.all_map,List.all_eq_true];intro x hx;exact fJ (p:=fun c=>mZ c=true→mZ (low c)=true) (by decide+kernel) x (List.all_eq_true.1 h.2 x hx)
theorem TW (s:List UInt8):POk (aJ.apart (clean s)):=by
 have a:=Nl s;generalize clean s=C at a;unfold aJ.apart;simp only;have g:=IC 35 C;have f:=IC 63 (aW 35 C).1;have e:=(zy 63 (aW 35 C).1).1;have l:=(zy 58 (aW 63 (aW 35 C).1).1).2;have d:∀c ∈ (aW 63 (aW 35 C).1).1,c≠63∧c≠35:=fun c hc=>⟨f c hc,g c (e c hc)⟩;split
 ·rename_i hc;rw[Bool.and_eq_true]at hc;refine⟨fun _=>⟨Sz _ hc.2,CJ _⟩,fun c hc=>d c (l c hc),fun _ h1 h2=>?_⟩;simp only at h1 h2⊢;have k:=(yM 35 C h2).1;rw[k]at h1 hc⊢;have j:=(yM 63 C h1).1;rw[j]at hc⊢;have i:=GH 58 C hc.1;rw[i,show ∀(A B:List UInt8),A++58::B=(A++[58])++B from fun A B=>by simp]at a;exact OH _ _ _ a
 exact⟨fun h=>absurd rfl h,d,fun h=>absurd rfl h⟩
theorem XE {L:List UInt8} (h:∀c ∈ L,c≠63∧c≠35):∀c ∈ aG.enc 0 L,iJ 0 c.toNat=false∧c≠63∧c≠35:=by
 intro c d;refine⟨Ad 0 (by decide) L c d,?_⟩;unfold aG.enc at d;obtain⟨x,hx,a⟩:=List.mem_flatMap.1 d;unfold aG.one at a;split at a
 ·have f:=x.toNat_lt;have e:∀n:Fin 16,aG.kU n.val≠63∧aG.kU n.val≠35:=by decide
  simp only[List.mem_cons,List.not_mem_nil,or_false]at a;rcases a with rfl|rfl|rfl
  ·decide
  ·exact e ⟨x.toNat / 16,by omega⟩
  exact e ⟨x.toNat%16,by omega⟩
 rw[List.mem_singleton]at a;rw[a];exact h x hx
theorem QW {L:List UInt8} (h:L.head?≠some 47):(aG.enc 0 L).head?≠some 47:=by
 cases L with
 |nil=>simp[aG.enc]
 |cons c t=>
  have e:aG.enc 0 (c::t)=aG.one 0 c++aG.enc 0 t:=by simp[aG.enc]
  rw[e];unfold aG.one;split
  ·simp
  simpa using h
theorem Lj {L:List UInt8} (h:¬Lib.hasPrefix L [47]=true):L.head?≠some 47:=by
 cases L with
 |nil=>simp
 |cons c t=>
  intro e;apply h;have:c=47:=by simpa using e
  rw[this];rfl
theorem aaS {p:Parts} (f:POk p) (i:p.au≠[]) (d:p.rest.head?≠some 47):(∀c ∈ aJ.dK (p.hq||p.hf) p.rest,iJ 0 c.toNat=false∧c≠63∧c≠35)∧(aJ.dK (p.hq||p.hf) p.rest).head?≠some 47∧Lib.hasSuffix (aJ.dK (p.hq||p.hf) p.rest) [32]=false:=by
 have h:=XE f.rest;have g:=QW d;unfold aJ.dK;split
 ·rename_i hm;unfold Lib.trimSuffix;rw[if_pos hm.1];refine⟨fun c hc=>?_,?_,?_⟩
  ·rcases List.mem_append.1 hc with hc|hc
   ·exact h c (List.mem_of_mem_take hc)
   simp only[List.mem_cons,List.not_mem_nil,or_false]at hc;rcases hc with rfl|rfl|rfl<;>decide+kernel
  ·cases hk:List.take ((aG.enc 0 p.rest).length - [(32:UInt8)].length) (aG.enc 0 p.rest)with
   |nil=>simp
   |cons c t=>
    intro e;apply g;have j:c=47:=by simpa using e
    rw[←List.take_append_drop ((aG.enc 0 p.rest).length - [(32:UInt8)].length) (aG.enc 0 p.rest),hk,j];rfl
  rw[show ∀A:List UInt8,A++[37,50,48]=(A++[37,50])++[48]from fun A=>by simp,eG];decide
 rename_i hm;refine⟨h,g,?_⟩;by_cases hb:(p.hq||p.hf)=true
 ·cases hx:Lib.hasSuffix (aG.enc 0 p.rest) [32]
  ·rfl
  exact absurd ⟨hx,hb⟩ hm
 have a:p.hq=false∧p.hf=false:=by
  cases h3:p.hq<;>cases h4:p.hf<;>simp_all
 exact Cm _ (f.last i a.1 a.2)
theorem VI {p:Parts} {u:U} (h:aJ.plain p=some u) (j:POk p) (i:p.au≠[]) (d:aj p.au=false) (hf:p.au≠ay):Ok u:=by
 obtain⟨g,f⟩:=j.au i;unfold aJ.plain at h;split at h
 ·exact pq h g f hf
 split at h
 ·rename_i h47;injection h with h
  subst h;refine⟨g,f,fun e=>(by cases e),fun _=>⟨oL _ _,rfl,fun _=>tC (.inl ?_)⟩,fun e=>?_,fun _=>⟨rfl,rfl,rfl,rfl⟩,fun c hc=>(by cases hc),fun c hc=>(by cases hc),fun e=>(by cases e),fun e=>absurd e hf,.inl rfl,fun c hc=>(by cases hc),fun c hc=>(by cases hc),fun _=>rfl,fun _=>rfl⟩
  ·intro e;rw[e]at h47;cases h47
  exact absurd (show aj p.au=true from e) (by rw[d];simp)
 rename_i h47;injection h with h
 subst h;have a:=aaS j i (Lj h47);refine⟨g,f,fun _=>⟨d,rfl,rfl,a.1,a.2.1,a.2.2⟩,fun e=>(by cases e),fun e=>?_,fun _=>⟨rfl,rfl,rfl,rfl⟩,fun c hc=>(by cases hc),fun c hc=>(by cases hc),fun e=>(by cases e),fun e=>absurd e hf,.inl rfl,fun c hc=>(by cases hc),fun c hc=>(by cases hc),fun _=>rfl,fun _=>rfl⟩;exact absurd (show aj p.au=true from e) (by rw[d];simp)
theorem zW {b:U} (a:Ok b) (h:aj b.au=true):b.dK=false:=by
 cases e:b.dK
 ·rfl
 have:=(a.dK e).1;rw[h]at this;cases this
theorem Ov {p:Parts} {base:Option U} {u:U} (h:aJ.resolve p base=some u) (i:POk p) (g:∀b,base=some b→Ok b):Ok u:=by
 have m:ay≠[]:=by decide
 unfold aJ.resolve at h;split at h
 ·refine Pv h fun b e=>?_;cases base with
  |none=>cases e
  |some c=>
   simp only[Option.filter]at e;split at e
   ·rename_i hc;injection e with e
    subst e;have j:c.au=ay:=by simpa using hc
    exact⟨g c rfl,zW (g c rfl) (by rw[j];exact lC.2.2),j⟩
   cases e
 rename_i hf;split at h
 ·rename_i hsp;have a:p.au≠[]:=by
   intro e;rw[e]at hsp;revert hsp;decide
  obtain⟨l,k⟩:=i.au a;split at h
  ·rename_i b;split at h
   ·rename_i he;exact CV h (g b rfl) (zW (g b rfl) (by rw[he.1];exact hsp)) (by rw[he.1];exact hf)
   exact pq h l k hf
  exact pq h l k hf
 rename_i hsp;split at h
 ·rename_i a;exact VI h i a (by simpa using hsp) hf
 split at h
 ·cases h
 rename_i b;have d:=g b rfl;split at h
 ·unfold jk at h;obtain⟨_,h⟩:=jB h;injection h with h
  subst h;exact d
 rename_i ho;have f:b.dK=false:=by simpa using ho
 split at h
 ·rename_i a;exact Pv h fun c e=>by injection e with e;subst e;exact⟨d,f,a⟩
 rename_i a;exact CV h d f a
theorem Q9 {u:U} {p:Parts} (h:Ok u):Ok (finish u p):=by
 have w:=Ad (if aj u.au=true then 3 else 2) (by split<;>decide) p.bT;have v:=Ad 1 (by decide) p.eY;obtain⟨t,s,r,q,n,m,l,k,j,c,a,i,g,f,d⟩:=h;unfold finish;cases p.hq<;>cases p.hf
 ·exact⟨t,s,r,q,n,m,l,k,j,c,a,i,g,f,d⟩
 ·exact⟨t,s,r,q,n,m,l,k,j,c,a,i,v,f,fun e=>(by cases e)⟩
 ·exact⟨t,s,r,q,n,m,l,k,j,c,a,w,g,fun e=>(by cases e),d⟩
 exact⟨t,s,r,q,n,m,l,k,j,c,a,w,v,fun e=>(by cases e),fun e=>(by cases e)⟩
theorem abA {s:List UInt8} {base:Option U} {u:U} (h:aJ.url s base=some u) (c:∀b,base=some b→Ok b):Ok u:=by
 unfold aJ.url at h;obtain⟨v,a,rfl⟩:=Option.map_eq_some_iff.1 h;exact Q9 (Ov a (TW s) c)
end Di
namespace TD
open Go.RowKit Base jw aJ
def nK (u:U):List UInt8:=dL.BH (ah u.au) (ah u.bY) (ah u.bZ) (ah u.aU) u.hh u.port u.dK (ah u.txt) u.aF u.hq u.hf (ah u.bT) (ah u.eY)
def HC (c:UInt8):Prop:=c≠47∧c≠92∧c≠64∧c≠63∧c≠35∧33≤c.toNat∧c.toNat≤126
instance (c:UInt8):Decidable (HC c):=by unfold HC;exact inferInstance
end TD
namespace aan
open Go.RowKit Base dL
theorem below_drewN' (w:World) (k:Nat):Below w.heap.size w (w.drewN k):=Base.below_drewN (Below.refl _ _) k
theorem Za {s t:ByteArray}:s.data.toList=t.data.toList↔s=t:=⟨fun h=>ext_str h,fun h=>by rw[h]⟩
theorem Si (A V:Option Addr) (n j x i:Nat) (l m:List ByteArray) (w:World) (H:dV w A n (l.map Value.string)) (v:dV w V j (m.map Value.string)) (hc:n≤x) (Z:x≤maxLen) (a1:j≤i) (G:i≤maxLen):
  Calls prog 17 #[.slice A n x,.slice V j i] w fun e w'=>e=.returned (.bool (decide (l=m)))∧Below w.heap.size w w':=by
 unfold maxLen at Z G;have P:l.length=n:=by rw[←H.1,List.length_map]
 have z:m.length=j:=by rw[←v.1,List.length_map]
 have N:=hid P;have y:=hid z;have HR:=hid H;have L:=hid v;clear H v P z;by_cases he:n=j
 ·obtain rfl:=he;have X:((n:Int)==(n:Int))=true:=by simp
  have W:((n:Int) !=(n:Int))=false:=by simp
  go_enter func17,ntmps17;go_wp2;go_loopw [5,13] (fun _ vk wr=>∃k:Nat,k≤n∧vk=.int .i64 (k:Int)∧Hid (l.take k=m.take k)∧Hid (Below w.heap.size w wr)) (fun _ vk _=>n - (intOf vk).toNat)
  case atStart=>exact⟨0,Nat.zero_le _,rfl,rfl,Below.refl _ _⟩
  case round=>
   obtain⟨k,hk,rfl,T,a⟩:=hrel;by_cases hlt:k<n
   ·have r:k<l.length:=by rw[N.out];exact hlt
    have q:k<m.length:=by rw[y.out];exact hlt
    obtain⟨g,Y,rfl,hg,d⟩:=(HR.below a).spot (by omega);obtain⟨g2,O,rfl,a0,c⟩:=(L.below a).spot (by omega);have C:=d k (by rw[List.length_map];exact r);have B:=c k (by rw[List.length_map];exact q);rw[List.getElem_map]at C B;obtain⟨s,F⟩:∃s,s=l[k]:=⟨_,rfl⟩;obtain⟨t,E⟩:∃t,t=m[k]:=⟨_,rfl⟩;have HS:Hid (l.take (k+1)=l.take k++[s]):=by rw[F];exact dH l k r
    have J:Hid (m.take (k+1)=m.take k++[t]):=by rw[E];exact dH m k q
    have HX:Hid (s≠t→l≠m):=by
     intro h1 h2;subst h2;exact h1 (F.trans E.symm)
    rw[←F]at C;rw[←E]at B;clear F E d c r q;have Q:=qO s t;by_cases aU:s.data.toList=t.data.toList
    ·rw[decide_eq_true aU]at Q;have I:=hid (Za.1 aU);clear aU;go_wp2_with fail
     go_quiet (fail)
     have f:=a.trans ((below_drewN' wr nq).mono a.size);generalize wr.drewN nq=wq at f⊢;go_wp2;go_roundw
     case rel=>exact⟨k+1,by omega,by go_num,by show _=_;rw[HS.out,J.out,T.out,I.out],f⟩
     case measure=>simp[intOf];omega
    ·rw[decide_eq_false aU]at Q;have D:Hid (decide (l=m)=false):=decide_eq_false (HX (fun h=>aU (by rw[h])));clear aU;go_wp2_with fail
     go_quiet (fail)
     have f:=a.trans ((below_drewN' wr nq).mono a.size);generalize wr.drewN nq=wq at f⊢;go_wp2;go_ret;exact⟨aC D.symm,f⟩
   ·obtain rfl:k=n:=by omega
    have D:Hid (decide (l=m)=true):=decide_eq_true (by
     have h:=T.out;rw[List.take_of_length_le (by rw[N.out];exact Nat.le_refl _),List.take_of_length_le (by rw[y.out];exact Nat.le_refl _)]at h;exact h)
    go_wp2;go_ret;exact⟨aC D.symm,a⟩
 ·have X:((n:Int)==(j:Int))=false:=by simp;omega
  have W:((n:Int) !=(j:Int))=true:=by simp;omega
  have D:Hid (decide (l=m)=false):=decide_eq_false (fun h=>he (by rw[←N.out,←y.out,h]));clear he;go_enter func17,ntmps17;go_wp2;go_ret;exact⟨aC D.symm,Below.refl _ _⟩
def spB (b6 c6:Bool) (s7 t7:ByteArray) (l m:List ByteArray):Bool:=if b6||c6 then(b6==c6)&&decide (s7.data.toList=t7.data.toList)else decide (l=m)
end aan
