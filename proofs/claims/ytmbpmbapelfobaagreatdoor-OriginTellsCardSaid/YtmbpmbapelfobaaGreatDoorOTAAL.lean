/- Lemmas. -/
import Derived.Test.YtmbpmbapelfobaaGreatDoorOTAAK
import Derived.Laws.StructEq
set_option linter.unusedSimpArgs false
set_option linter.unusedVariables false
set_option maxRecDepth 100000
set_option maxHeartbeats 64000000
namespace Go.Proofs.YtmbpmbapelfobaaGreatDoor
open Tryz
namespace dJ
open Go.RowKit
def did (L:Nat→Bool) (i k:Nat):Bool:=if k=i then true else L k
theorem dI (L:Nat→Bool) (i:Nat):did L i i=true:=by simp[did]
theorem aK (L:Nat→Bool) {i k:Nat} (h:k≠i):did L i k=L k:=by simp[did,h]
def Free (R:List Keep):Prop:=∀k v w w',(pick R k).says v w→(pick R k).says v w'
theorem oN:Free []:=fun _ _ _ _ _=>trivial
theorem ru {R:List Keep} (u:Value) (h:Free R):Free (is u::R):=fun k v w w' hs=>match k,hs with
 |0,hs=>hs
 |k+1,hs=>h k v w w' hs
theorem oM {R:List Keep} (h:Free R):Free (any::R):=fun k v w w' hs=>match k,hs with
 |0,_=>trivial
 |k+1,hs=>h k v w w' hs
section
variable {P:Program} {md:Region.Mode} {ops:Array Oper} {Q:Exit→Act→World→Prop}
def aa1 (P:Program) (ops:Array Oper) (Q:Exit→Act→World→Prop) (A:(Nat→Value)→Act) (G:(Nat→Bool)→(Nat→Value)→World→Prop) (R:List Keep) (N:List (List Nat)) (i:Nat) (o:Oper) (ns:List Nat):Prop:=
 ∀L t w,G L t w→L i=false→(∀k,L k=true→∀j ∈ N.getD k [],L j=true)→(∀k ∈ ns,L k=true)→Have R t w ns→∀K:Act→World→Prop,(∀v w',(pick R i).says v w'→G (did L i) (upd t i v) w'→K (A (upd t i v)) w')→
  if Region.wanted o (yielded ops (A t).tmps)=true then Oper.wp P o (A t) w K Q else K ((A t).put o.dst undef) w
def yA (P:Program) (ops:Array Oper) (Q:Exit→Act→World→Prop) (A:(Nat→Value)→Act) (G:(Nat→Bool)→(Nat→Value)→World→Prop) (R:List Keep) (N:List (List Nat)):Nat→List Oper→List (List Nat)→Prop
 |_,[],_=>True
 |k,o::os,ns=>aa1 P ops Q A G R N k o (ns.headD [])∧yA P ops Q A G R N (k+1) os ns.tail
theorem yA.at {A:(Nat→Value)→Act} {G:(Nat→Bool)→(Nat→Value)→World→Prop} {R:List Keep} {N:List (List Nat)}:∀(os:List Oper) (k:Nat) (ns:List (List Nat)),yA P ops Q A G R N k os ns→∀j o,os[j]?=some o→aa1 P ops Q A G R N (k+j) o (ns.getD j [])
 |[],_,_,_,j,o,h=>by simp at h
 |p::os,k,ns,h,0,o,e=>by
  simp at e
  subst e
  cases ns<;>exact h.1
 |p::os,k,ns,h,j+1,o,e=>by
  have:=yA.at os (k+1) ns.tail h.2 j o (by simpa using e)
  rw[Nat.add_assoc,Nat.add_comm 1 j]at this
  cases ns<;>simpa using this
structure aem (ops:Array Oper) (G:(Nat→Bool)→(Nat→Value)→World→Prop) (R:List Keep) (ns:List (List Nat)) (listed:Array Bool) (t:Nat→Value) (w:World):Prop where
 own:G (fun k=>listed.getD k false) t w
 size:listed.size=ops.size
 held:∀i,listed.getD i false=true→(pick R i).says (t i) w∧∀k ∈ ns.getD i [],listed.getD k false=true
theorem UC {A:(Nat→Value)→Act} {G:(Nat→Bool)→(Nat→Value)→World→Prop} {R:List Keep} {ns:List (List Nat)} (x:wF md ops ns=true) (hf:Free R) (m:yA P ops Q A G R ns 0 ops.toList ns)
  (fin:∀L t w,G L t w→(∀k<ops.size,L k=true)→Have R t w (List.range ops.size)→Q .normal (A t) w):
  ∀(d:Nat) (a:Array Bool) (t:Nat→Value) (w:World),aem ops G R ns a t w→KD ops a≤d→wpAny P md ops Q d a (A t) w:=by
 have done:∀(a:Array Bool) (t:Nat→Value) (w:World),aem ops G R ns a t w→Region.ready md ops a=[]→Q .normal (A t) w:=fun a t w h r=>
  fin _ t w h.own (fun k c=>qC x h.size r (k+1) k (by omega) c) (ni _ fun k c=>(h.held k (qC x h.size r (k+1) k (by omega) (by simpa using c))).1)
 intro d;induction d with
 | zero=>
  intro a t w h B;have r:Region.ready md ops a=[]:=by
   cases e:Region.ready md ops a with
   |nil=>rfl
   |cons i l=>
    have hi:i ∈ Region.ready md ops a:=by rw[e];simp
    obtain⟨s,o,q,_⟩:=mem_ready.1 hi;have:=countP_set h.size (Array.getElem?_eq_some_iff.1 q).1 s;omega
  exact⟨r,done a t w h r⟩
 | succ d ih=>
  intro a t w h B;refine⟨done a t w h,fun i hi=>?_⟩;obtain⟨s,o,q,g⟩:=mem_ready.1 hi;have n:=(Array.getElem?_eq_some_iff.1 q).1;have f:∀k ∈ ns.getD i [],a.getD k false=true:=fun k c=>by
   obtain⟨e,y,z,c⟩:=(qH x q).2 k c;rcases c with rfl|c
   ·exact g e y z
   ·exact(h.held e.on (g e y z)).2 k c
  have aS:=yA.at ops.toList 0 ns m i o (by simpa using q);rw[Nat.zero_add]at aS;refine wpOp_step q fun K hK=>aS (fun k=>a.getD k false) t w h.own (by
   show a.getD i false=false;rw[rC (by rw[h.size];exact n) false true];exact s) (fun k c j hj=>(h.held k c).2 j hj) f (ni _ fun k c=>(h.held k (f k c)).1) K fun v w' hv hg=>hK _ _ (ih _ _ _ ⟨?_,by simpa using h.size,fun j hj=>?_⟩ ?_)
  ·have e:(fun k=>(a.setIfInBounds i true).getD k false)=did (fun k=>a.getD k false) i:=by
    funext k
    by_cases c:k=i
    ·subst c;rw[dI];simp[Array.getD,h.size,n]
    ·rw[aK _ c];exact getD_set_ne false (Ne.symm c)
   rw[e];exact hg
  ·by_cases hji:j=i
   ·subst hji;refine⟨by simpa[upd]using hv,fun k c=>getD_set_true (f k c)⟩
   ·rw[getD_set_ne false (Ne.symm hji)]at hj;have:=h.held j hj;refine⟨by simp only[upd,if_neg hji];exact hf j _ _ _ this.1,fun k c=>getD_set_true (this.2 k c)⟩
  ·have:=countP_set h.size n s;omega
theorem iH {g:Nat} {a:Act} {w:World} {l:List Oper} (m:P.follows .mixedOrders=true) (G:(Nat→Bool)→(Nat→Value)→World→Prop) (R:List Keep) (ns:List (List Nat)) (n:wF .any l.toArray ns=true) (hf:Free R)
  (d:∀t,G (fun _=>false) t {w with drawn:=w.drawn+1})
  (c:yA P l.toArray Q (fun t=>filled t l 0 a) G R ns 0 l ns)
  (fin:∀L t w',G L t w'→(∀k<l.length,L k=true)→Have R t w' (List.range l.length)→Q .normal (filled t l 0 a) w'):(Code.region g l.toArray true).wp P Q a w:=by
 refine wp_region_any m ?_;have h:=UC (P:=P) (Q:=Q) (md:=.any) (ops:=l.toArray) (A:=fun t=>filled t l 0 a) (G:=G) (R:=R) (ns:=ns) n hf (by simpa using c) (by simpa using fin) l.length (Array.replicate l.length false) (now l a) {w with drawn:=w.drawn+1}
  ⟨by
   have e:(fun k=>(Array.replicate l.length false).getD k false)=fun _=>false:=by
    funext k
    by_cases h:k<l.length<;>simp[Array.getD,h]
   rw[e];exact d _,by simp,fun i hi=>by
   by_cases h:i<l.length<;>simp[Array.getD,h]at hi⟩ (by unfold KD;refine Nat.le_trans List.countP_le_length ?_;simp)
 have e:filled (now l a) l 0 a=a:=qF a l l 0 (fun j=>by simp);have f:wpAny P .any l.toArray Q l.length (Array.replicate l.length false) (filled (now l a) l 0 a) {w with drawn:=w.drawn+1}:=h;rw[e]at f;simpa using f
end
end dJ
namespace pz
open Go.RowKit Base dJ aC qB
def Own (w0 w:World) (u:U) (A:Option Addr) (n c:Nat):Prop:=w.ownsRow w0.heap.size 9 1 (.slice A n c) n (u.aF.map Value.string)
theorem Own.aF {w0 w:World} {u:U} {A:Option Addr} {n c:Nat} (h:Own w0 w u A n c):fK w u A n c:=by
 obtain⟨i,g,e,f,d,a⟩:=aW h;cases e;exact⟨a,f,d⟩
theorem Own.below {w0 w w':World} {u:U} {A:Option Addr} {n c:Nat} (h:Own w0 w u A n c) (a:Below w.heap.size w w'):Own w0 w' u A n c:=aY h a
theorem Own.row {w0 w:World} {u:U} {A:Option Addr} {n c g:Nat} (h:Own w0 w u A n c) (a:g<w0.heap.size) (cs:Array Value):Own w0 (w.setRow g cs) u A n c:=fH.aQ (gb:=g) h (fun k hk=>setRow_other _ _ _ _ hk) a
theorem Own.base {w0 a w:World} {u:U} {A:Option Addr} {n c:Nat} (h:Own a w u A n c) (d:w0.heap.size≤a.heap.size):Own w0 w u A n c:=aI h d
theorem rJ (w0 w:World) {u:U} (h:u.aF=[]):Own w0 w u none 0 0:=by
 unfold Own;rw[h];exact World.ownsRow_nil _ _ _ _
def kZ (w:World) (o:Option U) (e:Ending) (w':World):Prop:=Below w.heap.size w w'∧∃u A n c ok,e=.returned (.tuple #[.agg (cells u (.slice A n c)),.bool ok])∧Own w w' u A n c∧(o=some u∧ok=true∨o=none∧ok=false∧u=U0)
end pz
namespace Jc
open Go.RowKit Base jq
theorem oz (c:UInt8) (d:Bool) (w:World):Calls prog 140 #[.int .u8 (c.toNat:Int),.bool d] w fun e w'=>e=.returned (.bool (yS d c))∧w=w':=by
 cases d with
 |false=>
  go_enter func140,ntmps140;go_wp2_with fail
  refine(strings_IndexByte _ _ _).mono ?_;rintro e f ⟨rfl,rfl⟩;rw[show(⟨#[0,9,10,13,32,35,47,58,60,62,63,64,91,92,93,94,124]⟩:ByteArray).data.toList=FRB from rfl,show((c.toNat:Int).toNat).toUInt8=c by simp];go_wp2_with fail
  go_ret;exact⟨aH (by rw[Ie,←Ih]),rfl⟩
 | true=>
  by_cases h:c.toNat<32∨c=127∨c=37
  ·have a:Hid (yS true c=true):=by
    show _=_;rcases h with h|rfl|rfl
    ·simp[yS,h]
    ·rfl
    rfl
   rcases h with h|rfl|rfl
   ·have g:(c.toNat:Int)<32:=by omega
    go_enter func140,ntmps140;go_wp2;go_ret;exact⟨by rw[a.out];rfl,rfl⟩
   ·go_enter func140,ntmps140;go_wp2;go_ret;exact⟨by rw[a.out];rfl,rfl⟩
   go_enter func140,ntmps140;go_wp2;go_ret;exact⟨by rw[a.out];rfl,rfl⟩
  have g:¬(c.toNat:Int)<32:=by omega
  have m:((c.toNat:Int)==127)=false:=by
   rw[beq_eq_false_iff_ne];intro e;exact h (.inr (.inl (UInt8.toNat_inj.1 (by show _=127;omega))))
  have l:((c.toNat:Int)==37)=false:=by
   rw[beq_eq_false_iff_ne];intro e;exact h (.inr (.inr (UInt8.toNat_inj.1 (by show _=37;omega))))
  have a:Hid (yS true c=S9 c):=by
   show _=_;have k:decide (c.toNat<32)=false:=by simp;omega
   have j:(c==127)=false:=by rw[beq_eq_false_iff_ne];exact fun e=>h (.inr (.inl e))
   have i:(c==37)=false:=by rw[beq_eq_false_iff_ne];exact fun e=>h (.inr (.inr e))
   simp[yS,k,j,i]
  go_enter func140,ntmps140;go_wp2_with fail
  refine(strings_IndexByte _ _ _).mono ?_;rintro e f ⟨rfl,rfl⟩;rw[show(⟨#[0,9,10,13,32,35,47,58,60,62,63,64,91,92,93,94,124]⟩:ByteArray).data.toList=FRB from rfl,show((c.toNat:Int).toNat).toUInt8=c by simp];go_wp2_with fail
  go_ret;exact⟨aH (by rw[a.out,←Ih]),rfl⟩
theorem dV (c:UInt8) (d:Bool) (w:World):Calls prog 171 #[.int .u8 (c.toNat:Int),.bool d] w fun e w'=>e=.returned (.bool (yS d c))∧w=w':=by
 cases hf:S9 c with
 |true=>
  have a:Hid (yS d c=true):=by show _=_;simp[yS,hf]
  rcases Tc c hf with rfl|rfl|rfl|rfl|rfl|rfl|rfl|rfl|rfl|rfl|rfl|rfl|rfl|rfl|rfl|rfl|rfl
  all_goals
   go_enter func171,ntmps171;go_wp2;go_ret;exact⟨by rw[a.out];rfl,rfl⟩
 | false=>
  have A:((c.toNat:Int)==0)=false:=gV c hf 0 rfl;have z:((c.toNat:Int)==9)=false:=gV c hf 9 rfl;have y:((c.toNat:Int)==10)=false:=gV c hf 10 rfl;have x:((c.toNat:Int)==13)=false:=gV c hf 13 rfl;have v:((c.toNat:Int)==32)=false:=gV c hf 32 rfl;have t:((c.toNat:Int)==35)=false:=gV c hf 35 rfl;have s:((c.toNat:Int)==47)=false:=gV c hf 47 rfl;have r:((c.toNat:Int)==58)=false:=gV c hf 58 rfl;have q:((c.toNat:Int)==60)=false:=gV c hf 60 rfl;have n:((c.toNat:Int)==62)=false:=gV c hf 62 rfl;have m:((c.toNat:Int)==63)=false:=gV c hf 63 rfl;have l:((c.toNat:Int)==64)=false:=gV c hf 64 rfl;have k:((c.toNat:Int)==91)=false:=gV c hf 91 rfl;have j:((c.toNat:Int)==92)=false:=gV c hf 92 rfl;have i:((c.toNat:Int)==93)=false:=gV c hf 93 rfl;have g:((c.toNat:Int)==94)=false:=gV c hf 94 rfl;have f:((c.toNat:Int)==124)=false:=gV c hf 124 rfl;cases d with
  |false=>
   have a:Hid (yS false c=false):=by show _=_;simp[yS,hf]
   go_enter func171,ntmps171;go_wp2;go_ret;exact⟨by rw[a.out];rfl,rfl⟩
  | true=>
   by_cases h:c.toNat<32∨c=127∨c=37
   ·have a:Hid (yS true c=true):=by
     show _=_;rcases h with h|rfl|rfl
     ·simp[yS,h]
     ·rfl
     rfl
    rcases h with h|rfl|rfl
    ·have B:(c.toNat:Int)<32:=by omega
     go_enter func171,ntmps171;go_wp2;go_ret;exact⟨by rw[a.out];rfl,rfl⟩
    ·clear A z y x v t s r q n m l k j i g f;go_enter func171,ntmps171;go_wp2;go_ret;exact⟨by rw[a.out];rfl,rfl⟩
    clear A z y x v t s r q n m l k j i g f;go_enter func171,ntmps171;go_wp2;go_ret;exact⟨by rw[a.out];rfl,rfl⟩
   have B:¬(c.toNat:Int)<32:=by omega
   have G:((c.toNat:Int)==127)=false:=by
    rw[beq_eq_false_iff_ne];intro e;exact h (.inr (.inl (UInt8.toNat_inj.1 (by show _=127;omega))))
   have F:((c.toNat:Int)==37)=false:=by
    rw[beq_eq_false_iff_ne];intro e;exact h (.inr (.inr (UInt8.toNat_inj.1 (by show _=37;omega))))
   have a:Hid (yS true c=false):=by
    show _=_;have E:decide (c.toNat<32)=false:=by simp;omega
    have D:(c==127)=false:=by rw[beq_eq_false_iff_ne];exact fun e=>h (.inr (.inl e))
    have C:(c==37)=false:=by rw[beq_eq_false_iff_ne];exact fun e=>h (.inr (.inr e))
    simp[yS,hf,E,D,C]
   go_enter func171,ntmps171;go_wp2;go_ret;exact⟨by rw[a.out];rfl,rfl⟩
end Jc
namespace Gv
open Go.RowKit Base aV lX qy Ba fH kS Du jF RX jq vJ
theorem Ad (f:Nat→Nat):Xl (V8 f)=jF.prt f:=by
 unfold Xl jF.prt zs;rfl
theorem Vd (M:Nat):∀(ps:List (List UInt8)) (most acc n:Nat),ps≠[]→xU most acc ps=some n→acc+most≤M→n<M
 |[],_,_,_,h,_,_=>absurd rfl h
 |[p],most,acc,n,_,h,hM=>by
  unfold xU at h
  split at h
  ·split at h
   ·injection h with h;omega
   ·cases h
  ·cases h
 | p :: q :: r, most, acc, n, _, h, hM => by
  unfold xU at h
  split at h
  ·rename_i v _
   split at h
   ·refine Vd M (q::r) (most / 256) (acc+v*(most / 256)) n (by simp) h ?_
    have c:v*(most / 256)≤255*(most / 256):=Nat.mul_le_mul_right _ (by omega)
    have a:256*(most / 256)≤most:=Nat.mul_div_le most 256
    omega
   ·cases h
  ·cases h
theorem FD {L:List UInt8} {n:Nat} (h:Dx L=some n):n<4294967296:=by
 unfold Dx at h;split at h
 ·exact Vd 4294967296 _ _ _ _ (oG _) h (by omega)
 cases h
theorem Gi (L:List UInt8):(Lib.trimSuffix L [93]).length≤L.length:=by
 unfold Lib.trimSuffix;split
 ·rw[List.length_take];omega
 exact Nat.le_refl _
theorem JJ (f:Nat→Nat):(jF.prt f).length≤100:=by
 unfold jF.prt;have e:=uH (V8 f);have c:=uH ((V8 f).take (qP (zs f)).1);have a:=uH ((V8 f).drop (qP (zs f)).2);have d:(V8 f).length=8:=rfl;rw[List.length_take]at c;rw[List.length_drop]at a;split
 ·omega
 simp only[List.length_append,List.length_cons,List.length_nil];omega
theorem Pj (e:Bool):∀{ps:List (List UInt8)} {l:List Nat},lV e ps=some l→∀x ∈ l,x<65536
 |[],l,h=>by injection h with h;subst h;intro x hx;simp at hx
 | p ::r,l,h=>by
  rw[lV]at h
  split at h
  ·obtain⟨a,b,rfl⟩:=JL h
   have:=YP.FI h
   intro x hx
   simp at hx
   rcases hx with rfl|rfl
   ·exact this.1
   ·exact this.2
  ·split at h
   ·cases h
   ·rename_i n hn
    split at h
    ·cases h
    ·rename_i x e2
     injection h with h
     subst h
     intro y c
     rcases List.mem_cons.1 c with rfl|c
     ·exact Xd hn
     ·exact Pj e e2 y c
theorem adk {s:List UInt8} {V:List Nat} (h:six s=some V):∀x ∈ V,x<65536:=by
 have c:∀(e:Bool) (ps:List (List UInt8)) (l:List Nat),fC e ps=some l→∀x ∈ l,x<65536:=by
  intro e ps l h;unfold fC at h;split at h
  ·injection h with h;subst h;intro x hx;simp at hx
  exact Pj e h
 unfold six at h;split at h
 ·unfold qy.eight at h;split at h
  ·rename_i a ha;split at h
   ·injection h with h
    subst h;rw[List.nil_append];exact Pj true ha
   cases h
  cases h
 unfold both at h;split at h
 ·rename_i a b ha hb;split at h
  ·injection h with h
   subst h;intro x hx;unfold fill at hx;simp only[List.nil_append,List.mem_append,List.mem_replicate]at hx;rcases hx with(hx|hx)|hx
   ·exact c _ _ _ ha x hx
   ·omega
   exact c _ _ _ hb x hx
  cases h
 cases h
theorem D8 {s:List UInt8} {V:List Nat} (h:six s=some V):∃f:Nat→Nat,V=V8 f∧∀i,f i<65536:=by
 refine⟨fun i=>V.getD i 0,uZ (aau h),fun i=>?_⟩;rcases Nat.lt_or_ge i V.length with hi|hi
 ·show V.getD i 0<_;rw[List.getD_eq_getElem?_getD,List.getElem?_eq_getElem hi];exact adk h _ (List.getElem_mem hi)
 show V.getD i 0<_;rw[List.getD_eq_getElem?_getD,List.getElem?_eq_none hi];simp
theorem KQ (s:ByteArray) (w:World) (hs:s.size≤1048576) (t:pK w) (r:Max w):Calls prog 137 #[.string s] w fun e w'=>e=.returned (HV (hbr s.data.toList))∧Below w.heap.size w w':=by
 have HL:=hid t;have L:=hid r;obtain⟨I,v⟩:∃I:ByteArray,I=ah (Lib.trimSuffix s.data.toList [93]):=⟨_,rfl⟩;have j:I.size≤1048576:=by
  rw[v,ak];have:=Gi s.data.toList;have:s.data.toList.length=s.size:=Array.length_toList;omega
 have c:=fun w=>strings_CutSuffix s ⟨#[93]⟩ w (by omega);rw[show(⟨#[93]⟩:ByteArray).data.toList=[93]from rfl,show(⟨(Lib.trimSuffix s.data.toList [93]).toArray⟩:ByteArray)=I from v.symm]at c;have m:I.data.toList=Lib.trimSuffix s.data.toList [93]:=by rw[v];rfl
 have G:hbr s.data.toList=if Lib.hasSuffix s.data.toList [93]=true then addr I.data.toList else none:=by rw[m];rfl
 obtain⟨H,h⟩:∃H,H=HV (hbr s.data.toList):=⟨_,rfl⟩;rw[←h];rw[G]at h;clear v m G t r;cases hsf:Lib.hasSuffix s.data.toList [93]with
 |false=>
  rw[hsf]at c h;have n:Hid (H=.tuple #[.string (ah []),.bool false]):=by show _=_;rw[h];rfl
  have HC:=hid c;clear c h hsf;go_enter func137,ntmps137;go_wp2_with fail
  refine(HC _).mono ?_;rintro e l ⟨rfl,d⟩;obtain rfl:w=l:=d.symm;go_wp2;go_ret2;exact⟨by rw[n.out];rfl,Below.refl _ _⟩
 | true=>
  rw[hsf]at c h;rw[if_pos rfl]at h;have HC:=hid c;clear c hsf;have a:=fun w r=>jS I w j r;cases hv:six I.data.toList with
  |none=>
   have n:Hid (H=.tuple #[.string (ah []),.bool false]):=by show _=_;rw[h];unfold addr;rw[hv];rfl
   rw[hv]at a;obtain⟨f,hf⟩:∃f:Nat→Nat,V8 f=mM:=⟨fun _=>0,rfl⟩;have k:Hid (GK none=.tuple #[.agg #[.int .u16 (f 0:Int),.int .u16 (f 1:Int),.int .u16 (f 2:Int),.int .u16 (f 3:Int),.int .u16 (f 4:Int),.int .u16 (f 5:Int),.int .u16 (f 6:Int),.int .u16 (f 7:Int)],.bool false]):=by
    show GK none=.tuple #[.agg (bC (V8 f)).toArray,.bool false];rw[hf];rfl
   rw[k.out]at a;have F:=hid a;clear a hv h j hf;go_enter func137,ntmps137;go_wp2_with fail
   refine(HC _).mono ?_;rintro e l ⟨rfl,d⟩;obtain rfl:w=l:=d.symm;go_wp2_with fail
   refine(F _ L).mono ?_;rintro e x ⟨rfl,g⟩;have i:=hid g;clear g;go_wp2;go_ret2;exact⟨by rw[n.out];rfl,i.alloc i.size _⟩
  |some V=>
   obtain⟨f,rfl,J⟩:=D8 hv;have C:H=.tuple #[.string (ah (91::(jF.prt f++[93]))),.bool true]:=by rw[h];unfold addr;rw[hv,←Ad];rfl
   rw[hv]at a;have k:Hid (GK (some (V8 f))=.tuple #[.agg #[.int .u16 (f 0:Int),.int .u16 (f 1:Int),.int .u16 (f 2:Int),.int .u16 (f 3:Int),.int .u16 (f 4:Int),.int .u16 (f 5:Int),.int .u16 (f 6:Int),.int .u16 (f 7:Int)],.bool true]):=rfl;rw[k.out]at a;have F:=hid a;obtain⟨P,B⟩:∃P,P=ah (jF.prt f):=⟨_,rfl⟩;have E:Hid (∀w,pK w→Calls prog 162 #[A8 f] w fun e w'=>e=.returned (.string P)∧Below w.heap.size w w'):=by
    show ∀w,_;rw[B];exact fun w t=>jF.qp f J w t
   obtain⟨Y,A⟩:∃Y,Y=ah (91::jF.prt f):=⟨_,rfl⟩;obtain⟨Z,z⟩:∃Z,Z=ah (91::(jF.prt f++[93])):=⟨_,rfl⟩;rw[←z]at C;have y:=JJ f;have a1:∀w:World,(Op.stringOp .add ⟨#[91]⟩ P).run prog w=.ok (.string Y) w:=fun w=>by
    rw[A,B];exact bH [91] _ w (by simp;omega)
   have a2:∀w:World,(Op.stringOp .add Y ⟨#[93]⟩).run prog w=.ok (.string Z) w:=fun w=>by
    rw[z,A];exact bH (91::jF.prt f) [93] w (by simp;omega)
   have n:=hid C;clear a hv h j C B A z y J;go_enter func137,ntmps137;go_wp2_with fail
   refine(HC _).mono ?_;rintro e l ⟨rfl,d⟩;obtain rfl:w=l:=d.symm;go_wp2_with fail
   refine(F _ L).mono ?_;rintro e x ⟨rfl,g⟩;have i:=hid g;clear g;go_upto_region 5 with(fail)
   generalize hw3:x.alloc _=w3;have q:Hid (Below w.heap.size w w3):=by
    show Below _ _ _;rw[←hw3];exact i.alloc i.size _
   have D:Hid (Box w3 x.heap.size 156 (V8 f)):=by
    show Box _ _ _ _;rw[←hw3];exact yY f
   clear hw3;obtain⟨c0,c1,X,W,T,Q,O,N⟩:=dA D f rfl;go_wp2_with fail
   clear c0 c1 X W T Q O N;refine qV q (E _ (HL.below q)) fun w4 HB4=>?_;go_wp2;go_ret2;exact⟨by rw[n.out];rfl,HB4⟩
end Gv
namespace pJ
open Go.RowKit Base aV fA lX kS jq Jc Gv vJ
theorem cO {w w':World} (h:Tab.Pow w) (a:Below w.heap.size w w'):Tab.Pow w':=Tab.Pow.below h a
theorem Ir (L:List UInt8):(lower L).length=L.length:=by simp[lower]
theorem He {L:List UInt8} (h:oks true L=false):HV (Oq L)=.tuple #[.string (ah []),.bool false]:=by unfold Oq;rw[h];rfl
theorem NR {L:List UInt8} (h:oks true L=true):HV (Oq L)=HV (Jo (lower L)):=by unfold Oq;rw[if_pos h]
theorem Ot (s:ByteArray) (w:World) (hs:s.size≤900000) (F:Tab.Pow w) (x:Max w):Calls prog 138 #[.string s] w fun e w'=>e=.returned (HV (Oq s.data.toList))∧Below w.heap.size w w':=by
 have HT:=hid F;have Y:=hid x;have V:s.data.toList.length=s.size:=Array.length_toList;have O:=hid V;obtain⟨H,I⟩:∃H,H=HV (Oq s.data.toList):=⟨_,rfl⟩;rw[←I];have P:=hid I;clear F x V I;go_enter func138,ntmps138;go_wp2;go_loopw [4] (fun vk wr=>∃k:Nat,k≤s.size∧vk=.int .i64 (k:Int)∧wr=w∧Hid (oks true (s.data.toList.take k)=true)) (fun vk _=>s.size - (intOf vk).toNat)
 case atStart=>exact⟨0,Nat.zero_le _,rfl,rfl,rfl⟩
 case round =>
  obtain⟨k,hk,rfl,rfl,X⟩:=hrel;by_cases hlt:k<s.size
  ·obtain ⟨c,Z⟩:∃c,s[k]=c:=⟨_,rfl⟩;have m:k<s.data.toList.length:=by rw[O.out];exact hlt
   have q:s.data.toList[k]=c:=Z;by_cases h126:(126:Int)<(c.toNat:Int)
   ·have v:Hid (H=.tuple #[.string (ah []),.bool false]):=by
     show _=_;rw[P.out];refine He (uM true _ k m ?_);rw[q,qI,decide_eq_false (by omega),Bool.and_false]
    clear m q;go_wp2;go_ret2;exact⟨by rw[v.out];rfl,Below.refl _ _⟩
   cases hf:yS true c with
   |true=>
    have v:Hid (H=.tuple #[.string (ah []),.bool false]):=by
     show _=_;rw[P.out];refine He (uM true _ k m ?_);rw[q,qI,hf];rfl
    have i:=fun w=>oz c true w;rw[hf]at i;have Q:=hid i;clear m q hf i;go_wp2_with fail
    refine(Q _).mono ?_;rintro e A ⟨rfl,rfl⟩;go_wp2;go_ret2;exact⟨by rw[v.out];rfl,Below.refl _ _⟩
   |false=>
    have HN:Hid (oks true (s.data.toList.take (k+1))=true):=by
     show _=_;rw[jR true _ k m,X.out,q,qI,hf,decide_eq_true (by omega)];rfl
    have i:=fun w=>oz c true w;rw[hf]at i;have Q:=hid i;clear m q hf i;go_wp2_with fail
    refine(Q _).mono ?_;rintro e A ⟨rfl,rfl⟩;go_wp2;go_roundw
    case rel=>exact⟨k+1,by omega,by go_num,by first|rfl|trivial,HN⟩
    case measure=>simp[intOf];omega
  have W:oks true s.data.toList=true:=by
   have:=X.out;rw[List.take_of_length_le (by rw[O.out];omega)]at this;exact this
  have j:H=HV (Jo (lower s.data.toList)):=by rw[P.out];exact NR W
  obtain⟨M,x⟩:∃M:ByteArray,M=ah (lower s.data.toList):=⟨_,rfl⟩;have D:lower s.data.toList=M.data.toList:=by rw[x];rfl
  have C:M.size≤900000:=by rw[x,ak,Ir,O.out];omega
  have y:Hid (∀w:World,Calls prog 24 #[.string s] w fun e w'=>e=.returned (.string M)∧Below w.heap.size w w'):=by
   show ∀w,_;rw[x];exact fun w=>fA.jQ s w (by unfold maxLen;omega)
  rw[D]at j;have a:=fun w=>N7.VH M w C;clear x D W;cases he:ends M.data.toList with
  |false=>
   rw[he]at a;have t:=hid a;by_cases f:M.data.toList=[]
   ·have E:M=ah []:=by rw[←bF M,f]
    have v:Hid (H=.tuple #[.string (ah []),.bool false]):=by show _=_;rw[j,f];rfl
    have hq:M.toList=[]:=by rw[Lib.toList_data];exact f
    have B:(M.toList==[])=true:=by rw[hq];rfl
    have N:=hid E;clear a he f E j hq;go_wp2_with fail
    refine(y _).mono ?_;rintro e A ⟨rfl,d⟩;have l:=hid d;clear d;go_wp2_with fail
    refine qV l (t _) fun w3 HB3=>?_;go_wp2;go_ret2;exact⟨by rw[v.out,←N.out];first|rfl|simp[B],HB3⟩
   have v:Hid (H=.tuple #[.string M,.bool true]):=by
    show _=_;rw[j];unfold Jo;rw[if_neg f,he,if_neg (by simp)];show Value.tuple #[.string (ah M.data.toList),.bool true]=_;rw[bF]
   have hq:(M.toList==[])=false:=by
    rw[Lib.toList_data,beq_eq_false_iff_ne];exact f
   have B:M.toList.isEmpty=false:=by rw[Lib.toList_data];simpa using f
   clear a he f j;go_wp2_with fail
   refine(y _).mono ?_;rintro e A ⟨rfl,d⟩;have l:=hid d;clear d;go_wp2_with fail
   refine qV l (t _) fun w3 HB3=>?_;go_wp2;go_ret2;exact⟨by rw[v.out];rfl,HB3⟩
  | true=>
   rw[he]at a;have t:=hid a;have f:M.data.toList≠[]:=by intro h;rw[h]at he;cases he
   have r:H=HV ((Dx M.data.toList).map yx.pr):=by rw[j];unfold Jo;rw[if_neg f,he,if_pos rfl]
   have g:=fun w x=>vI.jS M w C x;clear a he f j;cases hp:Dx M.data.toList with
   |none=>
    rw[hp]at g r;have v:Hid (H=.tuple #[.string (ah []),.bool false]):=by show _=_;rw[r];rfl
    have z:Hid (vI.nO none=.tuple #[.int .u32 0,.bool false]):=vI.jy _ rfl;rw[z.out]at g;have L:=hid g;clear g r hp;go_wp2_with fail
    refine(y _).mono ?_;rintro e A ⟨rfl,d⟩;have l:=hid d;clear d;go_wp2_with fail
    refine qV l (t _) fun w3 HB3=>?_;go_wp2_with fail
    refine qV HB3 (L _ (Y.below HB3)) fun w4 HB4=>?_;go_wp2;go_ret2;exact⟨by rw[v.out];rfl,HB4⟩
   |some n=>
    have T:=FD hp;rw[hp]at g r;obtain⟨R,G⟩:∃R:ByteArray,R=ah (yx.pr n):=⟨_,rfl⟩;have v:Hid (H=.tuple #[.string R,.bool true]):=by show _=_;rw[r,G];rfl
    have z:Hid (vI.nO (some n)=.tuple #[.int .u32 (n:Int),.bool true]):=vI.tH _ n rfl;rw[z.out]at g;have L:=hid g;have J:Hid (∀w,Tab.Pow w→Calls prog 165 #[.int .u32 (n:Int)] w fun e w'=>e=.returned (.string R)∧Below w.heap.size w w'):=by
     show ∀w,_;rw[G];exact fun w F=>yx.qp n T w F
    clear g r hp T G;go_wp2_with fail
    refine(y _).mono ?_;rintro e A ⟨rfl,d⟩;have l:=hid d;clear d;go_wp2_with fail
    refine qV l (t _) fun w3 HB3=>?_;go_wp2_with fail
    refine qV HB3 (L _ (Y.below HB3)) fun w4 HB4=>?_;go_wp2_with fail
    refine qV HB4 (J _ (cO HT HB4)) fun w5 HB5=>?_;go_wp2;go_ret2;exact⟨by rw[v.out];rfl,HB5⟩
theorem LU (L:List UInt8):Lib.hasPrefix L [91]=decide (L.head?=some 91):=by
 cases L with
 |nil=>rfl
 |cons c r=>
  unfold Lib.hasPrefix;by_cases h:c=91
  ·subst h;simp[List.isPrefixOf]
  have a:¬(91:UInt8)=c:=fun e=>h e.symm;simp[List.isPrefixOf,h,a]
theorem jS (s:ByteArray) (sp:Bool) (w:World) (hs:s.size≤900000) (V:pK w) (T:Tab.Pow w) (J:Max w):Calls prog 97 #[.string s,.bool sp] w fun e w'=>e=.returned (HV (aS s.data.toList sp))∧Below w.heap.size w w':=by
 have HL:=hid V;have HT:=hid T;have HM:=hid J;have hl:s.data.toList.length=s.size:=Array.length_toList;have z:=hid hl;have d:=fun w=>strings_HasPrefix s ⟨#[91]⟩ w;rw[show(⟨#[91]⟩:ByteArray).data.toList=[91]from rfl,LU]at d;obtain⟨H,F⟩:∃H,H=HV (aS s.data.toList sp):=⟨_,rfl⟩;rw[←F];clear V T J hl;by_cases hh:s.data.toList.head?=some 91
 ·have j:H=HV (hbr s.data.toList.tail):=by rw[F];unfold aS;rw[if_pos hh]
  rw[decide_eq_true hh]at d;have y:=hid d;have h1:1≤s.size:=by
   rw[←z.out];cases e:s.data.toList with
   |nil=>rw[e]at hh;cases hh
   |cons a r=>simp
  have E:(s.extract 1 s.size).data.toList=s.data.toList.tail:=by rw[abZ.xw,List.drop_one]
  obtain⟨X,x⟩:∃X,X=s.extract 1 s.size:=⟨_,rfl⟩;have m:X.size≤1048576:=by rw[x,ByteArray.size_extract];omega
  rw[←x]at E;rw[←E]at j;have a3:=hid (fun w V J=>KQ X w m V J);obtain⟨a,b,i⟩:∃a b,HV (hbr X.data.toList)=.tuple #[a,b]:=by
   cases hbr X.data.toList with
   |none=>exact⟨_,_,rfl⟩
   |some L=>exact⟨_,_,rfl⟩
  have I:=hid i;have G:=hid (j.trans i);have a4:(1:Int)≤(s.size:Int):=by omega
  have a0:=hid x;clear d hh F j E m i hs x;go_enter func97,ntmps97;go_wp2_with fail
  refine(y _).mono ?_;rintro e C ⟨rfl,l⟩;obtain rfl:w=C:=l.symm;go_wp2_with fail
  rw[←a0.out];refine(a3 _ HL HM).mono ?_;rintro e Q ⟨rfl,g⟩;rw[I.out];have n:=hid g;clear g;go_wp2;go_ret2;exact⟨by rw[G.out];rfl,n⟩
 rw[decide_eq_false hh]at d;have y:=hid d;cases sp with
 |true=>
  have j:H=HV (Oq (nN.dec s.data.toList)):=by rw[F];unfold aS;rw[if_neg hh,if_pos rfl]
  obtain⟨X,E⟩:∃X:ByteArray,X=ah (nN.dec s.data.toList):=⟨_,rfl⟩;have D:X.data.toList=nN.dec s.data.toList:=by rw[E];rfl
  have m:X.size≤900000:=by
   rw[E,ak];have:=nN.pU s.data.toList;rw[z.out]at this;omega
  have O:=hid (fun w=>nN.qE s w (by omega));rw[←D]at O;rw[←D]at j;have a1:=hid (fun w T J=>Ot X w m T J);obtain⟨a,b,i⟩:∃a b,HV (Oq X.data.toList)=.tuple #[a,b]:=by
   cases Oq X.data.toList with
   |none=>exact⟨_,_,rfl⟩
   |some L=>exact⟨_,_,rfl⟩
  have I:=hid i;have G:=hid (j.trans i);clear d hh F j E D m i hs;go_enter func97,ntmps97;go_wp2_with fail
  refine(y _).mono ?_;rintro e C ⟨rfl,l⟩;obtain rfl:w=C:=l.symm;go_wp2_with fail
  refine(O _).mono ?_;rintro e Q ⟨v,rfl,B,g⟩;obtain⟨A3,c3,rfl,_,_,A⟩:=aW B;have W:(convert 55 9 (.slice A3 X.size c3)).run prog Q=.ok (.string X) Q:=by
   have h:=bI (P:=prog) 55 9 5 underlying55 underlying5 underlying9 _ c3 A;rw[bF]at h;exact h
  have n:=hid g;clear g B A;go_wp2_with fail
  clear W;refine(a1 _ (cO HT n) (HM.below n)).mono ?_;rintro e w4 ⟨rfl,N⟩;rw[I.out];have a2:=hid (bD n N);clear N;go_wp2;go_ret2;exact⟨by rw[G.out];rfl,a2⟩
 | false=>
  have HH:Hid (H=HV (Rf s.data.toList)):=by show _=_;rw[F];unfold aS;rw[if_neg hh,if_neg (by simp)]
  clear d hh F;go_enter func97,ntmps97;go_wp2_with fail
  refine(y _).mono ?_;rintro e C ⟨rfl,l⟩;obtain rfl:w=C:=l.symm;go_wp2;go_loopw [6] (fun vk wr=>∃k:Nat,k≤s.size∧vk=.int .i64 (k:Int)∧wr=w∧Hid (oks false (s.data.toList.take k)=true)) (fun vk _=>s.size - (intOf vk).toNat)
  case atStart=>exact⟨0,Nat.zero_le _,rfl,rfl,rfl⟩
  case round =>
   obtain⟨k,hk,rfl,rfl,HO⟩:=hrel;by_cases hlt:k<s.size
   ·obtain ⟨c,hc⟩:∃c,s[k]=c:=⟨_,rfl⟩;have q:k<s.data.toList.length:=by rw[z.out];exact hlt
    have t:s.data.toList[k]=c:=hc;cases hf:yS false c with
    |true=>
     have G:Hid (H=.tuple #[.string (ah []),.bool false]):=by
      show _=_;rw[HH.out];unfold Rf;rw[uM false _ k q (by rw[t];unfold okb;rw[hf];rfl)];rfl
     have f:=fun w=>oz c false w;rw[hf]at f;have HF:=hid f;clear q t hf f;go_wp2_with fail
     refine(HF _).mono ?_;rintro e C ⟨rfl,rfl⟩;go_wp2;go_ret2;exact⟨by rw[G.out];rfl,Below.refl _ _⟩
    |false=>
     have HN:Hid (oks false (s.data.toList.take (k+1))=true):=by
      show _=_;rw[jR false _ k q,HO.out,t];unfold okb;rw[hf];rfl
     have f:=fun w=>oz c false w;rw[hf]at f;have HF:=hid f;clear q t hf f;go_wp2_with fail
     refine(HF _).mono ?_;rintro e C ⟨rfl,rfl⟩;go_wp2;go_roundw
     case rel=>exact⟨k+1,by omega,by go_num,by first|rfl|trivial,HN⟩
     case measure=>simp[intOf];omega
   have hO:oks false s.data.toList=true:=by
    have:=HO.out;rw[List.take_of_length_le (by rw[z.out];omega)]at this;exact this
   obtain⟨R,Z⟩:∃R:ByteArray,R=ah (aP.enc 0 s.data.toList):=⟨_,rfl⟩;have G:Hid (H=.tuple #[.string R,.bool true]):=by
    show _=_;rw[HH.out];unfold Rf;rw[if_pos hO,Z];rfl
   have HR:=hid Z;have Y:=fun(w:World) s=>run_bytes_of_string (P:=prog) w 9 55 5 s underlying9 underlying55 underlying5;clear hO Z;go_wp2_with fail
   clear Y;refine(aP.iK 0 _ _ _ s.data.toList _ (kM s _ wr _) (by omega)).mono ?_;rintro e Q ⟨rfl,g⟩;rw[←HR.out];go_wp2;go_ret2;exact⟨by rw[G.out];rfl,bD (((Below.refl wr.heap.size wr).alloc (Nat.le_refl _) _).drew) g⟩
end pJ
namespace rV
open Go.RowKit Base dJ aV jr ig fJ kS jq pJ vJ aC vH pF xR qB pz
def Ry (S x y V D:List UInt8):Option U:=
 if (jZ false V).2.2=true∧(jZ false V).1=[]then none else
 match aS (jZ false V).1 (aj S),prt S (jZ false V).2.1 with
 |some H,some p=>some {U0 with au:=S,bT:=x,bW:=y,aS:=H,hh:=true,port:=p,aF:=aG S D}
 |_,_=>none
theorem Sj (S T:List UInt8):authority S T=if (iV (T.take (upto (aj S) T))).2.2.2=true∧(iV (T.take (upto (aj S) T))).2.2.1=[]then none else Ry S (iV (T.take (upto (aj S) T))).1 (iV (T.take (upto (aj S) T))).2.1 (iV (T.take (upto (aj S) T))).2.2.1 (T.drop (upto (aj S) T)):=rfl
theorem IU {o:Option Int} {e:Ending} (h:abS o e):∃z b,e=.returned (.tuple #[.int .i64 z,.bool b])∧(o=some z∧b=true∨o=none∧b=false):=by
 cases o with
 |some z=>exact⟨z,true,h,.inl ⟨rfl,rfl⟩⟩
 |none=>obtain⟨z,a⟩:=h;exact⟨z,false,a,.inr ⟨rfl,rfl⟩⟩
theorem dZ {L:List UInt8} {n:Nat} (h:L.length≤n):(ah L).size≤n:=by rw[ak];exact h
theorem ay (L:List UInt8):(ah L).toList=L:=by rw[Lib.toList_data];rfl
theorem mX {w w':World} {o:Option U} (a:o=none) (c:Below w.heap.size w w'):kZ w o (.returned (.tuple #[.agg (cells U0 (.slice none 0 0)),.bool false])) w':=
 ⟨c,U0,none,0,0,false,rfl,rJ _ _ rfl,.inr ⟨a,rfl,rfl⟩⟩
theorem dR {w w':World} {o:Option U} {u:U} {A:Option Addr} {n c:Nat} (d:o=some u) (e:Below w.heap.size w w') (a:Own w w' u A n c):kZ w o (.returned (.tuple #[.agg (cells u (.slice A n c)),.bool true])) w':=
 ⟨e,u,A,n,c,true,rfl,a,.inl ⟨d,rfl⟩⟩
theorem oK (b:UInt8):∀L:List UInt8,(aT b L).1.length≤L.length∧(aT b L).2.1.length≤L.length
 |[]=>by simp[aT]
 |c::L=>by
  have h:=oK b L
  unfold aT
  split
  ·simp
  ·simp only[List.length_cons]
   omega
theorem og (S T:List UInt8) (w:World) (hs:T.length≤900000) (hL:pK w) (hT:Tab.Pow w) (hM:Max w):Calls prog 35 #[.string (ah S),.string (ah T)] w (kZ w (authority S T)):=by
 obtain⟨O,hO⟩:∃O,O=authority S T:=⟨_,rfl⟩;rw[←hO];rw[Sj]at hO;obtain⟨X,hX⟩:∃X,X=T.take (upto (aj S) T):=⟨_,rfl⟩;obtain⟨D,hD⟩:∃D,D=T.drop (upto (aj S) T):=⟨_,rfl⟩;have d0:X.length≤900000:=by rw[hX,List.length_take];omega
 have g4:D.length≤900000:=by rw[hD,List.length_drop];omega
 have hU:∀w:World,Calls prog 94 #[.string (ah S),.string (ah T)] w fun e w'=>e=.returned (.tuple #[.string (ah X),.string (ah D)])∧Below w.heap.size w w':=fun w=>by rw[hX,hD];exact Ja (ah S) (ah T) w (dZ (by omega))
 rw[←hX,←hD]at hO;have e4:∀w:World,Calls prog 95 #[.string (ah X),.int .u8 64] w fun e w'=>e=.returned (.int .i64 (Lib.lastIndexByte (ah X) 64))∧w'=w:=fun w=>strings_LastIndexByte (ah X) 64 w (by rw[ak];omega);have f8:∀w:World,Calls prog 32 #[.string (ah S)] w fun e w'=>e=.returned (.bool (aj S))∧w'=w:=fun w=>je (ah S) w;have f9:∀w:World,Calls prog 93 #[.string (ah S),.string (ah D)] w (ku w.heap.size w (aG S D)):=fun w=>uP (ah S) (ah D) w (dZ g4);have HU:=hid hU;have g5:=hid f8;have j3:=hid f9;have HL:=hid hL;have HT:=hid hT;have HM:=hid hM;clear hU f8 f9 hL hT hM hX hD g4 hs;have e0:=TA (ah X);rw[show(ah X).data.toList=X from rfl]at e0;obtain⟨zl,f7⟩:∃z,z=Lib.lastIndexByte (ah X) 64:=⟨_,rfl⟩;rw[←f7]at e4 e0;have j6:=hid e4;have g9:=hid hO;clear e4 f7 hO;go_enter func35,ntmps35;go_upto_region 1 with(fail)
 generalize hw:World.alloc w _=w1;have h1:UB w1 (w.heap.size) (U0) (.slice none 0 0)∧Below w.heap.size w w1:=by
  subst hw;exact iG w _ _
 clear hw;have G:Hid (w.heap.size≤w.heap.size):=(Below.refl w.heap.size w).size;have h8:=hid (bD (Below.refl w.heap.size w) h1.2);have f1:=hid h1.1;clear h1;go_wp2_with fail
 refine(HU _).mono ?_;rintro e y ⟨rfl,f⟩;have b7:=hid (f1.below f);have d5:=hid (bD h8 f);clear f;go_upto_region 3 with(fail)
 generalize hw:World.alloc y _=w3;have h1:UB w3 (y.heap.size) ({U0 with au:=S,hh:=true}) (.slice none 0 0)∧Below y.heap.size y w3:=by
  subst hw;exact iG y _ _
 clear hw;have i2:=b7.lt;have l:Hid (w.heap.size≠y.heap.size):=by show _≠_;omega
 clear i2;have F:Hid (w.heap.size≤y.heap.size):=d5.size;have b6:=hid (b7.below h1.2);have b9:=hid (bD d5 h1.2);have b5:=hid h1.1;clear h1;go_wp2_with fail
 refine(j6 _).mono ?_;rintro e wx ⟨rfl,v⟩;obtain rfl:w3=wx:=by first|exact v|exact v.symm
 clear v;rcases e0 with⟨rfl,hl⟩|⟨k,hk,rfl,hl⟩
 focus
  obtain⟨V,hV⟩:∃V,V=X:=⟨_,rfl⟩;obtain⟨xe,a2⟩:∃x:List UInt8,x=[]:=⟨_,rfl⟩;obtain⟨ye,a1⟩:∃x:List UInt8,x=[]:=⟨_,rfl⟩;have g7:Hid (O=Ry S xe ye V D):=by show _=_;rw[a2,a1,g9.out,show iV X=([],[],X,false)by unfold iV;rw[hl],hV];rfl
  have i9:V.length≤900000:=by rw[hV];exact d0
  rw[←hV];clear hl d0;subst hV;have a3:Hid (UB w3 y.heap.size {U0 with au:=S,bT:=xe,bW:=ye,hh:=true} (.slice none 0 0)):=by show UB _ _ _ _;rw[a2,a1];exact b5
  clear a2 a1;obtain⟨w8,rfl⟩:∃x,x=w3:=⟨_,rfl⟩;have Q:=b6;have b8:=b9
 rotate_left
 focus
  rw[ak]at hk;obtain⟨E,hE⟩:∃E,E=X.take k:=⟨_,rfl⟩;obtain⟨V,hV⟩:∃V,V=X.drop (k+1):=⟨_,rfl⟩;have i9:V.length≤900000:=by rw[hV,List.length_drop];omega
  have j1:E.length≤900000:=by rw[hE,List.length_take];omega
  obtain⟨N,P2,bb,hc⟩:∃N P2 b,aT 58 E=(N,P2,b):=⟨_,_,_,rfl⟩;have j0:N.length≤900000∧P2.length≤900000:=by have h:=oK 58 E;rw[hc]at h;simp only at h;omega
  have hC:∀w:World,Max w→Calls prog 22 #[.string (ah E),.string ⟨#[58]⟩] w fun e w'=>e=.returned (.tuple #[.string (ah N),.string (ah P2),.bool bb])∧Below w.heap.size w w':=fun w ⟨m,hm⟩=>(strings_Cut (ah E) ⟨#[58]⟩ m w (by rw[ak];omega) hm).mono fun e w' ⟨h1,q,h2⟩=>⟨by rw[h1,show(ah E).data.toList=E from rfl,show(⟨#[58]⟩:ByteArray).data.toList=[58]from rfl,vX,hc];rfl,by rw[h2];exact Base.below_drewN (Below.refl _ _) _⟩;have HC:=hid hC;have h9:(ah X).extract 0 k=ah E:=by rw[F7,hE];rfl
  have d8:(ah X).extract (k+1) (ah X).size=ah V:=by rw[kY,hV];rfl
  have g1:iV X=(aP.enc 5 N,aP.enc 5 P2,V,true):=by unfold iV;rw[hl];simp only;rw[←hE,←hV,hc]
  have hO:=g9.out;rw[g1]at hO;simp only at hO;have i5:(k:Int)≤((ah X).size:Int):=by rw[ak];omega
  have i4:(k:Int)+1≤((ah X).size:Int):=by rw[ak];omega
  have i7:¬(k:Int)<0:=by omega
  have i6:(0:Int)≤(k:Int):=by omega
  have i3:((k:Int)+1).toNat=k+1:=by omega
  have i8:(ah X).size≤900000:=dZ d0;have HO:=hid hO;have j2:=hid d8;clear hC g1 hO hE hV hc hl;go_wp2_with fail
  refine(HC _ (HM.below b9)).mono ?_;rintro e w4 ⟨rfl,f⟩;have f0:=hid (b6.below f);have e6:=hid (b5.below f);have h7:=hid (bD b9 f);clear f;clear h9;have e3:=fun(w:World) s=>run_bytes_of_string (P:=prog) w 9 55 5 s underlying9 underlying55 underlying5;go_wp2_with fail
  clear e3;refine(aP.iK 5 _ _ _ N _ (kM (ah N) _ _ _) (dZ (by omega))).mono ?_;rintro e w5 ⟨rfl,b0⟩;have f:Below w4.heap.size w4 w5:=bD (((Below.refl w4.heap.size w4).alloc (Nat.le_refl _) _).drew) b0;clear b0;have e9:=hid (f0.below f);have a5:=hid (e6.below f);have h6:=hid (bD h7 f);clear f;have cx:=a5.facts.2.1;have fx:=a5.thaw.2.1;go_upto_region 7 with(fail)
  have j:=e9.set (k:=y.heap.size) (i:=1) (.string (ah (aP.enc 5 N))) (l);have g:=a5.bT (aP.enc 5 N);have C:=h6.setCell (p:=⟨y.heap.size,1,none⟩) (F) (.string (ah (aP.enc 5 N)));clear cx fx;generalize World.setCell w5 _ _=w6 at j g C⊢;have e8:Hid (UB w6 (w.heap.size) (U0) (.slice none 0 0)):=j;clear j;have e5:Hid (UB w6 (y.heap.size) ({U0 with au:=S,hh:=true,bT:=aP.enc 5 N}) (.slice none 0 0)):=g;clear g;have h5:=hid C;clear C;have e3:=fun(w:World) s=>run_bytes_of_string (P:=prog) w 9 55 5 s underlying9 underlying55 underlying5;go_wp2_with fail
  clear e3;refine(aP.iK 5 _ _ _ P2 _ (kM (ah P2) _ _ _) (dZ (by omega))).mono ?_;rintro e w7 ⟨rfl,b0⟩;have f:Below w6.heap.size w6 w7:=bD (((Below.refl w6.heap.size w6).alloc (Nat.le_refl _) _).drew) b0;clear b0;have e7:=hid (e8.below f);have a4:=hid (e5.below f);have h4:=hid (bD h5 f);clear f;have cx:=a4.facts.2.2.1;have fx:=a4.thaw.2.2.1;go_upto_region 8 with(fail)
  have j:=e7.set (k:=y.heap.size) (i:=2) (.string (ah (aP.enc 5 P2))) (l);have g:=a4.bW (aP.enc 5 P2);have C:=h4.setCell (p:=⟨y.heap.size,2,none⟩) (F) (.string (ah (aP.enc 5 P2)));clear cx fx;generalize World.setCell w7 _ _=w8 at j g C⊢;have Q:Hid (UB w8 (w.heap.size) (U0) (.slice none 0 0)):=j;clear j;have a3:Hid (UB w8 (y.heap.size) ({U0 with au:=S,hh:=true,bT:=aP.enc 5 N,bW:=aP.enc 5 P2}) (.slice none 0 0)):=g;clear g;have b8:=hid C;clear C;have d8:=j2.out;by_cases h0:V=[]
  ·
   have a6:Hid (O=none):=by show _=_;rw[HO.out,if_pos ⟨by first|rfl|trivial,h0⟩]
   have q0:((ah V).toList==[])=true:=by rw[ay,h0];rfl
   have q1:(ah V).toList=[]:=by rw[ay,h0]
   clear h0;go_wp2_with (refine aJ Q U0 none 0 0 (.tmp 4) (.tmp 52) rfl rfl rfl rfl ?_)
   exact bodyPost_ret (gY rfl (Q.row U0 _) false _ rfl rfl) rfl (mX a6 (below_setRow b8 G _))
  obtain⟨xe,a2⟩:∃x,x=aP.enc 5 N:=⟨_,rfl⟩;obtain⟨ye,a1⟩:∃x,x=aP.enc 5 P2:=⟨_,rfl⟩;have g7:Hid (O=Ry S xe ye V D):=by show _=_;rw[HO.out,if_neg (fun h=>h0 h.2),a2,a1]
  have q0:((ah V).toList==[])=false:=by rw[ay,beq_eq_false_iff_ne];exact h0
  have q1:¬(ah V).toList=[]:=by rw[ay];exact h0
  have q2:(ah V).toList.isEmpty=false:=by rw[ay];simpa using h0
  rw[←a2,←a1]at a3;clear h0 a2 a1;go_upto_region 11 with(fail)
  clear q0 q1 q2 d8 i5 i4 i7 i6 i3 i8 d0 j1 j0
 all_goals
  obtain⟨H1,H2,c,hh⟩:∃H1 H2 c,jZ false V=(H1,H2,c):=⟨_,_,_,rfl⟩;have e2:=(DL V false).1;have e1:=(DL V false).2;rw[hh]at e2 e1;simp only at e2 e1;have g0:∀w:World,Calls prog 96 #[.string (ah V)] w fun e w'=>e=.returned (.tuple #[.string (ah H1),.string (ah H2),.bool c])∧Below w.heap.size w w':=fun w=>by
   have h:=Dv (ah V) w (dZ (by omega));rw[show(ah V).data.toList=V from rfl,hh]at h;exact h
  have j7:=hid g0;have g3:O=if c=true∧H1=[]then none else match aS H1 (aj S),prt S H2 with|some H,some p=>some {U0 with au:=S,bT:=xe,bW:=ye,aS:=H,hh:=true,port:=p,aF:=aG S D}|_,_=>none:=by
   rw[g7.out];unfold Ry;rw[hh];first|done|rfl
  have hH:∀w:World,pK w→Tab.Pow w→Max w→Calls prog 97 #[.string (ah H1),.bool (aj S)] w fun e w'=>e=.returned (HV (aS H1 (aj S)))∧Below w.heap.size w w':=fun w a b d=>pJ.jS (ah H1) (aj S) w (dZ (by omega)) a b d;have g2:∀w:World,Calls prog 98 #[.string (ah S),.string (ah H2)] w fun e w'=>abS (prt S H2) e∧w'=w:=fun w=>Xh (ah S) (ah H2) w (dZ (by omega));have HH:=hid hH;have g6:=hid g2;have f3:=hid g3;clear g0 e2 e1 hh hH g2 g3;go_wp2_with fail
  refine(j7 _).mono ?_;rintro e w9 ⟨rfl,f⟩;have L:=hid (Q.below f);have b3:=hid (a3.below f);have B:=hid (bD b8 f);clear f;cases c;focus
   have f2:Hid (O=match aS H1 (aj S),prt S H2 with|some H,some p=>some {U0 with au:=S,bT:=xe,bW:=ye,aS:=H,hh:=true,port:=p,aF:=aG S D}|_,_=>none):=by show _=_;rw[f3.out,if_neg (by simp)]
   go_wp2_with fail
   refine(g5 _).mono ?_;rintro e wx ⟨rfl,v⟩;obtain rfl:w9=wx:=by first|exact v|exact v.symm
   clear v
  rotate_left
  focus
   by_cases h0:H1=[]
   ·
    have a6:Hid (O=none):=by show _=_;rw[f3.out,if_pos ⟨rfl,h0⟩]
    have q0:((ah H1).toList==[])=true:=by rw[ay,h0];rfl
    have q1:(ah H1).toList=[]:=by rw[ay,h0]
    clear h0;go_wp2_with (refine aJ L U0 none 0 0 (.tmp 4) (.tmp 64) rfl rfl rfl rfl ?_)
    exact bodyPost_ret (gY rfl (L.row U0 _) false _ rfl rfl) rfl (mX a6 (below_setRow B G _))
   have f2:Hid (O=match aS H1 (aj S),prt S H2 with|some H,some p=>some {U0 with au:=S,bT:=xe,bW:=ye,aS:=H,hh:=true,port:=p,aF:=aG S D}|_,_=>none):=by show _=_;rw[f3.out,if_neg (fun h=>h0 h.2)]
   have q0:((ah H1).toList==[])=false:=by rw[ay,beq_eq_false_iff_ne];exact h0
   have q1:¬(ah H1).toList=[]:=by rw[ay];exact h0
   have q2:(ah H1).toList.isEmpty=false:=by rw[ay];simpa using h0
   clear h0;go_wp2_with fail
   refine(g5 _).mono ?_;rintro e wx ⟨rfl,v⟩;obtain rfl:w9=wx:=by first|exact v|exact v.symm
   clear v
  rotate_left
  all_goals
   cases hx:aS H1 (aj S)with
   |none=>
    have a6:Hid (O=none):=by show _=_;rw[f2.out,hx]
    rw[hx]at HH;clear hx;go_wp2_with fail
    refine(HH _ (HL.below B) (cO HT B) (HM.below B)).mono ?_;rintro e d6 ⟨rfl,f⟩;have Y:=hid (L.below f);have r:=hid (b3.below f);have a8:=hid (bD B f);clear f;rw[show HV none=.tuple #[.string (ah []),.bool false]from rfl];have cx:=r.facts.2.2.2.1;have fx:=r.thaw.2.2.2.1;go_upto_region 16 with(fail)
    have j:=Y.set (k:=y.heap.size) (i:=3) (.string (ah [])) (l);have g:=r.aS [];have C:=a8.setCell (p:=⟨y.heap.size,3,none⟩) (F) (.string (ah []));clear cx fx;generalize World.setCell d6 _ _=w11 at j g C⊢;have W:Hid (UB w11 (w.heap.size) (U0) (.slice none 0 0)):=j;clear j;have n:Hid (UB w11 (y.heap.size) ({U0 with au:=S,bT:=xe,bW:=ye,hh:=true,aS:=[]}) (.slice none 0 0)):=g;clear g;have a7:=hid C;clear C;go_wp2_with fail
    refine(g6 _).mono ?_;rintro e wx ⟨hv,v⟩;obtain rfl:w11=wx:=v.symm;clear v;obtain⟨z,ok,rfl,d7⟩:=IU hv;clear hv;have cx:=n.facts.2.2.2.2.2.1;have fx:=n.thaw.2.2.2.2.2.1;go_upto_region 17 with(fail)
    have j:=W.set (k:=y.heap.size) (i:=5) (.int .i64 z) (l);have g:=n.port z;have C:=a7.setCell (p:=⟨y.heap.size,5,none⟩) (F) (.int .i64 z);clear cx fx;generalize World.setCell w11 _ _=w12 at j g C⊢;have t:Hid (UB w12 (w.heap.size) (U0) (.slice none 0 0)):=j;clear j;have J:Hid (UB w12 (y.heap.size) ({U0 with au:=S,bT:=xe,bW:=ye,hh:=true,aS:=[],port:=z}) (.slice none 0 0)):=g;clear g;have Z:=hid C;clear C;clear d7;go_wp2_with (refine aJ t U0 none 0 0 (.tmp 4) (.tmp 86) rfl rfl rfl rfl ?_)
    exact bodyPost_ret (gY rfl (t.row U0 _) false _ rfl rfl) rfl (mX a6 (below_setRow Z G _))
   |some R=>
    have g8:Hid (O=match prt S H2 with|some p=>some {U0 with au:=S,bT:=xe,bW:=ye,aS:=R,hh:=true,port:=p,aF:=aG S D}|none=>none):=by show _=_;rw[f2.out,hx];cases prt S H2<;>rfl
    rw[hx]at HH;clear hx;go_wp2_with fail
    refine(HH _ (HL.below B) (cO HT B) (HM.below B)).mono ?_;rintro e d6 ⟨rfl,f⟩;have Y:=hid (L.below f);have r:=hid (b3.below f);have a8:=hid (bD B f);clear f;rw[show HV (some R)=.tuple #[.string (ah R),.bool true]from rfl];have cx:=r.facts.2.2.2.1;have fx:=r.thaw.2.2.2.1;go_upto_region 16 with(fail)
    have j:=Y.set (k:=y.heap.size) (i:=3) (.string (ah R)) (l);have g:=r.aS R;have C:=a8.setCell (p:=⟨y.heap.size,3,none⟩) (F) (.string (ah R));clear cx fx;generalize World.setCell d6 _ _=w11 at j g C⊢;have W:Hid (UB w11 (w.heap.size) (U0) (.slice none 0 0)):=j;clear j;have n:Hid (UB w11 (y.heap.size) ({U0 with au:=S,bT:=xe,bW:=ye,hh:=true,aS:=R}) (.slice none 0 0)):=g;clear g;have a7:=hid C;clear C;go_wp2_with fail
    refine(g6 _).mono ?_;rintro e wx ⟨hv,v⟩;obtain rfl:w11=wx:=v.symm;clear v;obtain⟨z,ok,rfl,d7⟩:=IU hv;clear hv;have cx:=n.facts.2.2.2.2.2.1;have fx:=n.thaw.2.2.2.2.2.1;go_upto_region 17 with(fail)
    have j:=W.set (k:=y.heap.size) (i:=5) (.int .i64 z) (l);have g:=n.port z;have C:=a7.setCell (p:=⟨y.heap.size,5,none⟩) (F) (.int .i64 z);clear cx fx;generalize World.setCell w11 _ _=w12 at j g C⊢;have t:Hid (UB w12 (w.heap.size) (U0) (.slice none 0 0)):=j;clear j;have J:Hid (UB w12 (y.heap.size) ({U0 with au:=S,bT:=xe,bW:=ye,hh:=true,aS:=R,port:=z}) (.slice none 0 0)):=g;clear g;have Z:=hid C;clear C;rcases d7 with⟨hz,rfl⟩|⟨hz,rfl⟩
    ·
     have j4:Hid (O=some {U0 with au:=S,bT:=xe,bW:=ye,aS:=R,hh:=true,port:=z,aF:=aG S D}):=by show _=_;rw[g8.out,hz]
     clear hz;go_wp2_with fail
     refine(j3 _).mono ?_;rintro e f6 ⟨q,rfl,a0,f⟩;obtain⟨A,c2,rfl,hq⟩:=cZ (u:={U0 with aF:=aG S D}) a0;clear hq;replace a0:=aI a0 (Nat.le_refl _);have j5:Hid (y.heap.size<w12.heap.size):=J.lt;have h3:Hid (w.heap.size<w12.heap.size):=t.lt;have d2:=hid (t.below f);have I:=hid (J.below f);have f5:=hid (bD Z f);have d4:=hid a0;clear a0;clear f;have i1:=j5.out;have cx:=I.facts.2.2.2.2.2.2.2.2.1;have fx:=I.thaw.2.2.2.2.2.2.2.2.1;go_upto_region 20 with(fail)
     have j:=d2.set (k:=y.heap.size) (i:=8) (.slice A (aG S D).length c2) (l);have g:=I.path (.slice A (aG S D).length c2);have d9:=fH.aQ (w':=f6.setCell ⟨y.heap.size,8,none⟩ (.slice A (aG S D).length c2)) (gb:=y.heap.size) d4 (fun k hk=>heap_setCell_other _ _ _ _ hk) (by omega);have C:=f5.setCell (p:=⟨y.heap.size,8,none⟩) (F) (.slice A (aG S D).length c2);clear cx fx;generalize World.setCell f6 _ _=w14 at j g d9 C⊢;have a9:Hid (UB w14 (w.heap.size) (U0) (.slice none 0 0)):=j;clear j;have d1:Hid (UB w14 (y.heap.size) ({U0 with au:=S,bT:=xe,bW:=ye,hh:=true,aS:=R,port:=z}) (.slice A (aG S D).length c2)):=g;clear g;have d3:=hid d9;clear d9;have f4:=hid C;clear C;clear i1;obtain⟨c0,c1,j8,c3,c4,c5,c6,c7,c8,c9,k1,k0,j9⟩:=d1.facts;go_wp2_with (refine aJ a9 {U0 with au:=S,bT:=xe,bW:=ye,hh:=true,aS:=R,port:=z} A (aG S D).length c2 (.tmp 4) (.tmp 91) rfl rfl rfl rfl ?_)
     have i0:∀k,k≠w.heap.size→(World.setRow w14 (w.heap.size) (cells {U0 with au:=S,bT:=xe,bW:=ye,hh:=true,aS:=R,port:=z} (.slice A (aG S D).length c2))).heap[k]?=w14.heap[k]?:=fun k hk=>setRow_other _ _ _ _ hk;have ho:=aI (fH.aQ d3 i0 h3) (by have h1:=G.out;have h2:=h3.out;omega:w.heap.size≤_);exact bodyPost_ret (gY rfl (a9.row {U0 with au:=S,bT:=xe,bW:=ye,hh:=true,aS:=R,port:=z} _) true _ rfl rfl) rfl (dR (u:={U0 with au:=S,bT:=xe,bW:=ye,aS:=R,hh:=true,port:=z,aF:=aG S D}) j4 (below_setRow f4 G _) ho)
    ·
     have a6:Hid (O=none):=by show _=_;rw[g8.out,hz]
     clear hz;go_wp2_with (refine aJ t U0 none 0 0 (.tmp 4) (.tmp 86) rfl rfl rfl rfl ?_)
     exact bodyPost_ret (gY rfl (t.row U0 _) false _ rfl rfl) rfl (mX a6 (below_setRow Z G _))
end rV
namespace U1
open Go.RowKit Base dJ aV iy sK Jf jr ig kS jq pJ vJ aC vH qB pz rV
theorem uU (L:List UInt8) (w:World):Calls prog 36 #[.string (ah L),.string (cs true)] w fun e w'=>e=.returned (.string (ah (L.dropWhile (bU true))))∧Below w.heap.size w w':=by
 refine(strings_TrimLeft_set (ah L) (cs true) w (by decide) (fun j b h=>?_)).mono ?_
 ·have:b ∈ [47,92]:=List.mem_of_getElem? h;simp only[List.mem_cons,List.not_mem_nil,or_false]at this;rcases this with rfl|rfl<;>decide
 rintro e d ⟨rfl,a⟩;refine⟨?_,a⟩;rw[show(ah L).data.toList=L from rfl,show(cs true).data.toList=[47,92]from rfl];unfold Lib.trimLeftS;congr 3;have:(fun c=>[47,92].contains c)=bU true:=by
  funext c
  simp[bU]
 rw[this]
theorem Qw (T:List UInt8) (w:World) (hs:T.length≤900000) (hL:pK w) (hT:Tab.Pow w) (hM:Max w):Calls prog 84 #[.string (ah T)] w (kZ w (far T)):=by
 obtain⟨O,hO⟩:∃O,O=far T:=⟨_,rfl⟩;rw[←hO];obtain⟨X,hX⟩:∃X,X=T.take (upto true T):=⟨_,rfl⟩;obtain⟨D,hD⟩:∃D,D=T.drop (upto true T):=⟨_,rfl⟩;have d0:X.length≤900000:=by rw[hX,List.length_take];omega
 have a9:D.length≤900000:=by rw[hD,List.length_drop];omega
 have hU:∀w:World,Calls prog 94 #[.string ⟨#[102,105,108,101]⟩,.string (ah T)] w fun e w'=>e=.returned (.tuple #[.string (ah X),.string (ah D)])∧Below w.heap.size w w':=fun w=>by rw[hX,hD];exact Ja (ah aB) (ah T) w (dZ (by omega))
 unfold far at hO;rw[←hX,←hD]at hO;have HO:=hid hO;have HU:=hid hU;have a7:Hid (∀w:World,Calls prog 132 #[.string (ah X)] w fun e w'=>e=.returned (.bool (mO X))∧w=w'):=fun w=>jM (ah X) w;have a6:Hid (∀(L:List UInt8) (w:World),L.length≤900000→Calls prog 93 #[.string ⟨#[102,105,108,101]⟩,.string (ah L)] w (ku w.heap.size w (aG aB L))):=fun L w h=>uP (ah aB) (ah L) w (dZ h);have HH:Hid (∀w:World,pK w→Tab.Pow w→Max w→Calls prog 97 #[.string (ah X),.bool true] w fun e w'=>e=.returned (HV (aS X true))∧Below w.heap.size w w'):=fun w a b d=>pJ.jS (ah X) true w (dZ d0) a b d;have HL:=hid hL;have HT:=hid hT;have HM:=hid hM;clear hO hU hX hD hL hT hM d0;go_enter func84,ntmps84;go_upto_region 1 with(fail)
 generalize hw:World.alloc w _=w1;have h1:UB w1 (w.heap.size) (U0) (.slice none 0 0)∧Below w.heap.size w w1:=by
  subst hw;exact iG w _ _
 clear hw;have z:Hid (w.heap.size≤w.heap.size):=(Below.refl w.heap.size w).size;have a8:=hid (bD (Below.refl w.heap.size w) h1.2);have a4:=hid h1.1;clear h1;go_upto_region 2 with(fail)
 generalize hw:World.alloc w1 _=w2;have h1:UB w2 (w1.heap.size) (uF) (.slice none 0 0)∧Below w1.heap.size w1 w2:=by
  subst hw;exact iG w1 _ _
 clear hw;have d6:=a4.lt;have y:Hid (w.heap.size≠w1.heap.size):=by show _≠_;omega
 clear d6;have Q:Hid (w.heap.size≤w1.heap.size):=a8.size;have b9:=hid (a4.below h1.2);have d5:=hid (bD a8 h1.2);have b8:=hid h1.1;clear h1;go_wp2_with fail
 refine(HU _).mono ?_;rintro e w3 ⟨rfl,f⟩;have A:=hid (b9.below f);have E:=hid (b8.below f);have s:=hid (bD d5 f);clear f;cases hd:mO X with
 |true=>
  have a1:Hid (O=some {uF with aF:=aG aB T}):=by show _=_;rw[HO.out,if_pos hd]
  rw[hd]at a7;clear hd;go_wp2_with fail
  refine(a7 _).mono ?_;rintro e wx ⟨rfl,V⟩;obtain rfl:w3=wx:=by first|exact V|exact V.symm
  clear V;go_wp2_with fail
  refine(a6 T _ hs).mono ?_;rintro e w4 ⟨q,rfl,c,f⟩;obtain⟨x,v,rfl,hq⟩:=cZ (u:={U0 with aF:=aG aB T}) c;clear hq;replace c:=aI c (Nat.le_refl _);have a2:Hid (w1.heap.size<w3.heap.size):=E.lt;have G:Hid (w.heap.size<w3.heap.size):=A.lt;have m:=hid (A.below f);have g:=hid (E.below f);have B:=hid (bD s f);have a0:=hid c;clear c;clear f;have Y:=a2.out;have cx:=g.facts.2.2.2.2.2.2.2.2.1;have fx:=g.thaw.2.2.2.2.2.2.2.2.1;go_upto_region 12 with(fail)
  have r:=m.set (k:=w1.heap.size) (i:=8) (.slice x (aG aB T).length v) (y);have n:=g.path (.slice x (aG aB T).length v);have t:=fH.aQ (w':=w4.setCell ⟨w1.heap.size,8,none⟩ (.slice x (aG aB T).length v)) (gb:=w1.heap.size) a0 (fun k hk=>heap_setCell_other _ _ _ _ hk) (by omega);have J:=B.setCell (p:=⟨w1.heap.size,8,none⟩) (Q) (.slice x (aG aB T).length v);clear cx fx;generalize World.setCell w4 _ _=P at r n t J⊢;have l:Hid (UB P (w.heap.size) (U0) (.slice none 0 0)):=r;clear r;have j:Hid (UB P (w1.heap.size) (uF) (.slice x (aG aB T).length v)):=n;clear n;have F:=hid t;clear t;have I:=hid J;clear J;clear Y;obtain⟨c0,c1,b0,c3,c4,c5,c6,c7,c8,c9,b6,b5,b3⟩:=j.facts;go_wp2_with (refine aJ l (uF) x (aG aB T).length v (.tmp 2) (.tmp 35) rfl rfl rfl rfl ?_)
  have W:∀k,k≠w.heap.size→(World.setRow P (w.heap.size) (cells (uF) (.slice x (aG aB T).length v))).heap[k]?=P.heap[k]?:=fun k hk=>setRow_other _ _ _ _ hk;have ho:=aI (fH.aQ F W G) (by have h1:=z.out;have h2:=G.out;omega:w.heap.size≤_);exact bodyPost_ret (gY rfl (l.row (uF) _) true _ rfl rfl) rfl (dR (u:={uF with aF:=aG aB T}) a1 (below_setRow I z _) ho)
 | false=>
  have d3:Hid (O=if X=[]then some {uF with aF:=aG aB D}else match aS X true with|none=>none|some H=>some {uF with aS:=if H=LOCAL then[]else H,aF:=aG aB D}):=by show _=_;rw[HO.out,if_neg (by rw[hd];simp)];first|done|rfl
  rw[hd]at a7;clear hd;go_wp2_with fail
  refine(a7 _).mono ?_;rintro e wx ⟨rfl,V⟩;obtain rfl:w3=wx:=by first|exact V|exact V.symm
  clear V;by_cases h0:X=[]
  ·
   have a1:Hid (O=some {uF with aF:=aG aB D}):=by show _=_;rw[d3.out,if_pos h0]
   have q0:((ah X).toList==[])=true:=by rw[ay,h0];rfl
   have q1:(ah X).toList=[]:=by rw[ay,h0]
   clear h0;go_wp2_with fail
   refine(a6 D _ a9).mono ?_;rintro e w4 ⟨q,rfl,c,f⟩;obtain⟨x,v,rfl,hq⟩:=cZ (u:={U0 with aF:=aG aB D}) c;clear hq;replace c:=aI c (Nat.le_refl _);have a2:Hid (w1.heap.size<w3.heap.size):=E.lt;have G:Hid (w.heap.size<w3.heap.size):=A.lt;have m:=hid (A.below f);have g:=hid (E.below f);have B:=hid (bD s f);have a0:=hid c;clear c;clear f;have Y:=a2.out;have cx:=g.facts.2.2.2.2.2.2.2.2.1;have fx:=g.thaw.2.2.2.2.2.2.2.2.1;go_upto_region 12 with(fail)
   have r:=m.set (k:=w1.heap.size) (i:=8) (.slice x (aG aB D).length v) (y);have n:=g.path (.slice x (aG aB D).length v);have t:=fH.aQ (w':=w4.setCell ⟨w1.heap.size,8,none⟩ (.slice x (aG aB D).length v)) (gb:=w1.heap.size) a0 (fun k hk=>heap_setCell_other _ _ _ _ hk) (by omega);have J:=B.setCell (p:=⟨w1.heap.size,8,none⟩) (Q) (.slice x (aG aB D).length v);clear cx fx;generalize World.setCell w4 _ _=P at r n t J⊢;have l:Hid (UB P (w.heap.size) (U0) (.slice none 0 0)):=r;clear r;have j:Hid (UB P (w1.heap.size) (uF) (.slice x (aG aB D).length v)):=n;clear n;have F:=hid t;clear t;have I:=hid J;clear J;clear Y;obtain⟨c0,c1,b0,c3,c4,c5,c6,c7,c8,c9,b6,b5,b3⟩:=j.facts;go_wp2_with (refine aJ l (uF) x (aG aB D).length v (.tmp 2) (.tmp 35) rfl rfl rfl rfl ?_)
   have W:∀k,k≠w.heap.size→(World.setRow P (w.heap.size) (cells (uF) (.slice x (aG aB D).length v))).heap[k]?=P.heap[k]?:=fun k hk=>setRow_other _ _ _ _ hk;have ho:=aI (fH.aQ F W G) (by have h1:=z.out;have h2:=G.out;omega:w.heap.size≤_);exact bodyPost_ret (gY rfl (l.row (uF) _) true _ rfl rfl) rfl (dR (u:={uF with aF:=aG aB D}) a1 (below_setRow I z _) ho)
  ·
   have d2:Hid (O=match aS X true with|none=>none|some H=>some {uF with aS:=if H=LOCAL then[]else H,aF:=aG aB D}):=by show _=_;rw[d3.out,if_neg h0]
   have q0:((ah X).toList==[])=false:=by rw[ay,beq_eq_false_iff_ne];exact h0
   have q1:¬(ah X).toList=[]:=by rw[ay];exact h0
   have q2:(ah X).toList.isEmpty=false:=by rw[ay];simpa using h0
   clear h0;cases hx:aS X true with
   |none=>
    have d7:Hid (O=none):=by show _=_;rw[d2.out,hx]
    rw[hx]at HH;clear hx;go_wp2_with fail
    refine(HH _ (HL.below s) (cO HT s) (HM.below s)).mono ?_;rintro e w4 ⟨rfl,f⟩;have m:=hid (A.below f);have B:=hid (bD s f);clear f;rw[show HV none=.tuple #[.string (ah []),.bool false]from rfl];go_wp2_with (refine aJ m U0 none 0 0 (.tmp 2) (.tmp 27) rfl rfl rfl rfl ?_)
    exact bodyPost_ret (gY rfl (m.row U0 _) false _ rfl rfl) rfl (mX d7 (below_setRow B z _))
   |some H=>
    have d1:Hid (O=some {uF with aS:=if H=LOCAL then[]else H,aF:=aG aB D}):=by show _=_;rw[d2.out,hx]
    rw[hx]at HH;clear hx;go_wp2_with fail
    refine(HH _ (HL.below s) (cO HT s) (HM.below s)).mono ?_;rintro e w4 ⟨rfl,f⟩;have m:=hid (A.below f);have g:=hid (E.below f);have B:=hid (bD s f);clear f;rw[show HV (some H)=.tuple #[.string (ah H),.bool true]from rfl]
    skip
    by_cases hl:H=LOCAL
    ·
     have a1:Hid (O=some {uF with aF:=aG aB D}):=by show _=_;rw[d1.out,if_pos hl];rfl
     have l0:((ah H).toList==[108,111,99,97,108,104,111,115,116])=true:=by rw[ay,hl];rfl
     have l1:(ah H).toList=[108,111,99,97,108,104,111,115,116]:=by rw[ay,hl];rfl
     clear hl;go_wp2_with fail
     refine(a6 D _ a9).mono ?_;rintro e P ⟨q,rfl,c,f⟩;obtain⟨x,v,rfl,hq⟩:=cZ (u:={U0 with aF:=aG aB D}) c;clear hq;replace c:=aI c (Nat.le_refl _);have a2:Hid (w1.heap.size<w4.heap.size):=g.lt;have G:Hid (w.heap.size<w4.heap.size):=m.lt;have l:=hid (m.below f);have j:=hid (g.below f);have I:=hid (bD B f);have F:=hid c;clear c;clear f;have Y:=a2.out;have cx:=j.facts.2.2.2.2.2.2.2.2.1;have fx:=j.thaw.2.2.2.2.2.2.2.2.1;go_upto_region 12 with(fail)
     have r:=l.set (k:=w1.heap.size) (i:=8) (.slice x (aG aB D).length v) (y);have n:=j.path (.slice x (aG aB D).length v);have t:=fH.aQ (w':=P.setCell ⟨w1.heap.size,8,none⟩ (.slice x (aG aB D).length v)) (gb:=w1.heap.size) F (fun k hk=>heap_setCell_other _ _ _ _ hk) (by omega);have J:=I.setCell (p:=⟨w1.heap.size,8,none⟩) (Q) (.slice x (aG aB D).length v);clear cx fx;generalize World.setCell P _ _=w6 at r n t J⊢;have N:Hid (UB w6 (w.heap.size) (U0) (.slice none 0 0)):=r;clear r;have C:Hid (UB w6 (w1.heap.size) (uF) (.slice x (aG aB D).length v)):=n;clear n;have Z:=hid t;clear t;have a5:=hid J;clear J;clear Y;obtain⟨c0,c1,b0,c3,c4,c5,c6,c7,c8,c9,b6,b5,b3⟩:=C.facts;go_wp2_with (refine aJ N (uF) x (aG aB D).length v (.tmp 2) (.tmp 35) rfl rfl rfl rfl ?_)
     have W:∀k,k≠w.heap.size→(World.setRow w6 (w.heap.size) (cells (uF) (.slice x (aG aB D).length v))).heap[k]?=w6.heap[k]?:=fun k hk=>setRow_other _ _ _ _ hk;have ho:=aI (fH.aQ Z W G) (by have h1:=z.out;have h2:=G.out;omega:w.heap.size≤_);exact bodyPost_ret (gY rfl (N.row (uF) _) true _ rfl rfl) rfl (dR (u:={uF with aF:=aG aB D}) a1 (below_setRow a5 z _) ho)
    ·
     have a1:Hid (O=some {uF with aS:=H,aF:=aG aB D}):=by show _=_;rw[d1.out,if_neg hl]
     have l0:((ah H).toList==[108,111,99,97,108,104,111,115,116])=false:=by rw[ay,beq_eq_false_iff_ne];exact hl
     have l1:¬(ah H).toList=[108,111,99,97,108,104,111,115,116]:=by rw[ay];exact hl
     clear hl;have cx:=g.facts.2.2.2.1;have fx:=g.thaw.2.2.2.1;go_upto_region 11 with(fail)
     have r:=m.set (k:=w1.heap.size) (i:=3) (.string (ah H)) (y);have n:=g.aS H;have J:=B.setCell (p:=⟨w1.heap.size,3,none⟩) (Q) (.string (ah H));clear cx fx;generalize World.setCell w4 _ _=P at r n J⊢;have l:Hid (UB P (w.heap.size) (U0) (.slice none 0 0)):=r;clear r;have j:Hid (UB P (w1.heap.size) ({uF with aS:=H}) (.slice none 0 0)):=n;clear n;have I:=hid J;clear J;go_wp2_with fail
     refine(a6 D _ a9).mono ?_;rintro e w6 ⟨q,rfl,c,f⟩;obtain⟨x,v,rfl,hq⟩:=cZ (u:={U0 with aF:=aG aB D}) c;clear hq;replace c:=aI c (Nat.le_refl _);have a2:Hid (w1.heap.size<P.heap.size):=j.lt;have G:Hid (w.heap.size<P.heap.size):=l.lt;have N:=hid (l.below f);have C:=hid (j.below f);have a5:=hid (bD I f);have Z:=hid c;clear c;clear f;have Y:=a2.out;have cx:=C.facts.2.2.2.2.2.2.2.2.1;have fx:=C.thaw.2.2.2.2.2.2.2.2.1;go_upto_region 12 with(fail)
     have r:=N.set (k:=w1.heap.size) (i:=8) (.slice x (aG aB D).length v) (y);have n:=C.path (.slice x (aG aB D).length v);have t:=fH.aQ (w':=w6.setCell ⟨w1.heap.size,8,none⟩ (.slice x (aG aB D).length v)) (gb:=w1.heap.size) Z (fun k hk=>heap_setCell_other _ _ _ _ hk) (by omega);have J:=a5.setCell (p:=⟨w1.heap.size,8,none⟩) (Q) (.slice x (aG aB D).length v);clear cx fx;generalize World.setCell w6 _ _=w7 at r n t J⊢;have a3:Hid (UB w7 (w.heap.size) (U0) (.slice none 0 0)):=r;clear r;have b7:Hid (UB w7 (w1.heap.size) ({uF with aS:=H}) (.slice x (aG aB D).length v)):=n;clear n;have c2:=hid t;clear t;have d4:=hid J;clear J;clear Y;obtain⟨c0,c1,b0,c3,c4,c5,c6,c7,c8,c9,b6,b5,b3⟩:=b7.facts;go_wp2_with (refine aJ a3 ({uF with aS:=H}) x (aG aB D).length v (.tmp 2) (.tmp 35) rfl rfl rfl rfl ?_)
     have W:∀k,k≠w.heap.size→(World.setRow w7 (w.heap.size) (cells ({uF with aS:=H}) (.slice x (aG aB D).length v))).heap[k]?=w7.heap[k]?:=fun k hk=>setRow_other _ _ _ _ hk;have ho:=aI (fH.aQ c2 W G) (by have h1:=z.out;have h2:=G.out;omega:w.heap.size≤_);exact bodyPost_ret (gY rfl (a3.row ({uF with aS:=H}) _) true _ rfl rfl) rfl (dR (u:={uF with aS:=H,aF:=aG aB D}) a1 (below_setRow d4 z _) ho)
end U1
