/- Lemmas. -/
import Derived.Test.YtaeohdlnidnofaaGreatDoorPRAAL
import Derived.Laws.StructEq
set_option linter.unusedSimpArgs false
set_option linter.unusedVariables false
set_option maxRecDepth 100000
set_option maxHeartbeats 64000000
namespace Go.Proofs.YtaeohdlnidnofaaGreatDoor
open Tryz
namespace vO
open Go.RowKit Base eU bC uo aJ vU
theorem uK (u:U) (p:Value) (w:World):Calls prog 140 #[.agg (cells u p)] w fun e w'=>e=.returned ((aN u).agg none 0 0)∧Below w.heap.size w w':=by
 obtain⟨V,c⟩:∃V,V=(aN u).agg none 0 0:=⟨_,rfl⟩;have a:V=.agg #[.string (ah u.au),.string (ah u.bU),.string (ah u.bW),.string (ah u.aU),.bool u.hh,.int .i64 u.port,.bool false,.string ⟨#[]⟩,.slice none 0 0,.bool false,.bool false,.string ⟨#[]⟩,.string ⟨#[]⟩]:=c;rw[←c];have HV:=hid a;clear c a;unfold cells;go_enter func140,ntmps140;go_wp2;refine bodyPost_ret (res1 (g:=w.heap.size+1) (u:=aN u) (p:=.slice none 0 0) rfl ?_ _ rfl) rfl ⟨by rw[HV.out];rfl,((Below.refl _ _).alloc (Nat.le_refl _) _).alloc (by simp) _⟩;have h:=heap_alloc_new (w.alloc (.cells (cells u p) 25)) (.cells (cells (aN u) (.slice none 0 0)) 25);simp only[World.size_alloc]at h;exact h
def Own (w0 w:World) (u:U) (A:Option Addr) (n c:Nat):Prop:=w.ownsRow w0.heap.size 9 1 (.slice A n c) n (u.aF.map Value.string)
theorem Own.aF {w0 w:World} {u:U} {A:Option Addr} {n c:Nat} (h:Own w0 w u A n c):iF w u A n c:=by
 obtain⟨i,g,e,f,d,a⟩:=aS h;cases e;exact⟨a,f,d⟩
theorem Own.below {w0 w w':World} {u:U} {A:Option Addr} {n c:Nat} (h:Own w0 w u A n c) (a:Below w.heap.size w w'):Own w0 w' u A n c:=bf h a
theorem Own.row {w0 w:World} {u:U} {A:Option Addr} {n c g:Nat} (h:Own w0 w u A n c) (a:g<w0.heap.size) (cs:Array Value):Own w0 (w.setRow g cs) u A n c:=fE.aP (gb:=g) h (fun k hk=>setRow_other _ _ _ _ hk) a
theorem Own.base {w0 a w:World} {u:U} {A:Option Addr} {n c:Nat} (h:Own a w u A n c) (d:w0.heap.size≤a.heap.size):Own w0 w u A n c:=aH h d
theorem uS (w0 w:World) {u:U} (h:u.aF=[]):Own w0 w u none 0 0:=by
 unfold Own;rw[h];exact World.ownsRow_nil _ _ _ _
def mg (w:World) (o:Option U) (e:Ending) (w':World):Prop:=Below w.heap.size w w'∧∃u A n c ok,e=.returned (.tuple #[.agg (cells u (.slice A n c)),.bool ok])∧Own w w' u A n c∧(o=some u∧ok=true∨o=none∧ok=false∧u=U0)
def aeQ (w:World) (u:U) (e:Ending) (w':World):Prop:=Below w.heap.size w w'∧∃A n c,e=.returned (.agg (cells u (.slice A n c)))∧Own w w' u A n c
def Al (w0:World) (u b:U) (q p2:Value) (B m:Nat) (xs:List Value) (L:Nat→Bool) (w:World):Prop:=
 UB w w0.heap.size {u with hq:=if L 5=true then b.hq else u.hq,bQ:=if L 7=true then b.bQ else u.bQ} q∧UB w (w0.heap.size+1) b p2∧UB w (w0.heap.size+1+1) U0 (.slice none 0 0)∧Below w0.heap.size w0 w∧w.ownsRow B 9 1 q m xs∧w0.heap.size+1+1<B
theorem als {w0:World} {u b:U} {q p2:Value} {B m:Nat} {c:List Value} {L:Nat→Bool} {w w':World} (i:Nat) (hi:(i==5||i==7)=false) (a:Below w.heap.size w w') (d:Al w0 u b q p2 B m c L w):Al w0 u b q p2 B m c (did L i) w':=by
 simp only[Bool.or_eq_false_iff,beq_eq_false_iff_ne]at hi;obtain⟨k,j,h,g,f,e⟩:=d;unfold Al;rw[aK L (Ne.symm hi.1),aK L (Ne.symm hi.2)];exact⟨k.below a,j.below a,h.below a,bF g a,bf f a,e⟩
theorem al5 {w0:World} {u b:U} {q p2:Value} {B m:Nat} {a:List Value} {L:Nat→Bool} {w:World} (c:Al w0 u b q p2 B m a L w):Al w0 u b q p2 B m a (did L 5) (w.setCell ⟨w0.heap.size,9,none⟩ (.bool b.hq)):=by
 obtain⟨i,h,g,f,e,d⟩:=c;unfold Al;rw[dK,aK L (show(7:Nat)≠5 by decide)];exact⟨i.hq b.hq,h.set _ (by omega),g.set _ (by omega),f.setCell (Nat.le_refl _) _,fE.aP (gb:=w0.heap.size) e (fun k hk=>heap_setCell_other _ _ _ _ hk) (by omega),d⟩
theorem al7 {w0:World} {u b:U} {q p2:Value} {B m:Nat} {a:List Value} {L:Nat→Bool} {w:World} (c:Al w0 u b q p2 B m a L w):Al w0 u b q p2 B m a (did L 7) (w.setCell ⟨w0.heap.size,11,none⟩ (.string (ah b.bQ))):=by
 obtain⟨i,h,g,f,e,d⟩:=c;unfold Al;rw[dK,aK L (show(5:Nat)≠7 by decide)];exact⟨i.bQ b.bQ,h.set _ (by omega),g.set _ (by omega),f.setCell (Nat.le_refl _) _,fE.aP (gb:=w0.heap.size) e (fun k hk=>heap_setCell_other _ _ _ _ hk) (by omega),d⟩
theorem GU (u b:U) (p:Value) (A:Option Addr) (n c:Nat) (w:World) (hP:iF w b A n c) (hn:n≤1000000):Calls prog 143 #[.agg (cells u p),.agg (cells b (.slice A n c))] w (aeQ w (along u b)):=by
 obtain⟨v,T⟩:∃v,v=along u b:=⟨_,rfl⟩;have C:{{{u with aF:=b.aF}with hq:=b.hq}with bQ:=b.bQ}=v:=by rw[T];rfl
 have HV:=hid C;have B:v.aF=b.aF:=by rw[T];rfl
 have a4:=hid B;rw[←T];have HP:=hid hP;clear hP T B C;go_enter func143,ntmps143;go_upto_region 1 with(fail)
 generalize hw:World.alloc (World.alloc (World.alloc w _) _) _=w1;have m:UB w1 w.heap.size u p∧UB w1 (w.heap.size+1) b (.slice A n c)∧UB w1 (w.heap.size+1+1) U0 (.slice none 0 0)∧Below w.heap.size w w1:=by
  subst hw;exact Vd w _ _ _ _ _ _
 clear hw;have a3:=hid m.1;have J:=hid m.2.1;have I:=hid m.2.2.1;have HB:=hid m.2.2.2;clear m;have G:w.heap.size+1+1<w1.heap.size:=I.lt;have z:=hid G;clear G;obtain⟨d0,d1,d2,d3,d4,d5,d6,d7,d8,d9,a2,a1,a0⟩:=J.facts;go_wp2_with fail
 clear d0 d1 d2 d3 d4 d5 d6 d7 d8 d9 a2 a1 a0;refine(uy A n c b.aF _ (HP.1.below HB) hn).mono ?_;rintro e w2 ⟨q,rfl,d,f⟩;obtain⟨j,h,rfl,hq⟩:=bY (u:=b) d;have V:=a3.below f;have h2:=J.below f;have m:=I.below f;have H:=bF HB f;have f8:=V.thaw.2.2.2.2.2.2.2.2.1;have c8:=V.facts.2.2.2.2.2.2.2.2.1;have r:=hid (V.path (.slice j b.aF.length h));have x:=hid (h2.set (k:=w.heap.size) (i:=8) (.slice j b.aF.length h) (by omega));have s:=hid (m.set (k:=w.heap.size) (i:=8) (.slice j b.aF.length h) (by omega));have Q:=hid (H.setCell (p:=⟨w.heap.size,8,none⟩) (Nat.le_refl _) (.slice j b.aF.length h));have O:=hid (fE.aP (w':=w2.setCell ⟨w.heap.size,8,none⟩ (.slice j b.aF.length h)) (gb:=w.heap.size) d (fun k hk=>heap_setCell_other _ _ _ _ hk) (by have:=z.out;omega));clear V h2 m H d hq f;go_upto_region 2 with(fail)
 clear f8 c8;generalize World.setCell w2 _ _=w3 at r x s Q O⊢;refine iH (by kernel_rfl) (fun L _ y=>Al w u b (.slice j b.aF.length h) (.slice A n c) w1.heap.size b.aF.length (b.aF.map Value.string) L y) [pg (w.heap.size+1) 9,is (.bool b.hq),pg (w.heap.size+1) 11,is (.string (ah b.bQ)),pg w.heap.size 9,any,pg w.heap.size 11,any] [[],[0],[],[2],[],[1,4],[],[3,6]] (by kernel_rfl) (by repeat (first|exact oJ|refine qV _ ?_|refine oI ?_)) ?_ ?_ ?_
 ·exact fun t=>⟨r,x,s,Q.drew,O,z⟩
 ·refine⟨?_,?_,?_,?_,?_,?_,?_,?_,trivial⟩;all_goals(intro L t y a hL hC hN hh K l;simp only[iG,Act.put,Nat.reduceAdd,Nat.reduceEqDiff,reduceIte]at hh l⊢;(try simp only[hh]at l⊢);clear hh)
  ·go_simp;exact l _ _ rfl (als _ (by decide) aV a)
  ·have X:=a.2.1.facts.2.2.2.2.2.2.2.2.2.1;go_simp;exact l _ _ rfl (als 1 (by decide) aV a)
  ·go_simp;exact l _ _ rfl (als _ (by decide) aV a)
  ·have X:=a.2.1.facts.2.2.2.2.2.2.2.2.2.2.2.1;go_simp;exact l _ _ rfl (als 3 (by decide) aV a)
  ·go_simp;exact l _ _ rfl (als _ (by decide) aV a)
  ·have hf:=a.1.thaw.2.2.2.2.2.2.2.2.2.1;have X:=a.1.facts.2.2.2.2.2.2.2.2.2.1;go_simp;exact l undef _ trivial (al5 a)
  ·go_simp;exact l _ _ rfl (als _ (by decide) aV a)
  have hf:=a.1.thaw.2.2.2.2.2.2.2.2.2.2.2.1;have X:=a.1.facts.2.2.2.2.2.2.2.2.2.2.2.1;go_simp;exact l undef _ trivial (al7 a)
 intro Lz t y a g hh;clear hh;simp only[iG,Act.put,Nat.reduceAdd,Nat.reduceEqDiff,reduceIte];obtain⟨Y,Z,F,E,D,_⟩:=a;simp only[g 5 (by decide),g 7 (by decide),reduceIte]at Y;have a5:Hid (UB y w.heap.size v (.slice j b.aF.length h)):=by show UB _ _ _ _;rw[←HV.out];exact Y
 have N:=hid F;have P:=hid E;have a6:=hid D;clear Z Y F E D g;obtain⟨c0,c1,a7,c3,c4,c5,c6,c7,c8,c9,b0,a9,a8⟩:=a5.facts;go_wp2_with (refine aI N v j b.aF.length h (.tmp 4) (.tmp 15) rfl rfl rfl rfl ?_)
 have W:∀k,k≠w.heap.size+1+1→(y.setRow (w.heap.size+1+1) (cells v (.slice j b.aF.length h))).heap[k]?=y.heap[k]?:=fun k hk=>setRow_other _ _ _ _ hk;have ho:=fE.aP a6 W z;refine bodyPost_ret (w:=y.setRow (w.heap.size+1+1) (cells v (.slice j b.aF.length h))) (res1 (u:=v) (p:=.slice j b.aF.length h) rfl (N.row v _) _ rfl) rfl ?_;exact⟨below_setRow P (by omega) _,_,_,_,rfl,by unfold Own;rw[a4.out];exact aH ho (by have:=P.size;omega)⟩
end vO
namespace IQ
open Go.RowKit Base jy
theorem oh (c:UInt8) (d:Bool) (w:World):Calls prog 200 #[.int .u8 (c.toNat:Int),.bool d] w fun e w'=>e=.returned (.bool (zx d c))∧w=w':=by
 cases d with
 |false=>
  go_enter func200,ntmps200;go_wp2_with fail
  refine(strings_IndexByte _ _ _).mono ?_;rintro e f ⟨rfl,rfl⟩;rw[show(⟨#[0,9,10,13,32,35,47,58,60,62,63,64,91,92,93,94,124]⟩:ByteArray).data.toList=FRB from rfl,show((c.toNat:Int).toNat).toUInt8=c by simp];go_wp2_with fail
  go_ret;exact⟨aC (by rw[Hw,←H7]),rfl⟩
 | true=>
  by_cases h:c.toNat<32∨c=127∨c=37
  ·have a:Hid (zx true c=true):=by
    show _=_;rcases h with h|rfl|rfl
    ·simp[zx,h]
    ·rfl
    rfl
   rcases h with h|rfl|rfl
   ·have g:(c.toNat:Int)<32:=by omega
    go_enter func200,ntmps200;go_wp2;go_ret;exact⟨by rw[a.out];rfl,rfl⟩
   ·go_enter func200,ntmps200;go_wp2;go_ret;exact⟨by rw[a.out];rfl,rfl⟩
   go_enter func200,ntmps200;go_wp2;go_ret;exact⟨by rw[a.out];rfl,rfl⟩
  have g:¬(c.toNat:Int)<32:=by omega
  have m:((c.toNat:Int)==127)=false:=by
   rw[beq_eq_false_iff_ne];intro e;exact h (.inr (.inl (UInt8.toNat_inj.1 (by show _=127;omega))))
  have l:((c.toNat:Int)==37)=false:=by
   rw[beq_eq_false_iff_ne];intro e;exact h (.inr (.inr (UInt8.toNat_inj.1 (by show _=37;omega))))
  have a:Hid (zx true c=RH c):=by
   show _=_;have k:decide (c.toNat<32)=false:=by simp;omega
   have j:(c==127)=false:=by rw[beq_eq_false_iff_ne];exact fun e=>h (.inr (.inl e))
   have i:(c==37)=false:=by rw[beq_eq_false_iff_ne];exact fun e=>h (.inr (.inr e))
   simp[zx,k,j,i]
  go_enter func200,ntmps200;go_wp2_with fail
  refine(strings_IndexByte _ _ _).mono ?_;rintro e f ⟨rfl,rfl⟩;rw[show(⟨#[0,9,10,13,32,35,47,58,60,62,63,64,91,92,93,94,124]⟩:ByteArray).data.toList=FRB from rfl,show((c.toNat:Int).toNat).toUInt8=c by simp];go_wp2_with fail
  go_ret;exact⟨aC (by rw[a.out,←H7]),rfl⟩
theorem eG (c:UInt8) (d:Bool) (w:World):Calls prog 223 #[.int .u8 (c.toNat:Int),.bool d] w fun e w'=>e=.returned (.bool (zx d c))∧w=w':=by
 cases hf:RH c with
 |true=>
  have a:Hid (zx d c=true):=by show _=_;simp[zx,hf]
  rcases RI c hf with rfl|rfl|rfl|rfl|rfl|rfl|rfl|rfl|rfl|rfl|rfl|rfl|rfl|rfl|rfl|rfl|rfl
  all_goals
   go_enter func223,ntmps223;go_wp2;go_ret;exact⟨by rw[a.out];rfl,rfl⟩
 | false=>
  have A:((c.toNat:Int)==0)=false:=gY c hf 0 rfl;have z:((c.toNat:Int)==9)=false:=gY c hf 9 rfl;have y:((c.toNat:Int)==10)=false:=gY c hf 10 rfl;have x:((c.toNat:Int)==13)=false:=gY c hf 13 rfl;have v:((c.toNat:Int)==32)=false:=gY c hf 32 rfl;have t:((c.toNat:Int)==35)=false:=gY c hf 35 rfl;have s:((c.toNat:Int)==47)=false:=gY c hf 47 rfl;have r:((c.toNat:Int)==58)=false:=gY c hf 58 rfl;have q:((c.toNat:Int)==60)=false:=gY c hf 60 rfl;have n:((c.toNat:Int)==62)=false:=gY c hf 62 rfl;have m:((c.toNat:Int)==63)=false:=gY c hf 63 rfl;have l:((c.toNat:Int)==64)=false:=gY c hf 64 rfl;have k:((c.toNat:Int)==91)=false:=gY c hf 91 rfl;have j:((c.toNat:Int)==92)=false:=gY c hf 92 rfl;have i:((c.toNat:Int)==93)=false:=gY c hf 93 rfl;have g:((c.toNat:Int)==94)=false:=gY c hf 94 rfl;have f:((c.toNat:Int)==124)=false:=gY c hf 124 rfl;cases d with
  |false=>
   have a:Hid (zx false c=false):=by show _=_;simp[zx,hf]
   go_enter func223,ntmps223;go_wp2;go_ret;exact⟨by rw[a.out];rfl,rfl⟩
  | true=>
   by_cases h:c.toNat<32∨c=127∨c=37
   ·have a:Hid (zx true c=true):=by
     show _=_;rcases h with h|rfl|rfl
     ·simp[zx,h]
     ·rfl
     rfl
    rcases h with h|rfl|rfl
    ·have B:(c.toNat:Int)<32:=by omega
     go_enter func223,ntmps223;go_wp2;go_ret;exact⟨by rw[a.out];rfl,rfl⟩
    ·clear A z y x v t s r q n m l k j i g f;go_enter func223,ntmps223;go_wp2;go_ret;exact⟨by rw[a.out];rfl,rfl⟩
    clear A z y x v t s r q n m l k j i g f;go_enter func223,ntmps223;go_wp2;go_ret;exact⟨by rw[a.out];rfl,rfl⟩
   have B:¬(c.toNat:Int)<32:=by omega
   have G:((c.toNat:Int)==127)=false:=by
    rw[beq_eq_false_iff_ne];intro e;exact h (.inr (.inl (UInt8.toNat_inj.1 (by show _=127;omega))))
   have F:((c.toNat:Int)==37)=false:=by
    rw[beq_eq_false_iff_ne];intro e;exact h (.inr (.inr (UInt8.toNat_inj.1 (by show _=37;omega))))
   have a:Hid (zx true c=false):=by
    show _=_;have E:decide (c.toNat<32)=false:=by simp;omega
    have D:(c==127)=false:=by rw[beq_eq_false_iff_ne];exact fun e=>h (.inr (.inl e))
    have C:(c==37)=false:=by rw[beq_eq_false_iff_ne];exact fun e=>h (.inr (.inr e))
    simp[zx,hf,E,D,C]
   go_enter func223,ntmps223;go_wp2;go_ret;exact⟨by rw[a.out];rfl,rfl⟩
end IQ
namespace Gn
open Go.RowKit Base bC lS qm Bv fE ni Dx jE Q7 jy zu
theorem Ar (f:Nat→Nat):VZ (V8 f)=jE.prt f:=by
 unfold VZ jE.prt zs;rfl
theorem Uj (M:Nat):∀(ps:List (List UInt8)) (most acc n:Nat),ps≠[]→kW most acc ps=some n→acc+most≤M→n<M
 |[],_,_,_,h,_,_=>absurd rfl h
 |[p],most,acc,n,_,h,hM=>by
  unfold kW at h
  split at h
  ·split at h
   ·injection h with h;omega
   ·cases h
  ·cases h
 | p :: q :: r, most, acc, n, _, h, hM => by
  unfold kW at h
  split at h
  ·rename_i v _
   split at h
   ·refine Uj M (q::r) (most / 256) (acc+v*(most / 256)) n (by simp) h ?_
    have c:v*(most / 256)≤255*(most / 256):=Nat.mul_le_mul_right _ (by omega)
    have a:256*(most / 256)≤most:=Nat.mul_div_le most 256
    omega
   ·cases h
  ·cases h
theorem Fz {L:List UInt8} {n:Nat} (h:Dz L=some n):n<4294967296:=by
 unfold Dz at h;split at h
 ·exact Uj 4294967296 _ _ _ _ (oz _) h (by omega)
 cases h
theorem F6 (L:List UInt8):(Lib.trimSuffix L [93]).length≤L.length:=by
 unfold Lib.trimSuffix;split
 ·rw[List.length_take];omega
 exact Nat.le_refl _
theorem Js (f:Nat→Nat):(jE.prt f).length≤100:=by
 unfold jE.prt;have e:=uM (V8 f);have c:=uM ((V8 f).take (qO (zs f)).1);have a:=uM ((V8 f).drop (qO (zs f)).2);have d:(V8 f).length=8:=rfl;rw[List.length_take]at c;rw[List.length_drop]at a;split
 ·omega
 simp only[List.length_append,List.length_cons,List.length_nil];omega
theorem OI (e:Bool):∀{ps:List (List UInt8)} {l:List Nat},lN e ps=some l→∀x ∈ l,x<65536
 |[],l,h=>by injection h with h;subst h;intro x hx;simp at hx
 | p ::r,l,h=>by
  rw[lN]at h
  split at h
  ·obtain⟨a,b,rfl⟩:=Ju h
   have:=XD.FC h
   intro x hx
   simp at hx
   rcases hx with rfl|rfl
   ·exact this.1
   ·exact this.2
  ·split at h
   ·cases h
   ·rename_i n hn
    split at h
    ·cases h
    ·rename_i x e2
     injection h with h
     subst h
     intro y c
     rcases List.mem_cons.1 c with rfl|c
     ·exact VQ hn
     ·exact OI e e2 y c
theorem abz {s:List UInt8} {V:List Nat} (h:six s=some V):∀x ∈ V,x<65536:=by
 have c:∀(e:Bool) (ps:List (List UInt8)) (l:List Nat),fG e ps=some l→∀x ∈ l,x<65536:=by
  intro e ps l h;unfold fG at h;split at h
  ·injection h with h;subst h;intro x hx;simp at hx
  exact OI e h
 unfold six at h;split at h
 ·unfold qm.eight at h;split at h
  ·rename_i a ha;split at h
   ·injection h with h
    subst h;rw[List.nil_append];exact OI true ha
   cases h
  cases h
 unfold both at h;split at h
 ·rename_i a b ha hb;split at h
  ·injection h with h
   subst h;intro x hx;unfold fill at hx;simp only[List.nil_append,List.mem_append,List.mem_replicate]at hx;rcases hx with(hx|hx)|hx
   ·exact c _ _ _ ha x hx
   ·omega
   exact c _ _ _ hb x hx
  cases h
 cases h
theorem D5 {s:List UInt8} {V:List Nat} (h:six s=some V):∃f:Nat→Nat,V=V8 f∧∀i,f i<65536:=by
 refine⟨fun i=>V.getD i 0,vK (Y1 h),fun i=>?_⟩;rcases Nat.lt_or_ge i V.length with hi|hi
 ·show V.getD i 0<_;rw[List.getD_eq_getElem?_getD,List.getElem?_eq_getElem hi];exact abz h _ (List.getElem_mem hi)
 show V.getD i 0<_;rw[List.getD_eq_getElem?_getD,List.getElem?_eq_none hi];simp
theorem Kv (s:ByteArray) (w:World) (hs:s.size≤1048576) (t:pq w) (r:Max w):Calls prog 198 #[.string s] w fun e w'=>e=.returned (HV (hbr s.data.toList))∧Below w.heap.size w w':=by
 have HL:=hid t;have L:=hid r;obtain⟨I,v⟩:∃I:ByteArray,I=ah (Lib.trimSuffix s.data.toList [93]):=⟨_,rfl⟩;have j:I.size≤1048576:=by
  rw[v,ak];have:=F6 s.data.toList;have:s.data.toList.length=s.size:=Array.length_toList;omega
 have c:=fun w=>strings_CutSuffix s ⟨#[93]⟩ w (by omega);rw[show(⟨#[93]⟩:ByteArray).data.toList=[93]from rfl,show(⟨(Lib.trimSuffix s.data.toList [93]).toArray⟩:ByteArray)=I from v.symm]at c;have m:I.data.toList=Lib.trimSuffix s.data.toList [93]:=by rw[v];rfl
 have G:hbr s.data.toList=if Lib.hasSuffix s.data.toList [93]=true then addr I.data.toList else none:=by rw[m];rfl
 obtain⟨H,h⟩:∃H,H=HV (hbr s.data.toList):=⟨_,rfl⟩;rw[←h];rw[G]at h;clear v m G t r;cases hsf:Lib.hasSuffix s.data.toList [93]with
 |false=>
  rw[hsf]at c h;have n:Hid (H=.tuple #[.string (ah []),.bool false]):=by show _=_;rw[h];rfl
  have HC:=hid c;clear c h hsf;go_enter func198,ntmps198;go_wp2_with fail
  refine(HC _).mono ?_;rintro e l ⟨rfl,d⟩;obtain rfl:w=l:=d.symm;go_wp2;go_ret2;exact⟨by rw[n.out];rfl,Below.refl _ _⟩
 | true=>
  rw[hsf]at c h;rw[if_pos rfl]at h;have HC:=hid c;clear c hsf;have a:=fun w r=>jm I w j r;cases hv:six I.data.toList with
  |none=>
   have n:Hid (H=.tuple #[.string (ah []),.bool false]):=by show _=_;rw[h];unfold addr;rw[hv];rfl
   rw[hv]at a;obtain⟨f,hf⟩:∃f:Nat→Nat,V8 f=l9:=⟨fun _=>0,rfl⟩;have k:Hid (Gt none=.tuple #[.agg #[.int .u16 (f 0:Int),.int .u16 (f 1:Int),.int .u16 (f 2:Int),.int .u16 (f 3:Int),.int .u16 (f 4:Int),.int .u16 (f 5:Int),.int .u16 (f 6:Int),.int .u16 (f 7:Int)],.bool false]):=by
    show Gt none=.tuple #[.agg (aZ (V8 f)).toArray,.bool false];rw[hf];rfl
   rw[k.out]at a;have F:=hid a;clear a hv h j hf;go_enter func198,ntmps198;go_wp2_with fail
   refine(HC _).mono ?_;rintro e l ⟨rfl,d⟩;obtain rfl:w=l:=d.symm;go_wp2_with fail
   refine(F _ L).mono ?_;rintro e x ⟨rfl,g⟩;have i:=hid g;clear g;go_wp2;go_ret2;exact⟨by rw[n.out];rfl,i.alloc i.size _⟩
  |some V=>
   obtain⟨f,rfl,J⟩:=D5 hv;have C:H=.tuple #[.string (ah (91::(jE.prt f++[93]))),.bool true]:=by rw[h];unfold addr;rw[hv,←Ar];rfl
   rw[hv]at a;have k:Hid (Gt (some (V8 f))=.tuple #[.agg #[.int .u16 (f 0:Int),.int .u16 (f 1:Int),.int .u16 (f 2:Int),.int .u16 (f 3:Int),.int .u16 (f 4:Int),.int .u16 (f 5:Int),.int .u16 (f 6:Int),.int .u16 (f 7:Int)],.bool true]):=rfl;rw[k.out]at a;have F:=hid a;obtain⟨P,B⟩:∃P,P=ah (jE.prt f):=⟨_,rfl⟩;have E:Hid (∀w,pq w→Calls prog 217 #[A8 f] w fun e w'=>e=.returned (.string P)∧Below w.heap.size w w'):=by
    show ∀w,_;rw[B];exact fun w t=>jE.nR f J w t
   obtain⟨Y,A⟩:∃Y,Y=ah (91::jE.prt f):=⟨_,rfl⟩;obtain⟨Z,z⟩:∃Z,Z=ah (91::(jE.prt f++[93])):=⟨_,rfl⟩;rw[←z]at C;have y:=Js f;have a1:∀w:World,(Op.stringOp .add ⟨#[91]⟩ P).run prog w=.ok (.string Y) w:=fun w=>by
    rw[A,B];exact bJ [91] _ w (by simp;omega)
   have a2:∀w:World,(Op.stringOp .add Y ⟨#[93]⟩).run prog w=.ok (.string Z) w:=fun w=>by
    rw[z,A];exact bJ (91::jE.prt f) [93] w (by simp;omega)
   have n:=hid C;clear a hv h j C B A z y J;go_enter func198,ntmps198;go_wp2_with fail
   refine(HC _).mono ?_;rintro e l ⟨rfl,d⟩;obtain rfl:w=l:=d.symm;go_wp2_with fail
   refine(F _ L).mono ?_;rintro e x ⟨rfl,g⟩;have i:=hid g;clear g;go_upto_region 5 with(fail)
   generalize hw3:x.alloc _=w3;have q:Hid (Below w.heap.size w w3):=by
    show Below _ _ _;rw[←hw3];exact i.alloc i.size _
   have D:Hid (Box w3 x.heap.size 187 (V8 f)):=by
    show Box _ _ _ _;rw[←hw3];exact zA f
   clear hw3;obtain⟨c0,c1,X,W,T,Q,O,N⟩:=dn D f rfl;go_wp2_with fail
   clear c0 c1 X W T Q O N;refine pz q (E _ (HL.below q)) fun w4 HB4=>?_;go_wp2;go_ret2;exact⟨by rw[n.out];rfl,HB4⟩
end Gn
namespace um
open Go.RowKit Base bC gJ lS ni jy IQ Gn zu
theorem cZ {w w':World} (h:Tab.Pow w) (a:Below w.heap.size w w'):Tab.Pow w':=Tab.Pow.below h a
theorem Ii (L:List UInt8):(lower L).length=L.length:=by simp[lower]
theorem GN {L:List UInt8} (h:oks true L=false):HV (NU L)=.tuple #[.string (ah []),.bool false]:=by unfold NU;rw[h];rfl
theorem Nu {L:List UInt8} (h:oks true L=true):HV (NU L)=HV (I9 (lower L)):=by unfold NU;rw[if_pos h]
theorem NV (s:ByteArray) (w:World) (hs:s.size≤900000) (F:Tab.Pow w) (x:Max w):Calls prog 199 #[.string s] w fun e w'=>e=.returned (HV (NU s.data.toList))∧Below w.heap.size w w':=by
 have HT:=hid F;have Y:=hid x;have V:s.data.toList.length=s.size:=Array.length_toList;have O:=hid V;obtain⟨H,I⟩:∃H,H=HV (NU s.data.toList):=⟨_,rfl⟩;rw[←I];have P:=hid I;clear F x V I;go_enter func199,ntmps199;go_wp2;go_loopw [4] (fun vk wr=>∃k:Nat,k≤s.size∧vk=.int .i64 (k:Int)∧wr=w∧Hid (oks true (s.data.toList.take k)=true)) (fun vk _=>s.size - (intOf vk).toNat)
 case atStart=>exact⟨0,Nat.zero_le _,rfl,rfl,rfl⟩
 case round =>
  obtain⟨k,hk,rfl,rfl,X⟩:=hrel;by_cases hlt:k<s.size
  ·obtain ⟨c,Z⟩:∃c,s[k]=c:=⟨_,rfl⟩;have m:k<s.data.toList.length:=by rw[O.out];exact hlt
   have q:s.data.toList[k]=c:=Z;by_cases h126:(126:Int)<(c.toNat:Int)
   ·have v:Hid (H=.tuple #[.string (ah []),.bool false]):=by
     show _=_;rw[P.out];refine GN (uQ true _ k m ?_);rw[q,qG,decide_eq_false (by omega),Bool.and_false]
    clear m q;go_wp2;go_ret2;exact⟨by rw[v.out];rfl,Below.refl _ _⟩
   cases hf:zx true c with
   |true=>
    have v:Hid (H=.tuple #[.string (ah []),.bool false]):=by
     show _=_;rw[P.out];refine GN (uQ true _ k m ?_);rw[q,qG,hf];rfl
    have i:=fun w=>oh c true w;rw[hf]at i;have Q:=hid i;clear m q hf i;go_wp2_with fail
    refine(Q _).mono ?_;rintro e A ⟨rfl,rfl⟩;go_wp2;go_ret2;exact⟨by rw[v.out];rfl,Below.refl _ _⟩
   |false=>
    have HN:Hid (oks true (s.data.toList.take (k+1))=true):=by
     show _=_;rw[jQ true _ k m,X.out,q,qG,hf,decide_eq_true (by omega)];rfl
    have i:=fun w=>oh c true w;rw[hf]at i;have Q:=hid i;clear m q hf i;go_wp2_with fail
    refine(Q _).mono ?_;rintro e A ⟨rfl,rfl⟩;go_wp2;go_roundw
    case rel=>exact⟨k+1,by omega,by go_num,by first|rfl|trivial,HN⟩
    case measure=>simp[intOf];omega
  have W:oks true s.data.toList=true:=by
   have:=X.out;rw[List.take_of_length_le (by rw[O.out];omega)]at this;exact this
  have j:H=HV (I9 (lower s.data.toList)):=by rw[P.out];exact Nu W
  obtain⟨M,x⟩:∃M:ByteArray,M=ah (lower s.data.toList):=⟨_,rfl⟩;have D:lower s.data.toList=M.data.toList:=by rw[x];rfl
  have C:M.size≤900000:=by rw[x,ak,Ii,O.out];omega
  have y:Hid (∀w:World,Calls prog 61 #[.string s] w fun e w'=>e=.returned (.string M)∧Below w.heap.size w w'):=by
   show ∀w,_;rw[x];exact fun w=>gJ.jP s w (by unfold maxLen;omega)
  rw[D]at j;have a:=fun w=>ND.UQ M w C;clear x D W;cases he:ends M.data.toList with
  |false=>
   rw[he]at a;have t:=hid a;by_cases f:M.data.toList=[]
   ·have E:M=ah []:=by rw[←bD M,f]
    have v:Hid (H=.tuple #[.string (ah []),.bool false]):=by show _=_;rw[j,f];rfl
    have hq:M.toList=[]:=by rw[Lib.toList_data];exact f
    have B:(M.toList==[])=true:=by rw[hq];rfl
    have N:=hid E;clear a he f E j hq;go_wp2_with fail
    refine(y _).mono ?_;rintro e A ⟨rfl,d⟩;have l:=hid d;clear d;go_wp2_with fail
    refine pz l (t _) fun w3 HB3=>?_;go_wp2;go_ret2;exact⟨by rw[v.out,←N.out];first|rfl|simp[B],HB3⟩
   have v:Hid (H=.tuple #[.string M,.bool true]):=by
    show _=_;rw[j];unfold I9;rw[if_neg f,he,if_neg (by simp)];show Value.tuple #[.string (ah M.data.toList),.bool true]=_;rw[bD]
   have hq:(M.toList==[])=false:=by
    rw[Lib.toList_data,beq_eq_false_iff_ne];exact f
   have B:M.toList.isEmpty=false:=by rw[Lib.toList_data];simpa using f
   clear a he f j;go_wp2_with fail
   refine(y _).mono ?_;rintro e A ⟨rfl,d⟩;have l:=hid d;clear d;go_wp2_with fail
   refine pz l (t _) fun w3 HB3=>?_;go_wp2;go_ret2;exact⟨by rw[v.out];rfl,HB3⟩
  | true=>
   rw[he]at a;have t:=hid a;have f:M.data.toList≠[]:=by intro h;rw[h]at he;cases he
   have r:H=HV ((Dz M.data.toList).map yN.pr):=by rw[j];unfold I9;rw[if_neg f,he,if_pos rfl]
   have g:=fun w x=>vP.jm M w C x;clear a he f j;cases hp:Dz M.data.toList with
   |none=>
    rw[hp]at g r;have v:Hid (H=.tuple #[.string (ah []),.bool false]):=by show _=_;rw[r];rfl
    have z:Hid (vP.pI none=.tuple #[.int .u32 0,.bool false]):=vP.dh _ rfl;rw[z.out]at g;have L:=hid g;clear g r hp;go_wp2_with fail
    refine(y _).mono ?_;rintro e A ⟨rfl,d⟩;have l:=hid d;clear d;go_wp2_with fail
    refine pz l (t _) fun w3 HB3=>?_;go_wp2_with fail
    refine pz HB3 (L _ (Y.below HB3)) fun w4 HB4=>?_;go_wp2;go_ret2;exact⟨by rw[v.out];rfl,HB4⟩
   |some n=>
    have T:=Fz hp;rw[hp]at g r;obtain⟨R,G⟩:∃R:ByteArray,R=ah (yN.pr n):=⟨_,rfl⟩;have v:Hid (H=.tuple #[.string R,.bool true]):=by show _=_;rw[r,G];rfl
    have z:Hid (vP.pI (some n)=.tuple #[.int .u32 (n:Int),.bool true]):=vP.tC _ n rfl;rw[z.out]at g;have L:=hid g;have J:Hid (∀w,Tab.Pow w→Calls prog 220 #[.int .u32 (n:Int)] w fun e w'=>e=.returned (.string R)∧Below w.heap.size w w'):=by
     show ∀w,_;rw[G];exact fun w F=>yN.nR n T w F
    clear g r hp T G;go_wp2_with fail
    refine(y _).mono ?_;rintro e A ⟨rfl,d⟩;have l:=hid d;clear d;go_wp2_with fail
    refine pz l (t _) fun w3 HB3=>?_;go_wp2_with fail
    refine pz HB3 (L _ (Y.below HB3)) fun w4 HB4=>?_;go_wp2_with fail
    refine pz HB4 (J _ (cZ HT HB4)) fun w5 HB5=>?_;go_wp2;go_ret2;exact⟨by rw[v.out];rfl,HB5⟩
theorem Lj (L:List UInt8):Lib.hasPrefix L [91]=decide (L.head?=some 91):=by
 cases L with
 |nil=>rfl
 |cons c r=>
  unfold Lib.hasPrefix;by_cases h:c=91
  ·subst h;simp[List.isPrefixOf]
  have a:¬(91:UInt8)=c:=fun e=>h e.symm;simp[List.isPrefixOf,h,a]
theorem jm (s:ByteArray) (sp:Bool) (w:World) (hs:s.size≤900000) (V:pq w) (T:Tab.Pow w) (J:Max w):Calls prog 152 #[.string s,.bool sp] w fun e w'=>e=.returned (HV (aU s.data.toList sp))∧Below w.heap.size w w':=by
 have HL:=hid V;have HT:=hid T;have HM:=hid J;have hl:s.data.toList.length=s.size:=Array.length_toList;have z:=hid hl;have d:=fun w=>strings_HasPrefix s ⟨#[91]⟩ w;rw[show(⟨#[91]⟩:ByteArray).data.toList=[91]from rfl,Lj]at d;obtain⟨H,F⟩:∃H,H=HV (aU s.data.toList sp):=⟨_,rfl⟩;rw[←F];clear V T J hl;by_cases hh:s.data.toList.head?=some 91
 ·have j:H=HV (hbr s.data.toList.tail):=by rw[F];unfold aU;rw[if_pos hh]
  rw[decide_eq_true hh]at d;have y:=hid d;have h1:1≤s.size:=by
   rw[←z.out];cases e:s.data.toList with
   |nil=>rw[e]at hh;cases hh
   |cons a r=>simp
  have E:(s.extract 1 s.size).data.toList=s.data.toList.tail:=by rw[aaC.xM,List.drop_one]
  obtain⟨X,x⟩:∃X,X=s.extract 1 s.size:=⟨_,rfl⟩;have m:X.size≤1048576:=by rw[x,ByteArray.size_extract];omega
  rw[←x]at E;rw[←E]at j;have a3:=hid (fun w V J=>Kv X w m V J);obtain⟨a,b,i⟩:∃a b,HV (hbr X.data.toList)=.tuple #[a,b]:=by
   cases hbr X.data.toList with
   |none=>exact⟨_,_,rfl⟩
   |some L=>exact⟨_,_,rfl⟩
  have I:=hid i;have G:=hid (j.trans i);have a4:(1:Int)≤(s.size:Int):=by omega
  have a0:=hid x;clear d hh F j E m i hs x;go_enter func152,ntmps152;go_wp2_with fail
  refine(y _).mono ?_;rintro e C ⟨rfl,l⟩;obtain rfl:w=C:=l.symm;go_wp2_with fail
  rw[←a0.out];refine(a3 _ HL HM).mono ?_;rintro e Q ⟨rfl,g⟩;rw[I.out];have n:=hid g;clear g;go_wp2;go_ret2;exact⟨by rw[G.out];rfl,n⟩
 rw[decide_eq_false hh]at d;have y:=hid d;cases sp with
 |true=>
  have j:H=HV (NU (nD.dec s.data.toList)):=by rw[F];unfold aU;rw[if_neg hh,if_pos rfl]
  obtain⟨X,E⟩:∃X:ByteArray,X=ah (nD.dec s.data.toList):=⟨_,rfl⟩;have D:X.data.toList=nD.dec s.data.toList:=by rw[E];rfl
  have m:X.size≤900000:=by
   rw[E,ak];have:=nD.mM s.data.toList;rw[z.out]at this;omega
  have O:=hid (fun w=>nD.nJ s w (by omega));rw[←D]at O;rw[←D]at j;have a1:=hid (fun w T J=>NV X w m T J);obtain⟨a,b,i⟩:∃a b,HV (NU X.data.toList)=.tuple #[a,b]:=by
   cases NU X.data.toList with
   |none=>exact⟨_,_,rfl⟩
   |some L=>exact⟨_,_,rfl⟩
  have I:=hid i;have G:=hid (j.trans i);clear d hh F j E D m i hs;go_enter func152,ntmps152;go_wp2_with fail
  refine(y _).mono ?_;rintro e C ⟨rfl,l⟩;obtain rfl:w=C:=l.symm;go_wp2_with fail
  refine(O _).mono ?_;rintro e Q ⟨v,rfl,B,g⟩;obtain⟨A3,c3,rfl,_,_,A⟩:=aS B;have W:(convert 45 9 (.slice A3 X.size c3)).run prog Q=.ok (.string X) Q:=by
   have h:=aT (P:=prog) 45 9 5 underlying45 underlying5 underlying9 _ c3 A;rw[bD]at h;exact h
  have n:=hid g;clear g B A;go_wp2_with fail
  clear W;refine(a1 _ (cZ HT n) (HM.below n)).mono ?_;rintro e w4 ⟨rfl,N⟩;rw[I.out];have a2:=hid (bF n N);clear N;go_wp2;go_ret2;exact⟨by rw[G.out];rfl,a2⟩
 | false=>
  have HH:Hid (H=HV (SB s.data.toList)):=by show _=_;rw[F];unfold aU;rw[if_neg hh,if_neg (by simp)]
  clear d hh F;go_enter func152,ntmps152;go_wp2_with fail
  refine(y _).mono ?_;rintro e C ⟨rfl,l⟩;obtain rfl:w=C:=l.symm;go_wp2;go_loopw [6] (fun vk wr=>∃k:Nat,k≤s.size∧vk=.int .i64 (k:Int)∧wr=w∧Hid (oks false (s.data.toList.take k)=true)) (fun vk _=>s.size - (intOf vk).toNat)
  case atStart=>exact⟨0,Nat.zero_le _,rfl,rfl,rfl⟩
  case round =>
   obtain⟨k,hk,rfl,rfl,HO⟩:=hrel;by_cases hlt:k<s.size
   ·obtain ⟨c,hc⟩:∃c,s[k]=c:=⟨_,rfl⟩;have q:k<s.data.toList.length:=by rw[z.out];exact hlt
    have t:s.data.toList[k]=c:=hc;cases hf:zx false c with
    |true=>
     have G:Hid (H=.tuple #[.string (ah []),.bool false]):=by
      show _=_;rw[HH.out];unfold SB;rw[uQ false _ k q (by rw[t];unfold okb;rw[hf];rfl)];rfl
     have f:=fun w=>oh c false w;rw[hf]at f;have HF:=hid f;clear q t hf f;go_wp2_with fail
     refine(HF _).mono ?_;rintro e C ⟨rfl,rfl⟩;go_wp2;go_ret2;exact⟨by rw[G.out];rfl,Below.refl _ _⟩
    |false=>
     have HN:Hid (oks false (s.data.toList.take (k+1))=true):=by
      show _=_;rw[jQ false _ k q,HO.out,t];unfold okb;rw[hf];rfl
     have f:=fun w=>oh c false w;rw[hf]at f;have HF:=hid f;clear q t hf f;go_wp2_with fail
     refine(HF _).mono ?_;rintro e C ⟨rfl,rfl⟩;go_wp2;go_roundw
     case rel=>exact⟨k+1,by omega,by go_num,by first|rfl|trivial,HN⟩
     case measure=>simp[intOf];omega
   have hO:oks false s.data.toList=true:=by
    have:=HO.out;rw[List.take_of_length_le (by rw[z.out];omega)]at this;exact this
   obtain⟨R,Z⟩:∃R:ByteArray,R=ah (aG.enc 0 s.data.toList):=⟨_,rfl⟩;have G:Hid (H=.tuple #[.string R,.bool true]):=by
    show _=_;rw[HH.out];unfold SB;rw[if_pos hO,Z];rfl
   have HR:=hid Z;have Y:=fun(w:World) s=>run_bytes_of_string (P:=prog) w 9 45 5 s underlying9 underlying45 underlying5;clear hO Z;go_wp2_with fail
   clear Y;refine(aG.gB 0 _ _ _ s.data.toList _ (jr s _ wr _) (by omega)).mono ?_;rintro e Q ⟨rfl,g⟩;rw[←HR.out];go_wp2;go_ret2;exact⟨by rw[G.out];rfl,bF (((Below.refl wr.heap.size wr).alloc (Nat.le_refl _) _).drew) g⟩
end um
namespace yM
open Go.RowKit Base eU bC jT iJ gV ni jy um zu aJ yL qP Bo vU vO
def Nb (S x y V D:List UInt8):Option U:=
 if (kU false V).2.2=true∧(kU false V).1=[]then none else
 match aU (kU false V).1 (aj S),prt S (kU false V).2.1 with
 |some H,some p=>some {U0 with au:=S,bU:=x,bW:=y,aU:=H,hh:=true,port:=p,aF:=aB S D}
 |_,_=>none
theorem Rj (S T:List UInt8):authority S T=if (iU (T.take (upto (aj S) T))).2.2.2=true∧(iU (T.take (upto (aj S) T))).2.2.1=[]then none else Nb S (iU (T.take (upto (aj S) T))).1 (iU (T.take (upto (aj S) T))).2.1 (iU (T.take (upto (aj S) T))).2.2.1 (T.drop (upto (aj S) T)):=rfl
theorem xZ {o:Option Int} {e:Ending} (h:Xw o e):∃z b,e=.returned (.tuple #[.int .i64 z,.bool b])∧(o=some z∧b=true∨o=none∧b=false):=by
 cases o with
 |some z=>exact⟨z,true,h,.inl ⟨rfl,rfl⟩⟩
 |none=>obtain⟨z,a⟩:=h;exact⟨z,false,a,.inr ⟨rfl,rfl⟩⟩
theorem dN {L:List UInt8} {n:Nat} (h:L.length≤n):(ah L).size≤n:=by rw[ak];exact h
theorem bH (L:List UInt8):(ah L).toList=L:=by rw[Lib.toList_data];rfl
theorem jJ {w w':World} {o:Option U} (a:o=none) (c:Below w.heap.size w w'):mg w o (.returned (.tuple #[.agg (cells U0 (.slice none 0 0)),.bool false])) w':=
 ⟨c,U0,none,0,0,false,rfl,uS _ _ rfl,.inr ⟨a,rfl,rfl⟩⟩
theorem dY {w w':World} {o:Option U} {u:U} {A:Option Addr} {n c:Nat} (d:o=some u) (e:Below w.heap.size w w') (a:Own w w' u A n c):mg w o (.returned (.tuple #[.agg (cells u (.slice A n c)),.bool true])) w':=
 ⟨e,u,A,n,c,true,rfl,a,.inl ⟨d,rfl⟩⟩
theorem oG (b:UInt8):∀L:List UInt8,(aX b L).1.length≤L.length∧(aX b L).2.1.length≤L.length
 |[]=>by simp[aX]
 |c::L=>by
  have h:=oG b L
  unfold aX
  split
  ·simp
  ·simp only[List.length_cons]
   omega
theorem nV (S T:List UInt8) (w:World) (hs:T.length≤900000) (hL:pq w) (hT:Tab.Pow w) (hM:Max w):Calls prog 66 #[.string (ah S),.string (ah T)] w (mg w (authority S T)):=by
 obtain⟨O,hO⟩:∃O,O=authority S T:=⟨_,rfl⟩;rw[←hO];rw[Rj]at hO;obtain⟨X,hX⟩:∃X,X=T.take (upto (aj S) T):=⟨_,rfl⟩;obtain⟨D,hD⟩:∃D,D=T.drop (upto (aj S) T):=⟨_,rfl⟩;have f1:X.length≤900000:=by rw[hX,List.length_take];omega
 have i4:D.length≤900000:=by rw[hD,List.length_drop];omega
 have hU:∀w:World,Calls prog 149 #[.string (ah S),.string (ah T)] w fun e w'=>e=.returned (.tuple #[.string (ah X),.string (ah D)])∧Below w.heap.size w w':=fun w=>by rw[hX,hD];exact IK (ah S) (ah T) w (dN (by omega))
 rw[←hX,←hD]at hO;have g6:∀w:World,Calls prog 150 #[.string (ah X),.int .u8 64] w fun e w'=>e=.returned (.int .i64 (Lib.lastIndexByte (ah X) 64))∧w'=w:=fun w=>strings_LastIndexByte (ah X) 64 w (by rw[ak];omega);have i1:∀w:World,Calls prog 63 #[.string (ah S)] w fun e w'=>e=.returned (.bool (aj S))∧w'=w:=fun w=>jD (ah S) w;have i2:∀w:World,Calls prog 148 #[.string (ah S),.string (ah D)] w (jZ w.heap.size w (aB S D)):=fun w=>uV (ah S) (ah D) w (dN i4);have HU:=hid hU;have f4:=hid i1;have i5:=hid i2;have HL:=hid hL;have HT:=hid hT;have HM:=hid hM;clear hU i1 i2 hL hT hM hX hD i4 hs;have g4:=RY (ah X);rw[show(ah X).data.toList=X from rfl]at g4;obtain⟨zl,i0⟩:∃z,z=Lib.lastIndexByte (ah X) 64:=⟨_,rfl⟩;rw[←i0]at g6 g4;have k4:=hid g6;have i6:=hid hO;clear g6 i0 hO;go_enter func66,ntmps66;go_upto_region 1 with(fail)
 generalize hw:World.alloc w _=w1;have h1:UB w1 (w.heap.size) (U0) (.slice none 0 0)∧Below w.heap.size w w1:=by
  subst hw;exact jf w _ _
 clear hw;have L:Hid (w.heap.size≤w.heap.size):=(Below.refl w.heap.size w).size;have i7:=hid (bF (Below.refl w.heap.size w) h1.2);have g7:=hid h1.1;clear h1;go_wp2_with fail
 refine(HU _).mono ?_;rintro e r ⟨rfl,f⟩;have e6:=hid (g7.below f);have f7:=hid (bF i7 f);clear f;go_upto_region 3 with(fail)
 generalize hw:World.alloc r _=w3;have h1:UB w3 (r.heap.size) ({U0 with au:=S,hh:=true}) (.slice none 0 0)∧Below r.heap.size r w3:=by
  subst hw;exact jf r _ _
 clear hw;have i9:=e6.lt;have l:Hid (w.heap.size≠r.heap.size):=by show _≠_;omega
 clear i9;have I:Hid (w.heap.size≤r.heap.size):=f7.size;have e5:=hid (e6.below h1.2);have f0:=hid (bF f7 h1.2);have e4:=hid h1.1;clear h1;go_wp2_with fail
 refine(k4 _).mono ?_;rintro e wx ⟨rfl,n⟩;obtain rfl:w3=wx:=by first|exact n|exact n.symm
 clear n;rcases g4 with⟨rfl,hl⟩|⟨k,hk,rfl,hl⟩
 ·
  obtain⟨V,hV⟩:∃V,V=X:=⟨_,rfl⟩;have h3:Hid (O=Nb S [] [] V D):=by show _=_;rw[i6.out,show iU X=([],[],X,false)by unfold iU;rw[hl],hV];rfl
  have j6:V.length≤900000:=by rw[hV];exact f1
  rw[←hV];clear hl f1;subst hV;obtain⟨Y,H2,c,hh⟩:∃Y H2 c,kU false V=(Y,H2,c):=⟨_,_,_,rfl⟩;have d3:=(xO V false).1;have d2:=(xO V false).2;rw[hh]at d3 d2;simp only at d3 d2;have e0:∀w:World,Calls prog 151 #[.string (ah V)] w fun e w'=>e=.returned (.tuple #[.string (ah Y),.string (ah H2),.bool c])∧Below w.heap.size w w':=fun w=>by
   have h:=vJ (ah V) w (dN (by omega));rw[show(ah V).data.toList=V from rfl,hh]at h;exact h
  have h6:=hid e0;have e3:O=if c=true∧Y=[]then none else match aU Y (aj S),prt S H2 with|some H,some p=>some {U0 with au:=S,bU:=[],bW:=[],aU:=H,hh:=true,port:=p,aF:=aB S D}|_,_=>none:=by
   rw[h3.out];unfold Nb;rw[hh];first|done|rfl
  have hH:∀w:World,pq w→Tab.Pow w→Max w→Calls prog 152 #[.string (ah Y),.bool (aj S)] w fun e w'=>e=.returned (HV (aU Y (aj S)))∧Below w.heap.size w w':=fun w a b d=>um.jm (ah Y) (aj S) w (dN (by omega)) a b d;have e2:∀w:World,Calls prog 153 #[.string (ah S),.string (ah H2)] w fun e w'=>Xw (prt S H2) e∧w'=w:=fun w=>Fv (ah S) (ah H2) w (dN (by omega));have HH:=hid hH;have e7:=hid e2;have d5:=hid e3;clear e0 d3 d2 hh hH e2 e3;go_wp2_with fail
  refine(h6 _).mono ?_;rintro e w4 ⟨rfl,f⟩;have a2:=hid (e5.below f);have a9:=hid (e4.below f);have W:=hid (bF f0 f);clear f;cases c;focus
   have d4:Hid (O=match aU Y (aj S),prt S H2 with|some H,some p=>some {U0 with au:=S,bU:=[],bW:=[],aU:=H,hh:=true,port:=p,aF:=aB S D}|_,_=>none):=by show _=_;rw[d5.out,if_neg (by simp)]
   go_wp2_with fail
   refine(f4 _).mono ?_;rintro e wx ⟨rfl,n⟩;obtain rfl:w4=wx:=by first|exact n|exact n.symm
   clear n
  rotate_left
  focus
   by_cases h0:Y=[]
   ·
    have a3:Hid (O=none):=by show _=_;rw[d5.out,if_pos ⟨rfl,h0⟩]
    have q0:((ah Y).toList==[])=true:=by rw[bH,h0];rfl
    have q1:(ah Y).toList=[]:=by rw[bH,h0]
    clear h0;go_wp2_with (refine aI a2 U0 none 0 0 (.tmp 4) (.tmp 64) rfl rfl rfl rfl ?_)
    exact bodyPost_ret (gU rfl (a2.row U0 _) false _ rfl rfl) rfl (jJ a3 (below_setRow W L _))
   have d4:Hid (O=match aU Y (aj S),prt S H2 with|some H,some p=>some {U0 with au:=S,bU:=[],bW:=[],aU:=H,hh:=true,port:=p,aF:=aB S D}|_,_=>none):=by show _=_;rw[d5.out,if_neg (fun h=>h0 h.2)]
   have q0:((ah Y).toList==[])=false:=by rw[bH,beq_eq_false_iff_ne];exact h0
   have q1:¬(ah Y).toList=[]:=by rw[bH];exact h0
   have q2:(ah Y).toList.isEmpty=false:=by rw[bH];simpa using h0
   clear h0;go_wp2_with fail
   refine(f4 _).mono ?_;rintro e wx ⟨rfl,n⟩;obtain rfl:w4=wx:=by first|exact n|exact n.symm
   clear n
  rotate_left
  all_goals
   cases hx:aU Y (aj S)with
   |none=>
    have a3:Hid (O=none):=by show _=_;rw[d4.out,hx]
    rw[hx]at HH;clear hx;go_wp2_with fail
    refine(HH _ (HL.below W) (cZ HT W) (HM.below W)).mono ?_;rintro e w5 ⟨rfl,f⟩;have a6:=hid (a2.below f);have v:=hid (a9.below f);have b9:=hid (bF W f);clear f;rw[show HV none=.tuple #[.string (ah []),.bool false]from rfl];have cx:=v.facts.2.2.2.1;have fx:=v.thaw.2.2.2.1;go_upto_region 16 with(fail)
    have j:=a6.set (k:=r.heap.size) (i:=3) (.string (ah [])) (l);have g:=v.aU [];have t:=b9.setCell (p:=⟨r.heap.size,3,none⟩) (I) (.string (ah []));clear cx fx;generalize World.setCell w5 _ _=w6 at j g t⊢;have a5:Hid (UB w6 (w.heap.size) (U0) (.slice none 0 0)):=j;clear j;have y:Hid (UB w6 (r.heap.size) ({U0 with au:=S,bU:=[],bW:=[],hh:=true,aU:=[]}) (.slice none 0 0)):=g;clear g;have b8:=hid t;clear t;go_wp2_with fail
    refine(e7 _).mono ?_;rintro e wx ⟨hv,n⟩;obtain rfl:w6=wx:=n.symm;clear n;obtain⟨z,ok,rfl,d0⟩:=xZ hv;clear hv;have cx:=y.facts.2.2.2.2.2.1;have fx:=y.thaw.2.2.2.2.2.1;go_upto_region 17 with(fail)
    have j:=a5.set (k:=r.heap.size) (i:=5) (.int .i64 z) (l);have g:=y.port z;have t:=b8.setCell (p:=⟨r.heap.size,5,none⟩) (I) (.int .i64 z);clear cx fx;generalize World.setCell w6 _ _=w7 at j g t⊢;have F:Hid (UB w7 (w.heap.size) (U0) (.slice none 0 0)):=j;clear j;have Z:Hid (UB w7 (r.heap.size) ({U0 with au:=S,bU:=[],bW:=[],hh:=true,aU:=[],port:=z}) (.slice none 0 0)):=g;clear g;have a7:=hid t;clear t;clear d0;go_wp2_with (refine aI F U0 none 0 0 (.tmp 4) (.tmp 86) rfl rfl rfl rfl ?_)
    exact bodyPost_ret (gU rfl (F.row U0 _) false _ rfl rfl) rfl (jJ a3 (below_setRow a7 L _))
   |some R=>
    have e8:Hid (O=match prt S H2 with|some p=>some {U0 with au:=S,bU:=[],bW:=[],aU:=R,hh:=true,port:=p,aF:=aB S D}|none=>none):=by show _=_;rw[d4.out,hx];cases prt S H2<;>rfl
    rw[hx]at HH;clear hx;go_wp2_with fail
    refine(HH _ (HL.below W) (cZ HT W) (HM.below W)).mono ?_;rintro e w5 ⟨rfl,f⟩;have a6:=hid (a2.below f);have v:=hid (a9.below f);have b9:=hid (bF W f);clear f;rw[show HV (some R)=.tuple #[.string (ah R),.bool true]from rfl];have cx:=v.facts.2.2.2.1;have fx:=v.thaw.2.2.2.1;go_upto_region 16 with(fail)
    have j:=a6.set (k:=r.heap.size) (i:=3) (.string (ah R)) (l);have g:=v.aU R;have t:=b9.setCell (p:=⟨r.heap.size,3,none⟩) (I) (.string (ah R));clear cx fx;generalize World.setCell w5 _ _=w6 at j g t⊢;have a5:Hid (UB w6 (w.heap.size) (U0) (.slice none 0 0)):=j;clear j;have y:Hid (UB w6 (r.heap.size) ({U0 with au:=S,bU:=[],bW:=[],hh:=true,aU:=R}) (.slice none 0 0)):=g;clear g;have b8:=hid t;clear t;go_wp2_with fail
    refine(e7 _).mono ?_;rintro e wx ⟨hv,n⟩;obtain rfl:w6=wx:=n.symm;clear n;obtain⟨z,ok,rfl,d0⟩:=xZ hv;clear hv;have cx:=y.facts.2.2.2.2.2.1;have fx:=y.thaw.2.2.2.2.2.1;go_upto_region 17 with(fail)
    have j:=a5.set (k:=r.heap.size) (i:=5) (.int .i64 z) (l);have g:=y.port z;have t:=b8.setCell (p:=⟨r.heap.size,5,none⟩) (I) (.int .i64 z);clear cx fx;generalize World.setCell w6 _ _=w7 at j g t⊢;have F:Hid (UB w7 (w.heap.size) (U0) (.slice none 0 0)):=j;clear j;have Z:Hid (UB w7 (r.heap.size) ({U0 with au:=S,bU:=[],bW:=[],hh:=true,aU:=R,port:=z}) (.slice none 0 0)):=g;clear g;have a7:=hid t;clear t;rcases d0 with⟨hz,rfl⟩|⟨hz,rfl⟩
    ·
     have h4:Hid (O=some {U0 with au:=S,bU:=[],bW:=[],aU:=R,hh:=true,port:=z,aF:=aB S D}):=by show _=_;rw[e8.out,hz]
     clear hz;go_wp2_with fail
     refine(i5 _).mono ?_;rintro e w8 ⟨q,rfl,J,f⟩;obtain⟨A,c2,rfl,hq⟩:=bY (u:={U0 with aF:=aB S D}) J;clear hq;replace J:=aH J (Nat.le_refl _);have h5:Hid (r.heap.size<w7.heap.size):=Z.lt;have e9:Hid (w.heap.size<w7.heap.size):=F.lt;have a4:=hid (F.below f);have a1:=hid (Z.below f);have d9:=hid (bF a7 f);have g9:=hid J;clear J;clear f;have g3:=h5.out;have cx:=a1.facts.2.2.2.2.2.2.2.2.1;have fx:=a1.thaw.2.2.2.2.2.2.2.2.1;go_upto_region 20 with(fail)
     have j:=a4.set (k:=r.heap.size) (i:=8) (.slice A (aB S D).length c2) (l);have g:=a1.path (.slice A (aB S D).length c2);have d1:=fE.aP (w':=w8.setCell ⟨r.heap.size,8,none⟩ (.slice A (aB S D).length c2)) (gb:=r.heap.size) g9 (fun k hk=>heap_setCell_other _ _ _ _ hk) (by omega);have t:=d9.setCell (p:=⟨r.heap.size,8,none⟩) (I) (.slice A (aB S D).length c2);clear cx fx;generalize World.setCell w8 _ _=w9 at j g d1 t⊢;have a0:Hid (UB w9 (w.heap.size) (U0) (.slice none 0 0)):=j;clear j;have a8:Hid (UB w9 (r.heap.size) ({U0 with au:=S,bU:=[],bW:=[],hh:=true,aU:=R,port:=z}) (.slice A (aB S D).length c2)):=g;clear g;have g8:=hid d1;clear d1;have Q:=hid t;clear t;clear g3;obtain⟨c0,c1,j9,c3,c4,c5,c6,c7,c8,c9,k2,k1,k0⟩:=a8.facts;go_wp2_with (refine aI a0 {U0 with au:=S,bU:=[],bW:=[],hh:=true,aU:=R,port:=z} A (aB S D).length c2 (.tmp 4) (.tmp 91) rfl rfl rfl rfl ?_)
     have g2:∀k,k≠w.heap.size→(World.setRow w9 (w.heap.size) (cells {U0 with au:=S,bU:=[],bW:=[],hh:=true,aU:=R,port:=z} (.slice A (aB S D).length c2))).heap[k]?=w9.heap[k]?:=fun k hk=>setRow_other _ _ _ _ hk;have ho:=aH (fE.aP g8 g2 e9) (by have h1:=L.out;have h2:=e9.out;omega:w.heap.size≤_);exact bodyPost_ret (gU rfl (a0.row {U0 with au:=S,bU:=[],bW:=[],hh:=true,aU:=R,port:=z} _) true _ rfl rfl) rfl (dY (u:={U0 with au:=S,bU:=[],bW:=[],aU:=R,hh:=true,port:=z,aF:=aB S D}) h4 (below_setRow Q L _) ho)
    ·
     have a3:Hid (O=none):=by show _=_;rw[e8.out,hz]
     clear hz;go_wp2_with (refine aI F U0 none 0 0 (.tmp 4) (.tmp 86) rfl rfl rfl rfl ?_)
     exact bodyPost_ret (gU rfl (F.row U0 _) false _ rfl rfl) rfl (jJ a3 (below_setRow a7 L _))
 ·
  rw[ak]at hk;obtain⟨E,hE⟩:∃E,E=X.take k:=⟨_,rfl⟩;obtain⟨V,hV⟩:∃V,V=X.drop (k+1):=⟨_,rfl⟩;have j6:V.length≤900000:=by rw[hV,List.length_drop];omega
  have j8:E.length≤900000:=by rw[hE,List.length_take];omega
  obtain⟨N,P2,bb,hc⟩:∃N P2 b,aX 58 E=(N,P2,b):=⟨_,_,_,rfl⟩;have j7:N.length≤900000∧P2.length≤900000:=by have h:=oG 58 E;rw[hc]at h;simp only at h;omega
  have hC:∀w:World,Max w→Calls prog 44 #[.string (ah E),.string ⟨#[58]⟩] w fun e w'=>e=.returned (.tuple #[.string (ah N),.string (ah P2),.bool bb])∧Below w.heap.size w w':=fun w ⟨m,hm⟩=>(strings_Cut (ah E) ⟨#[58]⟩ m w (by rw[ak];omega) hm).mono fun e w' ⟨h1,q,h2⟩=>⟨by rw[h1,show(ah E).data.toList=E from rfl,show(⟨#[58]⟩:ByteArray).data.toList=[58]from rfl,wG,hc];rfl,by rw[h2];exact Base.below_drewN (Below.refl _ _) _⟩;have HC:=hid hC;have i8:(ah X).extract 0 k=ah E:=by rw[FW,hE];rfl
  have g1:(ah X).extract (k+1) (ah X).size=ah V:=by rw[kT,hV];rfl
  have i3:iU X=(aG.enc 5 N,aG.enc 5 P2,V,true):=by unfold iU;rw[hl];simp only;rw[←hE,←hV,hc]
  have hO:=i6.out;rw[i3]at hO;simp only at hO;have j2:(k:Int)≤((ah X).size:Int):=by rw[ak];omega
  have j1:(k:Int)+1≤((ah X).size:Int):=by rw[ak];omega
  have j4:¬(k:Int)<0:=by omega
  have j3:(0:Int)≤(k:Int):=by omega
  have j0:((k:Int)+1).toNat=k+1:=by omega
  have j5:(ah X).size≤900000:=dN f1;have HO:=hid hO;have k3:=hid g1;clear hC i3 hO hE hV hc hl;go_wp2_with fail
  refine(HC _ (HM.below f0)).mono ?_;rintro e w4 ⟨rfl,f⟩;have a2:=hid (e5.below f);have a9:=hid (e4.below f);have W:=hid (bF f0 f);clear f;clear i8;have g5:=fun(w:World) s=>run_bytes_of_string (P:=prog) w 9 45 5 s underlying9 underlying45 underlying5;go_wp2_with fail
  clear g5;refine(aG.gB 5 _ _ _ N _ (jr (ah N) _ _ _) (dN (by omega))).mono ?_;rintro e w5 ⟨rfl,e1⟩;have f:Below w4.heap.size w4 w5:=bF (((Below.refl w4.heap.size w4).alloc (Nat.le_refl _) _).drew) e1;clear e1;have a6:=hid (a2.below f);have v:=hid (a9.below f);have b9:=hid (bF W f);clear f;have cx:=v.facts.2.1;have fx:=v.thaw.2.1;go_upto_region 7 with(fail)
  have j:=a6.set (k:=r.heap.size) (i:=1) (.string (ah (aG.enc 5 N))) (l);have g:=v.bU (aG.enc 5 N);have t:=b9.setCell (p:=⟨r.heap.size,1,none⟩) (I) (.string (ah (aG.enc 5 N)));clear cx fx;generalize World.setCell w5 _ _=w6 at j g t⊢;have a5:Hid (UB w6 (w.heap.size) (U0) (.slice none 0 0)):=j;clear j;have y:Hid (UB w6 (r.heap.size) ({U0 with au:=S,hh:=true,bU:=aG.enc 5 N}) (.slice none 0 0)):=g;clear g;have b8:=hid t;clear t;have g5:=fun(w:World) s=>run_bytes_of_string (P:=prog) w 9 45 5 s underlying9 underlying45 underlying5;go_wp2_with fail
  clear g5;refine(aG.gB 5 _ _ _ P2 _ (jr (ah P2) _ _ _) (dN (by omega))).mono ?_;rintro e w7 ⟨rfl,e1⟩;have f:Below w6.heap.size w6 w7:=bF (((Below.refl w6.heap.size w6).alloc (Nat.le_refl _) _).drew) e1;clear e1;have F:=hid (a5.below f);have Z:=hid (y.below f);have a7:=hid (bF b8 f);clear f;have cx:=Z.facts.2.2.1;have fx:=Z.thaw.2.2.1;go_upto_region 8 with(fail)
  have j:=F.set (k:=r.heap.size) (i:=2) (.string (ah (aG.enc 5 P2))) (l);have g:=Z.bW (aG.enc 5 P2);have t:=a7.setCell (p:=⟨r.heap.size,2,none⟩) (I) (.string (ah (aG.enc 5 P2)));clear cx fx;generalize World.setCell w7 _ _=w8 at j g t⊢;have a4:Hid (UB w8 (w.heap.size) (U0) (.slice none 0 0)):=j;clear j;have a1:Hid (UB w8 (r.heap.size) ({U0 with au:=S,hh:=true,bU:=aG.enc 5 N,bW:=aG.enc 5 P2}) (.slice none 0 0)):=g;clear g;have d9:=hid t;clear t;have g1:=k3.out;by_cases h0:V=[]
  ·
   have a3:Hid (O=none):=by show _=_;rw[HO.out,if_pos ⟨by first|rfl|trivial,h0⟩]
   have q0:((ah V).toList==[])=true:=by rw[bH,h0];rfl
   have q1:(ah V).toList=[]:=by rw[bH,h0]
   clear h0;go_wp2_with (refine aI a4 U0 none 0 0 (.tmp 4) (.tmp 52) rfl rfl rfl rfl ?_)
   exact bodyPost_ret (gU rfl (a4.row U0 _) false _ rfl rfl) rfl (jJ a3 (below_setRow d9 L _))
  ·
   obtain⟨xe,g0⟩:∃x,x=aG.enc 5 N:=⟨_,rfl⟩;obtain⟨ye,f9⟩:∃x,x=aG.enc 5 P2:=⟨_,rfl⟩;have h3:Hid (O=Nb S xe ye V D):=by show _=_;rw[HO.out,if_neg (fun h=>h0 h.2),g0,f9]
   have q0:((ah V).toList==[])=false:=by rw[bH,beq_eq_false_iff_ne];exact h0
   have q1:¬(ah V).toList=[]:=by rw[bH];exact h0
   have q2:(ah V).toList.isEmpty=false:=by rw[bH];simpa using h0
   rw[←g0,←f9]at a1;clear h0 g0 f9;go_upto_region 11 with(fail)
   clear q0 q1 q2 g1 j2 j1 j4 j3 j0 j5 f1 j8 j7;obtain⟨Y,H2,c,hh⟩:∃Y H2 c,kU false V=(Y,H2,c):=⟨_,_,_,rfl⟩;have d3:=(xO V false).1;have d2:=(xO V false).2;rw[hh]at d3 d2;simp only at d3 d2;have e0:∀w:World,Calls prog 151 #[.string (ah V)] w fun e w'=>e=.returned (.tuple #[.string (ah Y),.string (ah H2),.bool c])∧Below w.heap.size w w':=fun w=>by
    have h:=vJ (ah V) w (dN (by omega));rw[show(ah V).data.toList=V from rfl,hh]at h;exact h
   have h6:=hid e0;have e3:O=if c=true∧Y=[]then none else match aU Y (aj S),prt S H2 with|some H,some p=>some {U0 with au:=S,bU:=xe,bW:=ye,aU:=H,hh:=true,port:=p,aF:=aB S D}|_,_=>none:=by
    rw[h3.out];unfold Nb;rw[hh];first|done|rfl
   have hH:∀w:World,pq w→Tab.Pow w→Max w→Calls prog 152 #[.string (ah Y),.bool (aj S)] w fun e w'=>e=.returned (HV (aU Y (aj S)))∧Below w.heap.size w w':=fun w a b d=>um.jm (ah Y) (aj S) w (dN (by omega)) a b d;have e2:∀w:World,Calls prog 153 #[.string (ah S),.string (ah H2)] w fun e w'=>Xw (prt S H2) e∧w'=w:=fun w=>Fv (ah S) (ah H2) w (dN (by omega));have HH:=hid hH;have e7:=hid e2;have d5:=hid e3;clear e0 d3 d2 hh hH e2 e3;go_wp2_with fail
   refine(h6 _).mono ?_;rintro e w9 ⟨rfl,f⟩;have a0:=hid (a4.below f);have a8:=hid (a1.below f);have Q:=hid (bF d9 f);clear f;cases c;focus
    have d4:Hid (O=match aU Y (aj S),prt S H2 with|some H,some p=>some {U0 with au:=S,bU:=xe,bW:=ye,aU:=H,hh:=true,port:=p,aF:=aB S D}|_,_=>none):=by show _=_;rw[d5.out,if_neg (by simp)]
    go_wp2_with fail
    refine(f4 _).mono ?_;rintro e wx ⟨rfl,n⟩;obtain rfl:w9=wx:=by first|exact n|exact n.symm
    clear n
   rotate_left
   focus
    by_cases h0:Y=[]
    ·
     have a3:Hid (O=none):=by show _=_;rw[d5.out,if_pos ⟨rfl,h0⟩]
     have q0:((ah Y).toList==[])=true:=by rw[bH,h0];rfl
     have q1:(ah Y).toList=[]:=by rw[bH,h0]
     clear h0;go_wp2_with (refine aI a0 U0 none 0 0 (.tmp 4) (.tmp 64) rfl rfl rfl rfl ?_)
     exact bodyPost_ret (gU rfl (a0.row U0 _) false _ rfl rfl) rfl (jJ a3 (below_setRow Q L _))
    have d4:Hid (O=match aU Y (aj S),prt S H2 with|some H,some p=>some {U0 with au:=S,bU:=xe,bW:=ye,aU:=H,hh:=true,port:=p,aF:=aB S D}|_,_=>none):=by show _=_;rw[d5.out,if_neg (fun h=>h0 h.2)]
    have q0:((ah Y).toList==[])=false:=by rw[bH,beq_eq_false_iff_ne];exact h0
    have q1:¬(ah Y).toList=[]:=by rw[bH];exact h0
    have q2:(ah Y).toList.isEmpty=false:=by rw[bH];simpa using h0
    clear h0;go_wp2_with fail
    refine(f4 _).mono ?_;rintro e wx ⟨rfl,n⟩;obtain rfl:w9=wx:=by first|exact n|exact n.symm
    clear n
   rotate_left
   all_goals
    cases hx:aU Y (aj S)with
    |none=>
     have a3:Hid (O=none):=by show _=_;rw[d4.out,hx]
     rw[hx]at HH;clear hx;go_wp2_with fail
     refine(HH _ (HL.below Q) (cZ HT Q) (HM.below Q)).mono ?_;rintro e f8 ⟨rfl,f⟩;have b6:=hid (a0.below f);have C:=hid (a8.below f);have d7:=hid (bF Q f);clear f;rw[show HV none=.tuple #[.string (ah []),.bool false]from rfl];have cx:=C.facts.2.2.2.1;have fx:=C.thaw.2.2.2.1;go_upto_region 16 with(fail)
     have j:=b6.set (k:=r.heap.size) (i:=3) (.string (ah [])) (l);have g:=C.aU [];have t:=d7.setCell (p:=⟨r.heap.size,3,none⟩) (I) (.string (ah []));clear cx fx;generalize World.setCell f8 _ _=w11 at j g t⊢;have b5:Hid (UB w11 (w.heap.size) (U0) (.slice none 0 0)):=j;clear j;have B:Hid (UB w11 (r.heap.size) ({U0 with au:=S,bU:=xe,bW:=ye,hh:=true,aU:=[]}) (.slice none 0 0)):=g;clear g;have d6:=hid t;clear t;go_wp2_with fail
     refine(e7 _).mono ?_;rintro e wx ⟨hv,n⟩;obtain rfl:w11=wx:=n.symm;clear n;obtain⟨z,ok,rfl,d0⟩:=xZ hv;clear hv;have cx:=B.facts.2.2.2.2.2.1;have fx:=B.thaw.2.2.2.2.2.1;go_upto_region 17 with(fail)
     have j:=b5.set (k:=r.heap.size) (i:=5) (.int .i64 z) (l);have g:=B.port z;have t:=d6.setCell (p:=⟨r.heap.size,5,none⟩) (I) (.int .i64 z);clear cx fx;generalize World.setCell w11 _ _=w12 at j g t⊢;have G:Hid (UB w12 (w.heap.size) (U0) (.slice none 0 0)):=j;clear j;have b3:Hid (UB w12 (r.heap.size) ({U0 with au:=S,bU:=xe,bW:=ye,hh:=true,aU:=[],port:=z}) (.slice none 0 0)):=g;clear g;have b7:=hid t;clear t;clear d0;go_wp2_with (refine aI G U0 none 0 0 (.tmp 4) (.tmp 86) rfl rfl rfl rfl ?_)
     exact bodyPost_ret (gU rfl (G.row U0 _) false _ rfl rfl) rfl (jJ a3 (below_setRow b7 L _))
    |some R=>
     have e8:Hid (O=match prt S H2 with|some p=>some {U0 with au:=S,bU:=xe,bW:=ye,aU:=R,hh:=true,port:=p,aF:=aB S D}|none=>none):=by show _=_;rw[d4.out,hx];cases prt S H2<;>rfl
     rw[hx]at HH;clear hx;go_wp2_with fail
     refine(HH _ (HL.below Q) (cZ HT Q) (HM.below Q)).mono ?_;rintro e f8 ⟨rfl,f⟩;have b6:=hid (a0.below f);have C:=hid (a8.below f);have d7:=hid (bF Q f);clear f;rw[show HV (some R)=.tuple #[.string (ah R),.bool true]from rfl];have cx:=C.facts.2.2.2.1;have fx:=C.thaw.2.2.2.1;go_upto_region 16 with(fail)
     have j:=b6.set (k:=r.heap.size) (i:=3) (.string (ah R)) (l);have g:=C.aU R;have t:=d7.setCell (p:=⟨r.heap.size,3,none⟩) (I) (.string (ah R));clear cx fx;generalize World.setCell f8 _ _=w11 at j g t⊢;have b5:Hid (UB w11 (w.heap.size) (U0) (.slice none 0 0)):=j;clear j;have B:Hid (UB w11 (r.heap.size) ({U0 with au:=S,bU:=xe,bW:=ye,hh:=true,aU:=R}) (.slice none 0 0)):=g;clear g;have d6:=hid t;clear t;go_wp2_with fail
     refine(e7 _).mono ?_;rintro e wx ⟨hv,n⟩;obtain rfl:w11=wx:=n.symm;clear n;obtain⟨z,ok,rfl,d0⟩:=xZ hv;clear hv;have cx:=B.facts.2.2.2.2.2.1;have fx:=B.thaw.2.2.2.2.2.1;go_upto_region 17 with(fail)
     have j:=b5.set (k:=r.heap.size) (i:=5) (.int .i64 z) (l);have g:=B.port z;have t:=d6.setCell (p:=⟨r.heap.size,5,none⟩) (I) (.int .i64 z);clear cx fx;generalize World.setCell w11 _ _=w12 at j g t⊢;have G:Hid (UB w12 (w.heap.size) (U0) (.slice none 0 0)):=j;clear j;have b3:Hid (UB w12 (r.heap.size) ({U0 with au:=S,bU:=xe,bW:=ye,hh:=true,aU:=R,port:=z}) (.slice none 0 0)):=g;clear g;have b7:=hid t;clear t;rcases d0 with⟨hz,rfl⟩|⟨hz,rfl⟩
     ·
      have h4:Hid (O=some {U0 with au:=S,bU:=xe,bW:=ye,aU:=R,hh:=true,port:=z,aF:=aB S D}):=by show _=_;rw[e8.out,hz]
      clear hz;go_wp2_with fail
      refine(i5 _).mono ?_;rintro e h9 ⟨q,rfl,J,f⟩;obtain⟨A,c2,rfl,hq⟩:=bY (u:={U0 with aF:=aB S D}) J;clear hq;replace J:=aH J (Nat.le_refl _);have h5:Hid (r.heap.size<w12.heap.size):=b3.lt;have e9:Hid (w.heap.size<w12.heap.size):=G.lt;have f3:=hid (G.below f);have b0:=hid (b3.below f);have h8:=hid (bF b7 f);have f6:=hid J;clear J;clear f;have g3:=h5.out;have cx:=b0.facts.2.2.2.2.2.2.2.2.1;have fx:=b0.thaw.2.2.2.2.2.2.2.2.1;go_upto_region 20 with(fail)
      have j:=f3.set (k:=r.heap.size) (i:=8) (.slice A (aB S D).length c2) (l);have g:=b0.path (.slice A (aB S D).length c2);have d1:=fE.aP (w':=h9.setCell ⟨r.heap.size,8,none⟩ (.slice A (aB S D).length c2)) (gb:=r.heap.size) f6 (fun k hk=>heap_setCell_other _ _ _ _ hk) (by omega);have t:=h8.setCell (p:=⟨r.heap.size,8,none⟩) (I) (.slice A (aB S D).length c2);clear cx fx;generalize World.setCell h9 _ _=w14 at j g d1 t⊢;have d8:Hid (UB w14 (w.heap.size) (U0) (.slice none 0 0)):=j;clear j;have f2:Hid (UB w14 (r.heap.size) ({U0 with au:=S,bU:=xe,bW:=ye,hh:=true,aU:=R,port:=z}) (.slice A (aB S D).length c2)):=g;clear g;have f5:=hid d1;clear d1;have h7:=hid t;clear t;clear g3;obtain⟨c0,c1,j9,c3,c4,c5,c6,c7,c8,c9,k2,k1,k0⟩:=f2.facts;go_wp2_with (refine aI d8 {U0 with au:=S,bU:=xe,bW:=ye,hh:=true,aU:=R,port:=z} A (aB S D).length c2 (.tmp 4) (.tmp 91) rfl rfl rfl rfl ?_)
      have g2:∀k,k≠w.heap.size→(World.setRow w14 (w.heap.size) (cells {U0 with au:=S,bU:=xe,bW:=ye,hh:=true,aU:=R,port:=z} (.slice A (aB S D).length c2))).heap[k]?=w14.heap[k]?:=fun k hk=>setRow_other _ _ _ _ hk;have ho:=aH (fE.aP f5 g2 e9) (by have h1:=L.out;have h2:=e9.out;omega:w.heap.size≤_);exact bodyPost_ret (gU rfl (d8.row {U0 with au:=S,bU:=xe,bW:=ye,hh:=true,aU:=R,port:=z} _) true _ rfl rfl) rfl (dY (u:={U0 with au:=S,bU:=xe,bW:=ye,aU:=R,hh:=true,port:=z,aF:=aB S D}) h4 (below_setRow h7 L _) ho)
     ·
      have a3:Hid (O=none):=by show _=_;rw[e8.out,hz]
      clear hz;go_wp2_with (refine aI G U0 none 0 0 (.tmp 4) (.tmp 86) rfl rfl rfl rfl ?_)
      exact bodyPost_ret (gU rfl (G.row U0 _) false _ rfl rfl) rfl (jJ a3 (below_setRow b7 L _))
end yM
