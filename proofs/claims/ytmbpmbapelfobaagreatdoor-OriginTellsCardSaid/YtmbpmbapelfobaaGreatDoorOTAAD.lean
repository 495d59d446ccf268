/- Lemmas. -/
import Derived.Test.YtmbpmbapelfobaaGreatDoorOTAAC
import Derived.Laws.CopyOwn
import Derived.Lib.LaidTab
import Derived.Lib.LaidU8
import Derived.Lib.SmallJoins
import Derived.Laws.Bits64b
import Derived.StillTail
set_option linter.unusedSimpArgs false
set_option linter.unusedVariables false
set_option maxRecDepth 100000
set_option maxHeartbeats 64000000
namespace Go.Proofs.YtmbpmbapelfobaaGreatDoor
open Tryz
namespace fH
open Go.RowKit Base aV qy Ba vJ
def mM:List Nat:=[0,0,0,0,0,0,0,0]
def GK (o:Option (List Nat)):Value:=match o with
 |some V=>.tuple #[.agg (bC V).toArray,.bool true]
 |none=>.tuple #[.agg (bC mM).toArray,.bool false]
theorem fD {o:Option (List Nat)} (h:o=none):GK o=.tuple #[.agg (bC mM).toArray,.bool false]:=by rw[h];rfl
theorem tV {o:Option (List Nat)} {V:List Nat} (h:o=some V):GK o=.tuple #[.agg (bC V).toArray,.bool true]:=by rw[h];rfl
theorem dA {w:World} {g:Nat} {t:TypeId} {L:List Nat} (h:Box w g t L) (f:Nat→Nat) (a:L=[f 0,f 1,f 2,f 3,f 4,f 5,f 6,f 7]):
  w.cell? ⟨g,0,none⟩=some (.int .u16 (f 0:Int))∧w.cell? ⟨g,1,none⟩=some (.int .u16 (f 1:Int))∧w.cell? ⟨g,2,none⟩=some (.int .u16 (f 2:Int))∧w.cell? ⟨g,3,none⟩=some (.int .u16 (f 3:Int))∧w.cell? ⟨g,4,none⟩=some (.int .u16 (f 4:Int))∧w.cell? ⟨g,5,none⟩=some (.int .u16 (f 5:Int))∧w.cell? ⟨g,6,none⟩=some (.int .u16 (f 6:Int))∧w.cell? ⟨g,7,none⟩=some (.int .u16 (f 7:Int)):=by
 subst a;refine⟨h.cell 0 (by simp),h.cell 1 (by simp),h.cell 2 (by simp),h.cell 3 (by simp),h.cell 4 (by simp),h.cell 5 (by simp),h.cell 6 (by simp),h.cell 7 (by simp)⟩
theorem gy {w:World} {g:Nat} {t:TypeId} {L:List Nat} (h:Box w g t L):w.frozen? ⟨g,0,none⟩=false∧w.frozen? ⟨g,1,none⟩=false∧w.frozen? ⟨g,2,none⟩=false∧w.frozen? ⟨g,3,none⟩=false∧w.frozen? ⟨g,4,none⟩=false∧w.frozen? ⟨g,5,none⟩=false∧w.frozen? ⟨g,6,none⟩=false∧w.frozen? ⟨g,7,none⟩=false:=
 ⟨h.frozen 0,h.frozen 1,h.frozen 2,h.frozen 3,h.frozen 4,h.frozen 5,h.frozen 6,h.frozen 7⟩
def pW (w:World) (g:Nat) (f:Nat→Nat):World:=(((((((w.setCell ⟨g,0,none⟩ (.int .u16 (f 0:Int))).setCell ⟨g,1,none⟩ (.int .u16 (f 1:Int))).setCell ⟨g,2,none⟩ (.int .u16 (f 2:Int))).setCell ⟨g,3,none⟩ (.int .u16 (f 3:Int))).setCell ⟨g,4,none⟩ (.int .u16 (f 4:Int))).setCell ⟨g,5,none⟩ (.int .u16 (f 5:Int))).setCell ⟨g,6,none⟩ (.int .u16 (f 6:Int))).setCell ⟨g,7,none⟩ (.int .u16 (f 7:Int))
theorem gq {w:World} {g:Nat} {t:TypeId} (h:Box w g t mM) (f:Nat→Nat):Box (pW w g f) g t [f 0,f 1,f 2,f 3,f 4,f 5,f 6,f 7]:=
 (((((((h.set 0 (f 0)).set 1 (f 1)).set 2 (f 2)).set 3 (f 3)).set 4 (f 4)).set 5 (f 5)).set 6 (f 6)).set 7 (f 7)
theorem dH {w0 w:World} {B g:Nat} (h:Below B w0 w) (a:B≤g) (f:Nat→Nat):Below B w0 (pW w g f):=(((((((h.setCell a _).setCell a _).setCell a _).setCell a _).setCell a _).setCell a _).setCell a _).setCell a _
theorem abh {w:World} {g:Nat} {L:List Nat} (h:Box w g 156 L) (a:L.length=8):(loadVar 156 ⟨g,0,none⟩).run prog w=.ok (.agg (bC L).toArray) w:=
 run_loadVar_row w g _ _ (bC L).toArray (0,0) _ h underlying156 rfl (by
  rw[show(prog.info? 156).map (·.size)=some 8 by kernel_rfl]
  simp[bC,a])
theorem pX {w:World} {g:Nat} {L:List Nat} (h:Box w g 156 L) (e:L.length=8) (ok:Bool) (a:Array Value) (i:a.getD 2 undef=.pointer (some ⟨g,0,none⟩)) (f:a.getD 3 undef=.bool ok):
  (results f161 a).run prog w=.ok (.tuple #[.agg (bC L).toArray,.bool ok]) w:=by
 have d:a[2]?.getD undef=.pointer (some ⟨g,0,none⟩):=by simpa using i
 have c:a[3]?.getD undef=.bool ok:=by simpa using f
 simp[results,results161,d,c,asAddr,abh h e]
theorem aQ {w w':World} {base gb:Nat} {e:TypeId} {size n:Nat} {v:Value} {a:List Value} (h:w.ownsRow base e size v n a) (c:∀k,k≠gb→w'.heap[k]?=w.heap[k]?) (d:gb<base):w'.ownsRow base e size v n a:=by
 refine⟨h.1,?_⟩;rcases h.2 with hn|⟨g,cap,cur,rfl,hb,hh,rest⟩
 ·exact .inl hn
 exact .inr ⟨g,cap,cur,rfl,hb,(c g (by omega)).trans hh,rest⟩
theorem GU (L:List Nat) (off:Nat) (cs:List Nat):splice (bC L) off (bC cs)=bC (splice L off cs):=by simp[splice,bC]
theorem vV {P:Program} {w:World} {ops:Array Oper} {rest:List Oper} {o:Oper} {a:Act} {Q:Exit→Act→World→Prop} (r:o.guard=none) (d s:Operand) (y z:TypeId)
  (H:o.op=.call {callee:=.builtin .copy,args:=#[d,s],argTypes:=#[y,z]}) (f:TypeId) (E:P.underlying y=some (.slice f)) (m:(P.info? f).map (·.size)=some 1)
  (dp:Option Addr) (i l:Nat) (A:Option Addr) (n c:Nat) (J:a.eval d=.slice dp i l) (F:a.eval s=.slice A n c)
  (g off:Nat) (L:List Nat) (t:TypeId) (C:Box w g t L) (cs:List Nat) (G:dW w A n (bC cs)) (N:n≤i) (q:0<n→dp=some ⟨g,off,none⟩) (x:off+cs.length≤L.length)
  (h:∀w',Hid (Box w' g t (splice L off cs))→(∀k,k≠g→w'.heap[k]?=w.heap[k]?)→Below g w w'→wpList P ops Q rest (a.put o.dst (goInt (bC cs).length)) w'):
  wpList P ops Q (o::rest) a w:=by
 have I:cs.length=n:=by rw[←jP];exact G.1
 by_cases h0:n=0
 ·subst h0;obtain rfl:cs=[]:=List.eq_nil_of_length_eq_zero I;refine wpList_copy_nothing r d s y z H f E m dp A i l 0 c J F (by simp) ?_;exact h w (show Box _ _ _ _ by simpa[splice]using C) (fun _ _=>rfl) (Below.refl _ _)
 ·obtain rfl:=q (by omega);obtain⟨b,D,rfl,_,O⟩:=G.spot (by omega);refine wpList_copy_own r d s y z H f E m g off i l ⟨b,D,none⟩ n c J F (bC L).toArray t C (bC cs) (by rw[jP,I];exact(Nat.min_eq_left N).symm) (fun j v hj=>?_) (by simpa[bC]using x) (OZ cs) ?_
  ·obtain⟨B,e⟩:=List.getElem?_eq_some_iff.1 hj;have T:(⟨b,D,none⟩:Addr).add j=⟨b,D+j,none⟩:=by
    unfold Addr.add;split<;>simp_all
   rw[T,O j B,e]
  ·refine h _ ?_ (fun k hk=>setRow_other w g k _ hk) (below_setRow (Below.refl _ _) (Nat.le_refl _) _);have:=setRow_heap w g (bC L).toArray ((bC L).take off++(bC cs++(bC L).drop (off+(bC cs).length))).toArray t (0,0) C;show Box _ _ _ _;unfold Box;rw[←GU];exact this
theorem Lj:∀{s:List UInt8} {p:List UInt8×List UInt8},vK s=some p→p.1.length≤s.length∧p.2.length≤s.length
 |[],_,h=>by cases h
 |[_],_,h=>by cases h
 | a :: b :: r, p, h => by
  rw[vK]at h
  split at h
  ·injection h with h;subst h;simp;omega
  ·cases e:vK (b::r)with
   |none=>rw[e]at h;cases h
   |some q=>
    rw[e]at h
    injection h with h
    subst h
    have:=Lj e
    simp at this⊢
    omega
theorem Xb (e:Bool):∀{ps:List (List UInt8)} {l:List Nat},lV e ps=some l→l.length≤ps.length+1
 |[],l,h=>by injection h with h;subst h;simp
 | p ::r,l,h=>by
  rw[lV]at h
  split at h
  ·have:=Ae h;simp;omega
  ·split at h
   ·cases h
   ·split at h
    ·cases h
    ·rename_i x e2
     injection h with h
     subst h
     have:=Xb e e2
     simp
     omega
theorem Np {e:Bool} {ps:List (List UInt8)} {l:List Nat} (h:fC e ps=some l):l.length≤ps.length+1:=by
 unfold fC at h;split at h
 ·injection h with h;subst h;simp
 exact Xb e h
theorem uZ {V:List Nat} (h:V.length=8):V=[V.getD 0 0,V.getD 1 0,V.getD 2 0,V.getD 3 0,V.getD 4 0,V.getD 5 0,V.getD 6 0,V.getD 7 0]:=by
 match V,h with
 |[a,b,c,d,e,f,g,i],_=>rfl
theorem PU {l:List Nat} (h:l.length=8):splice mM 0 l=l:=by
 unfold splice;rw[h];simp[mM]
theorem Dk (a b:List Nat) (h:a.length+b.length<8):splice (splice mM 0 a) (8 - b.length) b=fill a b:=by
 have c:splice mM 0 a=a++List.replicate (8 - a.length) 0:=by
  unfold splice;rw[show mM=List.replicate 8 0 from rfl,List.take_zero,List.nil_append,List.drop_replicate,Nat.zero_add]
 rw[c];unfold splice fill;rw[List.take_append,List.take_of_length_le (show a.length≤8 - b.length by omega),List.take_replicate,List.drop_eq_nil_of_le (by simp;omega),List.append_nil];rw[show min (8 - b.length - a.length) (8 - a.length)=8 - (a.length+b.length)by omega]
theorem jS (s : ByteArray) (w : World) (hs : s.size ≤ 1048576) (hM : Max w) : Calls prog 161 #[.string s] w fun e w' => e = .returned (GK (six s.data.toList)) ∧ Below w.heap.size w w' := by
 have P:=hid hM;clear hM;go_enter func161,ntmps161;go_wp2_with fail
 generalize hw1:((w.alloc _).alloc _).alloc _=w1;have h9:Hid (Below w.heap.size w w1):=by
  show Below _ _ _;rw[←hw1];exact(((Below.refl _ _).alloc (Nat.le_refl _) _).alloc (by simp) _).alloc (by simp;omega) _
 have HA:Hid (Box w1 w.heap.size 156 mM):=by
  show Box _ _ _ _;rw[←hw1];unfold Box;rw[heap_alloc_old _ _ (by simp;omega),heap_alloc_old _ _ (by simp)];exact heap_alloc_new _ _
 have HN:Hid (Box w1 (w.heap.size+1) 156 mM):=by
  show Box _ _ _ _;rw[←hw1];unfold Box;rw[heap_alloc_old _ _ (by simp)];have:=heap_alloc_new (w.alloc (.cells (bC mM).toArray 156)) (.cells (bC mM).toArray 156);rw[show(w.alloc (.cells (bC mM).toArray 156)).heap.size=w.heap.size+1 by simp]at this;exact this
 have HV:Hid (Box w1 (w.heap.size+1+1) 156 mM):=by
  show Box _ _ _ _;rw[←hw1];unfold Box;have:=heap_alloc_new ((w.alloc (.cells (bC mM).toArray 156)).alloc (.cells (bC mM).toArray 156)) (.cells (bC mM).toArray 156);rw[show((w.alloc (.cells (bC mM).toArray 156)).alloc (.cells (bC mM).toArray 156)).heap.size=w.heap.size+1+1 by simp]at this;exact this
 clear hw1;refine(Y1 s _ (by omega) (P.below h9)).mono ?_;rintro e wc ⟨rfl,m,rfl⟩;have W:Hid (Below w.heap.size w (w1.drewN m)):=Base.below_drewN h9 m;have e8:Hid (Box (w1.drewN m) w.heap.size 156 mM):=HA;have d9:Hid (Box (w1.drewN m) (w.heap.size+1) 156 mM):=HN;have b7:Hid (Box (w1.drewN m) (w.heap.size+1+1) 156 mM):=HV;generalize w1.drewN m=w2 at W e8 d9 b7;cases hc:vK s.data.toList with
 | none=>
  have HC:Hid (six s.data.toList=eight (lV true (dD s.data.toList)) []):=by show _=_;unfold six;rw[hc]
  have e0:Hid (cutV s=.tuple #[.string s,.string (ah []),.bool false]):=by show _=_;unfold cutV;rw[hc]
  rw[e0.out];clear hc;go_wp2_with fail
  refine(FB s true _ hs (P.below W)).mono ?_;rintro e w3 ⟨hp,k⟩;have x:=hid (bD W k);have q:=hid (e8.below k);have O:=hid (d9.below k);have b6:=hid (b7.below k);obtain⟨S,hS⟩:∃S,S=lV true (dD s.data.toList):=⟨_,rfl⟩;rw[←hS]at hp HC;clear hS k;cases S with
  |none=>
   obtain⟨v,rfl⟩:=hp;have t:=hid (fD HC);obtain⟨c0,c1,c2,c3,c4,c5,c6,c7⟩:=dA O (fun _=>0) rfl;obtain⟨a0,a1,a2,a3,a4,a5,a6,a7⟩:=dA q (fun _=>0) rfl;obtain⟨f0,f1,f2,f3,f4,f5,f6,f7⟩:=gy q;go_wp2;exact bodyPost_ret (w:=pW _ w.heap.size (fun _=>0)) (pX (L:=mM) (gq q (fun _=>0)) rfl false _ rfl rfl) rfl ⟨by rw[t.out],dH x (Nat.le_refl _) _⟩
  |some l=>
   obtain⟨v,rfl,ho⟩:=hp;obtain⟨A,c,rfl,i2,j7,hr⟩:=aW ho;have HR:=hid hr;clear ho hr;by_cases h8:l.length=8
   ·have g:=hid h8;have g7:((l.length:Int)==8)=true:=by simp;omega
    have i4:(l.length:Int)=8:=by omega
    rw[h8]at HR;obtain⟨n8,g1⟩:∃n8,n8=l.length:=⟨_,rfl⟩;rw[←g1]at g7 i4 h8 i2⊢;subst h8;clear g1;go_wp2_with (refine vV rfl _ _ 172 172 rfl 155 underlying172 (by kernel_rfl) _ _ _ A _ _ (by rfl) (by rfl) (w.heap.size+1+1) 0 mM 156 b6 l HR (Nat.le_refl _) (fun _=>rfl) (by rw[g.out];exact Nat.le_refl _) ?_)
    intro w4 e9 g0 f;have b5:Hid (Box w4 (w.heap.size+1+1) 156 l):=by have:=e9.out;rw[PU g.out]at this;exact this
    have d:Hid (Box w4 w.heap.size 156 mM):=(g0 _ (by omega)).trans q;have r:Hid (Below w.heap.size w w4):=x.trans (f.mono (by omega));clear e9 g0 f;have t:=hid (tV (show six s.data.toList=some l by rw[HC.out];unfold eight;simp only[];rw[if_pos (by rw[g.out];rfl)];rfl));obtain⟨c0,c1,c2,c3,c4,c5,c6,c7⟩:=dA b5 (fun i=>(l).getD i 0) (uZ g);obtain⟨a0,a1,a2,a3,a4,a5,a6,a7⟩:=dA d (fun _=>0) rfl;obtain⟨f0,f1,f2,f3,f4,f5,f6,f7⟩:=gy d;go_wp2;exact bodyPost_ret (w:=pW _ w.heap.size (fun i=>(l).getD i 0)) (pX (gq d (fun i=>(l).getD i 0)) rfl true _ rfl rfl) rfl ⟨(congrArg (fun z=>Ending.returned (.tuple #[.agg (bC z).toArray,.bool true])) (uZ g).symm).trans (by rw[t.out]),dH r (Nat.le_refl _) _⟩
   have g7:((l.length:Int)==8)=false:=by simp;omega
   have g:=hid h8;have t:=hid (fD (show six s.data.toList=none by rw[HC.out];unfold eight;simp only[];rw[if_neg (by simpa using g.out)]));obtain⟨c0,c1,c2,c3,c4,c5,c6,c7⟩:=dA O (fun _=>0) rfl;obtain⟨a0,a1,a2,a3,a4,a5,a6,a7⟩:=dA q (fun _=>0) rfl;obtain⟨f0,f1,f2,f3,f4,f5,f6,f7⟩:=gy q;go_wp2;exact bodyPost_ret (w:=pW _ w.heap.size (fun _=>0)) (pX (L:=mM) (gq q (fun _=>0)) rfl false _ rfl rfl) rfl ⟨by rw[t.out],dH x (Nat.le_refl _) _⟩
 | some p =>
  have HC:Hid (six s.data.toList=both (fC false (dD p.1)) (fC true (dD p.2)) []):=by show _=_;unfold six;rw[hc]
  have e0:Hid (cutV s=.tuple #[.string (ah p.1),.string (ah p.2),.bool true]):=by show _=_;unfold cutV;rw[hc]
  have g2:=Lj hc;have i0:s.data.toList.length=s.size:=Array.length_toList;rw[e0.out];clear hc;obtain⟨X,a9⟩:∃X,X=ah p.1:=⟨_,rfl⟩;obtain⟨Y,a8⟩:∃Y,Y=ah p.2:=⟨_,rfl⟩;have hX:X.size≤1048576:=by rw[a9,ak];omega
  have hY:Y.size≤1048576:=by rw[a8,ak];omega
  obtain⟨S1,b3⟩:∃S1,S1=fC false (dD p.1):=⟨_,rfl⟩;obtain⟨S2,b0⟩:∃S2,S2=fC true (dD p.2):=⟨_,rfl⟩;have i5:Hid (S1=fC false (dD X.data.toList)):=by show _=_;rw[a9,b3];rfl
  have g8:Hid (S2=fC true (dD Y.data.toList)):=by show _=_;rw[a8,b0];rfl
  have h6:Hid (∀l,S1=some l→l.length≤1048578):=by
   intro l hl;have h1:=Np (b3.symm.trans hl);have h2:=wE p.1;omega
  have h5:Hid (∀l,S2=some l→l.length≤1048578):=by
   intro l hl;have h1:=Np (b0.symm.trans hl);have h2:=wE p.2;omega
  rw[←a9,←a8];rw[←b3,←b0]at HC;clear a9 a8 b3 b0 g2 i0;go_wp2_with fail
  refine(FT X false _ hX (P.below W)).mono ?_;rw[←i5.out];rintro e w3 ⟨f9,k⟩;have x:=hid (bD W k);have q:=hid (e8.below k);have O:=hid (d9.below k);have b6:=hid (b7.below k);have d6:=b7.lt;cases S1 with
  |none=>
   obtain⟨v1,rfl⟩:=f9;clear k d6;go_wp2_with fail
   refine(FT Y true _ hY (P.below x)).mono ?_;rw[←g8.out];rintro e w4 ⟨F,f⟩;have r:=hid (bD x f);have d:=hid (q.below f);have N:=hid (O.below f);clear f;cases S2 with
   |none=>
    obtain⟨v2,rfl⟩:=F;have t:=hid (fD (show six s.data.toList=none by rw[HC.out];rfl));obtain⟨c0,c1,c2,c3,c4,c5,c6,c7⟩:=dA N (fun _=>0) rfl;obtain⟨a0,a1,a2,a3,a4,a5,a6,a7⟩:=dA d (fun _=>0) rfl;obtain⟨f0,f1,f2,f3,f4,f5,f6,f7⟩:=gy d;go_wp2;exact bodyPost_ret (w:=pW _ w.heap.size (fun _=>0)) (pX (L:=mM) (gq d (fun _=>0)) rfl false _ rfl rfl) rfl ⟨by rw[t.out],dH r (Nat.le_refl _) _⟩
   |some b=>
    obtain⟨v2,rfl,_⟩:=F;have t:=hid (fD (show six s.data.toList=none by rw[HC.out];rfl));obtain⟨c0,c1,c2,c3,c4,c5,c6,c7⟩:=dA N (fun _=>0) rfl;obtain⟨a0,a1,a2,a3,a4,a5,a6,a7⟩:=dA d (fun _=>0) rfl;obtain⟨f0,f1,f2,f3,f4,f5,f6,f7⟩:=gy d;go_wp2;exact bodyPost_ret (w:=pW _ w.heap.size (fun _=>0)) (pX (L:=mM) (gq d (fun _=>0)) rfl false _ rfl rfl) rfl ⟨by rw[t.out],dH r (Nat.le_refl _) _⟩
  | some a=>
   obtain⟨v1,rfl,d2⟩:=f9;have d5:=b6.lt;go_wp2_with fail
   refine(FT Y true _ hY (P.below x)).mono ?_;rw[←g8.out];rintro e w4 ⟨F,f⟩;have r:=hid (bD x f);have d:=hid (q.below f);have N:=hid (O.below f);have b5:=hid (b6.below f);cases S2 with
   |none=>
    obtain⟨v2,rfl⟩:=F;clear f k d2 d6 d5;have t:=hid (fD (show six s.data.toList=none by rw[HC.out];rfl));obtain⟨c0,c1,c2,c3,c4,c5,c6,c7⟩:=dA N (fun _=>0) rfl;obtain⟨a0,a1,a2,a3,a4,a5,a6,a7⟩:=dA d (fun _=>0) rfl;obtain⟨f0,f1,f2,f3,f4,f5,f6,f7⟩:=gy d;go_wp2;exact bodyPost_ret (w:=pW _ w.heap.size (fun _=>0)) (pX (L:=mM) (gq d (fun _=>0)) rfl false _ rfl rfl) rfl ⟨by rw[t.out],dH r (Nat.le_refl _) _⟩
   | some b=>
    obtain⟨v2,rfl,d1⟩:=F;obtain⟨A1,c1,rfl,g4,g6,d0⟩:=aW (aY d2 f);obtain⟨A2,c2,rfl,g3,g5,f8⟩:=aW d1;have h4:=hid d1;have c9:=h6 a rfl;have c8:=h5 b rfl;obtain⟨la,d4⟩:∃la,la=a.length:=⟨_,rfl⟩;obtain⟨C,d3⟩:∃C,C=b.length:=⟨_,rfl⟩;have b8:=hid d4;have Q:=hid d3;rw[←d4]at d0 c9 g4⊢;rw[←d3]at f8 c8 g3⊢;have g9:=hid d0;have h7:Hid (w.heap.size+1+1<w3.heap.size):=d5;clear d4 d3 d0 f8 d2 d1 k f d6 d5;by_cases hsum:la+C<8
    ·have n:Hid (a.length+b.length<8):=by show _<_;rw[←b8.out,←Q.out];exact hsum
     have b9:Hid (six s.data.toList=some (fill a b)):=by
      show _=_;rw[HC.out];unfold both;simp only[List.length_nil,Nat.zero_add];rw[if_pos n.out];rfl
     have i1:¬(8:Int)≤(la:Int)+(C:Int):=by omega
     have i8:la≤8:=by omega
     have i7:C≤8:=by omega
     clear g6 g5 c9 c8;by_cases hz:C=0
     ·obtain rfl:C=0:=by omega
      go_wp2_with (refine vV rfl _ _ 172 172 rfl 155 underlying172 (by kernel_rfl) _ _ _ A1 _ _ (by rfl) (by rfl) (w.heap.size+1+1) 0 mM 156 b5 a g9 (by omega) (fun _=>rfl) (by rw[←b8.out];show 0+la≤8;omega) ?_)
      intro Z E y I;have d7:Hid (Box Z (w.heap.size+1+1) 156 (splice mM 0 a)):=E;have e7:Hid (Box Z w.heap.size 156 mM):=(y _ (by omega)).trans d;have e6:Hid (Below w.heap.size w Z):=r.trans (I.mono (by omega));have d8:Hid (dW Z A2 0 (bC b)):=by
       obtain⟨A',c',e1,_,_,h⟩:=aW (aQ h4 y h7);injection e1 with e2 e3 e4
       subst e2;subst e4;rw[←Q.out]at h;exact h
      clear E y I;have T:Hid (8 - b.length+b.length≤(splice mM 0 a).length):=by
       show _≤_;have:=n.out;rw[length_splice _ _ _ (by show 0+a.length≤8;omega)];show _≤8;omega
      go_wp2_with (refine vV rfl _ _ 172 172 rfl 155 underlying172 (by kernel_rfl) _ _ _ A2 _ _ (by rfl) (by rfl) (w.heap.size+1+1) (8 - b.length) (splice mM 0 a) 156 d7 b d8 (by omega) (fun h0=>absurd h0 (by omega)) T ?_)
      intro w6 D G H;have J:Hid (Box w6 (w.heap.size+1+1) 156 (fill a b)):=by have:=D.out;rw[Dk a b n.out]at this;exact this
      have B:Hid (Box w6 w.heap.size 156 mM):=(G _ (by omega)).trans e7;have e5:Hid (Below w.heap.size w w6):=e6.trans (H.mono (by omega));have g:Hid ((fill a b).length=8):=by show _=_;have:=n.out;unfold fill;rw[List.length_append,List.length_append,List.length_replicate];omega
      clear D G H;obtain⟨V,hV⟩:∃V,V=fill a b:=⟨_,rfl⟩;rw[←hV]at J g b9;clear hV;have t:=hid (tV b9);obtain⟨c0,c1,c2,c3,c4,c5,c6,c7⟩:=dA J (fun i=>V.getD i 0) (uZ g);obtain⟨a0,a1,a2,a3,a4,a5,a6,a7⟩:=dA B (fun _=>0) rfl;obtain⟨f0,f1,f2,f3,f4,f5,f6,f7⟩:=gy B;go_wp2;exact bodyPost_ret (w:=pW _ w.heap.size (fun i=>V.getD i 0)) (pX (gq B (fun i=>V.getD i 0)) rfl true _ rfl rfl) rfl ⟨(congrArg (fun z=>Ending.returned (.tuple #[.agg (bC z).toArray,.bool true])) (uZ g).symm).trans (by rw[t.out]),dH e5 (Nat.le_refl _) _⟩
     have j6:(0:Int)<(C:Int):=by omega
     have i3:(8:Int) - (C:Int)=((8 - C:Nat):Int):=by omega
     obtain⟨j,hj⟩:∃j,j=8 - C:=⟨_,rfl⟩;rw[←hj]at i3;have j5:j<8:=by omega
     have j4:C+j=8:=by omega
     have j3:(j:Int)<8:=by omega
     have j2:(j:Int)≤8:=by omega
     have j1:(0:Int)≤(j:Int):=by omega
     have j0:¬8 - j=0:=by omega
     have i9:j≤8:=by omega
     have HJ:=hid hj;clear hj;go_wp2_with (refine vV rfl _ _ 172 172 rfl 155 underlying172 (by kernel_rfl) _ _ _ A1 _ _ (by rfl) (by rfl) (w.heap.size+1+1) 0 mM 156 b5 a g9 (by omega) (fun _=>rfl) (by rw[←b8.out];show 0+la≤8;omega) ?_)
     intro Z E y I;have d7:Hid (Box Z (w.heap.size+1+1) 156 (splice mM 0 a)):=E;have e7:Hid (Box Z w.heap.size 156 mM):=(y _ (by omega)).trans d;have e6:Hid (Below w.heap.size w Z):=r.trans (I.mono (by omega));have d8:Hid (dW Z A2 C (bC b)):=by
      obtain⟨A',c',e1,_,_,h⟩:=aW (aQ h4 y h7);injection e1 with e2 e3 e4
      subst e2;subst e4;rw[←Q.out]at h;exact h
     clear E y I;have T:Hid (8 - b.length+b.length≤(splice mM 0 a).length):=by
      show _≤_;have:=n.out;rw[length_splice _ _ _ (by show 0+a.length≤8;omega)];show _≤8;omega
     have h3:Hid (8 - b.length=j):=by show _=_;rw[←Q.out,←HJ.out]
     go_wp2_with (refine vV rfl _ _ 172 172 rfl 155 underlying172 (by kernel_rfl) _ _ _ A2 _ _ (by rfl) (by rfl) (w.heap.size+1+1) (8 - b.length) (splice mM 0 a) 156 d7 b d8 (by omega) (fun h0=>by rw[h3.out]) T ?_)
     intro w6 D G H;have J:Hid (Box w6 (w.heap.size+1+1) 156 (fill a b)):=by have:=D.out;rw[Dk a b n.out]at this;exact this
     have B:Hid (Box w6 w.heap.size 156 mM):=(G _ (by omega)).trans e7;have e5:Hid (Below w.heap.size w w6):=e6.trans (H.mono (by omega));have g:Hid ((fill a b).length=8):=by show _=_;have:=n.out;unfold fill;rw[List.length_append,List.length_append,List.length_replicate];omega
     clear D G H;obtain⟨V,hV⟩:∃V,V=fill a b:=⟨_,rfl⟩;rw[←hV]at J g b9;clear hV;have t:=hid (tV b9);obtain⟨c0,c1,c2,c3,c4,c5,c6,c7⟩:=dA J (fun i=>V.getD i 0) (uZ g);obtain⟨a0,a1,a2,a3,a4,a5,a6,a7⟩:=dA B (fun _=>0) rfl;obtain⟨f0,f1,f2,f3,f4,f5,f6,f7⟩:=gy B;go_wp2;exact bodyPost_ret (w:=pW _ w.heap.size (fun i=>V.getD i 0)) (pX (gq B (fun i=>V.getD i 0)) rfl true _ rfl rfl) rfl ⟨(congrArg (fun z=>Ending.returned (.tuple #[.agg (bC z).toArray,.bool true])) (uZ g).symm).trans (by rw[t.out]),dH e5 (Nat.le_refl _) _⟩
    have i1:(8:Int)≤(la:Int)+(C:Int):=by omega
    have i6:Hid (¬([]:List Nat).length+a.length+b.length<8):=by show ¬_;rw[←b8.out,←Q.out];simp;omega
    have t:=hid (fD (show six s.data.toList=none by rw[HC.out];unfold both;simp only[];exact if_neg i6.out));obtain⟨c0,c1,c2,c3,c4,c5,c6,c7⟩:=dA N (fun _=>0) rfl;obtain⟨a0,a1,a2,a3,a4,a5,a6,a7⟩:=dA d (fun _=>0) rfl;obtain⟨f0,f1,f2,f3,f4,f5,f6,f7⟩:=gy d;go_wp2;exact bodyPost_ret (w:=pW _ w.heap.size (fun _=>0)) (pX (L:=mM) (gq d (fun _=>0)) rfl false _ rfl rfl) rfl ⟨by rw[t.out],dH r (Nat.le_refl _) _⟩
end fH
namespace kS
open Go.RowKit Base
def pK (w:World):Prop:=w.cell? ⟨5,15,none⟩=some (.int .u8 4)
theorem pK.below {w w':World} (h:pK w) (a:Below w.heap.size w w'):pK w':=(a.cell (World.block_lt_of_cell? _ _ h)).trans h
def Vr:List Int:=[0,1,56,2,57,49,28,3,61,58,42,50,38,29,17,4,62,47,59,36,45,43,51,22,53,39,33,30,24,18,12,5,63,55,48,27,60,41,37,16,46,35,44,21,52,32,23,11,54,26,40,15,34,20,31,10,25,14,19,9,13,8,7,6]
theorem EH:prog.globalNamed "math/bits.deBruijn64tab" =some 5:=by kernel_rfl
theorem acA {W:World} {l:List (String×DataW Unit)} (h:laidMet prog l W) (g:("math/bits.deBruijn64tab",Lib.tabData .u8 Vr) ∈ l):pK W:=by
 obtain⟨n,m,cs,f,p,d,c,a,i⟩:=Lib.laidMet.reads h g;obtain rfl:=Option.some.inj (EH.symm.trans d);obtain rfl:=Option.some.inj ((show(prog.globals[5]?).map (·.type)=some 199 by kernel_rfl).symm.trans c);have j:=Lib.cells_of_tab (k:=.u8) (zs:=Vr) underlying199 underlying5 (by kernel_rfl) (by kernel_rfl) i;unfold World.var? at a;rw[EH]at a;simp only[Option.bind_some]at a;unfold pK World.cell?;split at a
 ·rename_i x y z hh;injection a with a
  rw[hh];simp only[];have e:x.toList=Vr.map fun z=>Value.int .u8 z:=by rw[a];exact j
  rw[←Array.getElem?_toList,e];rfl
 cases a
def iR (n:Nat):UInt8:=if n<10 then UInt8.ofNat (48+n)else UInt8.ofNat (87+n)
def sV:Nat→Nat→List UInt8→List UInt8
 |0,u,acc=>iR u::acc
 |f+1,u,acc=>if 16≤u then sV f (u / 16) (iR (u%16)::acc)else iR u::acc
def hx (n:Nat):List UInt8:=sV 3 n []
theorem DT:∀(f u:Nat) (acc:List UInt8),sV f u acc=sV f u []++acc
 |0,_,_=>rfl
 |f+1,u,acc=>by
  unfold sV
  split
  ·rw[DT f _ (_::acc),DT f _ [_],List.append_assoc]
   rfl
  ·rfl
theorem LY:∀(f u:Nat) (acc:List UInt8),u<16^(f+1)→sV (f+1) u acc=sV f u acc
 |0,u,acc,h=>by
  unfold sV
  rw[if_neg (by simp at h;omega)]
 |f+1,u,acc,h=>by
  show(if 16≤u then sV (f+1) (u / 16) (iR (u%16)::acc)else iR u::acc)=(if 16≤u then sV f (u / 16) (iR (u%16)::acc)else iR u::acc)
  by_cases hu:16≤u
  ·rw[if_pos hu,if_pos hu]
   exact LY f (u / 16) _ (by rw[Nat.pow_succ]at h;omega)
  ·rw[if_neg hu,if_neg hu]
theorem ET {n:Nat} (h:n<16):hx n=[iR n]:=by
 unfold hx sV;rw[if_neg (by omega)]
theorem OH {n:Nat} (h:16≤n) (a:n<65536):hx n=hx (n / 16)++[iR (n%16)]:=by
 unfold hx;rw[LY 2 (n / 16) [] (by show n / 16<4096;omega)]
 conv=>lhs;unfold sV
 rw[if_pos h,DT]
theorem H9 (k:Nat) (c:k<16) (h:k<(⟨#[48,49,50,51,52,53,54,55,56,57,97,98,99,100,101,102,103,104,105,106,107,108,109,110,111,112,113,114,115,116,117,118,119,120,121,122]⟩:ByteArray).size):(⟨#[48,49,50,51,52,53,54,55,56,57,97,98,99,100,101,102,103,104,105,106,107,108,109,110,111,112,113,114,115,116,117,118,119,120,121,122]⟩:ByteArray)[k]'h=iR k:=by
 have a:k=0∨k=1∨k=2∨k=3∨k=4∨k=5∨k=6∨k=7∨k=8∨k=9∨k=10∨k=11∨k=12∨k=13∨k=14∨k=15:=by omega
 rcases a with rfl|rfl|rfl|rfl|rfl|rfl|rfl|rfl|rfl|rfl|rfl|rfl|rfl|rfl|rfl|rfl<;>rfl
theorem Qc (u:Nat) (h:u<65536):bits .and .u64 (u:Int) 15=(u:Int)%16:=by
 have:=bits_and_u64_nat u 15 (by omega) (by omega);rw[show((15:Nat):Int)=15 from rfl]at this;rw[this,show(15:Nat)=2^4 - 1 from rfl,Nat.and_two_pow_sub_one_eq_mod];omega
def AU (w:World) (g:Nat) (t:TypeId) (L:List UInt8):Prop:=w.heap[g]?=some (.cells (aU L).toArray t (0,0))
theorem AU.cell {w:World} {g:Nat} {t:TypeId} {L:List UInt8} (h:AU w g t L) (j:Nat) (a:j<L.length):w.cell? ⟨g,j,none⟩=some (.int .u8 (L[j].toNat:Int)):=by
 refine(cell_of_row w g j _ _ _ h).trans ?_;simp[aU,a]
theorem AU.frozen {w:World} {g:Nat} {t:TypeId} {L:List UInt8} (h:AU w g t L) (j:Nat):w.frozen? ⟨g,j,none⟩=false:=by
 unfold World.frozen?;rw[h];simp
theorem AU.set {w:World} {g:Nat} {t:TypeId} {L:List UInt8} (h:AU w g t L) (j:Nat) (c:UInt8):AU (w.setCell ⟨g,j,none⟩ (.int .u8 (c.toNat:Int))) g t (L.set j c):=by
 have:=heap_setCell_same w g j _ _ (.int .u8 (c.toNat:Int)) h;unfold AU;rw[this];simp[aU,List.map_set]
theorem AU.Ue {w:World} {g:Nat} {t:TypeId} {L:List UInt8} (h:AU w g t L) (i:Nat) (hi:i≤L.length):dW w (some ⟨g,i,none⟩) (L.length - i) (aU (L.drop i)):=
 dW.lT (by rw[bM,List.length_drop]) (Array.getElem?_eq_some_iff.1 h).1 (fun j hj=>by
  rw[bM,List.length_drop]at hj
  rw[h.cell (i+j) (by omega)]
  simp[aU])
theorem Yh (w:World) (a:pK w):Calls prog 203 #[.int .u64 16] w fun e w'=>e=.returned (.int .i64 4)∧w=w':=by
 have d:IntKind.u64.wrap (-16)=18446744073709551600:=by kernel_rfl
 have c:bits .and .u64 16 18446744073709551600=16:=by kernel_rfl
 unfold pK at a;go_enter func203,ntmps203;go_wp2;go_ret;exact⟨rfl,rfl⟩
theorem adA (w:World) (c:pK w):Calls prog 179 #[.int .u64 16] w fun e w'=>e=.returned (.int .i64 4)∧w=w':=by
 go_enter func179,ntmps179;go_wp2_with fail
 refine(Yh _ c).mono ?_;rintro e d ⟨rfl,a⟩;subst a;go_wp2;go_ret;exact⟨rfl,rfl⟩
theorem Xj (w:World):Calls prog 178 #[.int .i64 16] w fun e w'=>e=.returned (.bool true)∧w=w':=by
 have a:bits .and .i64 16 15=0:=by kernel_rfl
 go_enter func178,ntmps178;go_wp2;go_ret;exact⟨rfl,rfl⟩
theorem Vl (n:Nat) (I:n<65536) (w:World) (Q:pK w):Calls prog 151 #[.slice none 0 0,.int .u64 (n:Int),.int .i64 16,.bool false,.bool false] w fun e w'=>e=.returned (.tuple #[.slice none 0 0,.string (ah (hx n))])∧Below w.heap.size w w':=by
 obtain⟨H,C⟩:∃H,H=hx n:=⟨_,rfl⟩;rw[←C];have HH:=hid C;have q:=hid Q;clear C Q;go_enter func151,ntmps151;go_upto_region 4 with(fail)
 generalize hw1:w.alloc _=w1;have r:Hid (Below w.heap.size w w1):=by
  show Below _ _ _;rw[←hw1];exact(Below.refl _ _).alloc (Nat.le_refl _) _
 have D:Hid (AU w1 w.heap.size 167 (List.replicate 65 0)):=by
  show AU _ _ _ _;rw[←hw1];exact heap_alloc_new _ _
 clear hw1;go_wp2_with fail
 refine(Xj _).mono ?_;rintro e W ⟨rfl,d⟩;subst d;go_wp2_with fail
 refine(adA _ (q.below r)).mono ?_;rintro e W ⟨rfl,d⟩;subst d;go_wp2_with fail
 go_loopw [1,13] (fun vu vi wr=>∃(f u i:Nat) (L:List UInt8),f≤3∧u<16^(f+1)∧u<65536∧i=62+f∧vu=.int .u64 (u:Int)∧vi=.int .i64 (i:Int)∧Hid (L.length=65)∧Hid (AU wr w.heap.size 167 L)∧Hid (H=sV f u (L.drop i))∧Hid (Below w.heap.size w wr)) (fun vu _ _=>(intOf vu).toNat)
 case atStart=>exact⟨3,n,65,List.replicate 65 0,by omega,I,I,rfl,rfl,rfl,rfl,D,HH,r⟩
 case round =>
  obtain⟨f,u,i,L,hf,s,z,hi,rfl,rfl,a,x,T,V⟩:=hrel;obtain⟨j,B⟩:∃j,i=j+1:=⟨i - 1,by omega⟩;have Z:(i:Int) - 1=(j:Int):=by omega
  have N:j≤64:=by omega
  have O:i≤65:=by omega
  have a0:(1:Int)≤(i:Int):=by omega
  have J:(j:Int)<65:=by omega
  obtain⟨x0,a2⟩:∃x0,wr.cell? ⟨w.heap.size,j,none⟩=some x0:=⟨_,x.cell j (by rw[a.out];omega)⟩;have a1:=x.frozen j;have F:=hid B;by_cases h16:16≤u
  ·have m:(16:Int)≤(u:Int):=by omega
   obtain⟨c,rfl⟩:∃c,f=c+1:=by
    cases f with
    |zero=>simp at s;omega
    |succ c=>exact⟨c,rfl⟩
   have G:=hid hi;have ha:=Qc u z;have X:(0:Int)≤(u:Int)%16:=by omega
   have q1:(u:Int)%16<16:=by omega
   have q2:(u:Int)%16<36:=by omega
   have q3:∀h,(⟨#[48,49,50,51,52,53,54,55,56,57,97,98,99,100,101,102,103,104,105,106,107,108,109,110,111,112,113,114,115,116,117,118,119,120,121,122]⟩:ByteArray)[((u:Int)%16).toNat]'h=iR (u%16):=fun h=>by
    have e:((u:Int)%16).toNat=u%16:=by omega
    simp only[e];exact H9 _ (by omega) _
   obtain⟨v,y⟩:∃v,v=u / 16:=⟨_,rfl⟩;have Y:(u:Int) / 16=(v:Int):=by omega
   have k:=hid (x.set j (iR (u%16)));have l:Hid (Below w.heap.size w (wr.setCell ⟨w.heap.size,j,none⟩ (.int .u8 ((iR (u%16)).toNat:Int)))):=V.setCell (Nat.le_refl _) _;have E:Hid (H=sV c v ((L.set j (iR (u%16))).drop j)):=by
    show _=_;have t:(L.set j (iR (u%16))).drop j=iR (u%16)::L.drop i:=by
     rw[List.drop_eq_getElem_cons (by rw[List.length_set,a.out];omega),List.getElem_set_self,List.drop_set_of_lt (by omega),←F.out]
    rw[t,T.out,y]
    conv=>lhs;unfold sV
    rw[if_pos h16]
   have HV:Hid (v<16^(c+1)∧v<65536∧v<u):=⟨by rw[y];rw[Nat.pow_succ]at s;omega,by omega,by omega⟩;clear s y B hi h16;go_wp2;go_roundw
   case rel=>exact⟨c,v,j,_,by omega,HV.1,HV.2.1,by have:=G.out;have:=F.out;omega,by go_num,by go_num,by rw[List.length_set];exact a,k,E,l⟩
   case measure=>(have:=HV.2.2;simp[intOf];omega)
  have m:¬(16:Int)≤(u:Int):=by omega
  have X:(u:Int)<36:=by omega
  have q3:∀h,(⟨#[48,49,50,51,52,53,54,55,56,57,97,98,99,100,101,102,103,104,105,106,107,108,109,110,111,112,113,114,115,116,117,118,119,120,121,122]⟩:ByteArray)[u]'h=iR u:=fun h=>H9 _ (by omega) _;have k:=hid (x.set j (iR u));have l:Hid (Below w.heap.size w (wr.setCell ⟨w.heap.size,j,none⟩ (.int .u8 ((iR u).toNat:Int)))):=V.setCell (Nat.le_refl _) _;have t:(L.set j (iR u)).drop j=H:=by
   rw[List.drop_eq_getElem_cons (by rw[List.length_set,a.out];omega),List.getElem_set_self,List.drop_set_of_lt (by omega),←F.out,T.out];cases f with
   |zero=>rfl
   |succ c=>unfold sV;rw[if_neg h16]
  have g:=k.Ue j (by rw[List.length_set,a.out];omega);rw[List.length_set,a.out,t]at g;have hs:=bI (P:=prog) 55 9 5 underlying55 underlying5 underlying9 H (65 - j) g;have hz:¬65 - j=0:=by omega
  have A:(j:Int)≤65:=by omega
  clear t g s hi B h16;go_wp2;go_ret2;exact⟨rfl,l⟩
theorem LQ (n:Nat) (a:n<65536) (w:World) (d:pK w):Calls prog 213 #[.int .u64 (n:Int),.int .i64 16] w fun e w'=>e=.returned (.string (ah (hx n)))∧Below w.heap.size w w':=by
 go_enter func213,ntmps213;go_wp2_with fail
 refine(Vl n a _ d).mono ?_;rintro e f ⟨rfl,c⟩;go_wp2;go_ret;exact⟨rfl,c⟩
theorem EO (n:Nat) (a:n<65536) (w:World) (d:pK w):Calls prog 207 #[.int .u64 (n:Int),.int .i64 16] w fun e w'=>e=.returned (.string (ah (hx n)))∧Below w.heap.size w w':=by
 go_enter func207,ntmps207;go_wp2_with fail
 refine(LQ n a _ d).mono ?_;rintro e f ⟨rfl,c⟩;go_wp2;go_ret;exact⟨rfl,c⟩
end kS
namespace Du
open Go.RowKit Base aV lX qy Ba kS
theorem QG:∀(f u:Nat) (acc:List UInt8),(sV f u acc).length≤f+1+acc.length
 |0,u,acc=>by simp[sV];omega
 |f+1,u,acc=>by
  unfold sV
  split
  ·have:=QG f (u / 16) (iR (u%16)::acc)
   simp at this⊢
   omega
  ·simp;omega
theorem rY (n:Nat):(hx n).length≤4:=QG 3 n []
theorem Zq (n:Nat) (h:n<65536):∃pre,hx n=pre++[iR (n%16)]:=by
 by_cases h16:16≤n
 ·exact⟨_,OH h16 h⟩
 refine⟨[],?_⟩;rw[ET (by omega),show n%16=n by omega];rfl
theorem xB (d:Nat) (h:d<16):mP 16 (iR d)=true∧dv (iR d)=d∧iR d≠58∧iR d≠46:=by
 have H:∀d:Fin 16,mP 16 (iR d.val)=true∧dv (iR d.val)=d.val∧iR d.val≠58∧iR d.val≠46:=by decide+kernel
 exact H ⟨d,h⟩
def iZ:List (List UInt8)→List UInt8
 |[]=>[]
 |[x]=>x
 |x::y::r=>x++58::iZ (y::r)
theorem EY:∀(xs:List (List UInt8)) (y:List UInt8),xs≠[]→iZ (xs++[y])=iZ xs++58::y
 |[],_,h=>absurd rfl h
 |[x],y,_=>rfl
 |x::z::r,y,_=>by
  show x++58::iZ ((z::r)++[y])=x++58::iZ (z::r)++58::y
  rw[EY (z::r) y (by simp)]
  simp
def jx (L:List Nat):List UInt8:=iZ (L.map hx)
theorem OM:jx []=[]:=rfl
theorem Jz (n:Nat):jx [n]=hx n:=rfl
theorem zM (L:List Nat) (n:Nat) (h:L≠[]):jx (L++[n])=jx L++58::hx n:=by
 unfold jx;rw[List.map_append];exact EY _ _ (by simpa using h)
theorem uH (L:List Nat):(jx L).length≤5*L.length:=by
 have H:∀M:List Nat,(jx M.reverse).length≤5*M.length:=by
  intro M;induction M with
  |nil=>simp[jx,iZ]
  |cons n M ih=>
   rw[List.reverse_cons];have:=rY n;by_cases h:M.reverse=[]
   ·rw[h,List.nil_append,Jz,List.length_cons];omega
   rw[zM _ _ h,List.length_append,List.length_cons,List.length_cons];omega
 have:=H L.reverse
 rwa[List.reverse_reverse,List.length_reverse]at this
theorem qO (L:List Nat) (k:Nat) (h:k<L.length):L.take (k+1)=L.take k++[L[k]]:=List.take_succ_eq_append_getElem h
theorem EZ (A:Option Addr) (n c:Nat) (L:List Nat) (w:World) (r:dW w A n (bC L)) (V:n≤8) (D:∀x ∈ L,x<65536) (C:pK w):
  Calls prog 189 #[.slice A n c] w fun e w'=>e=.returned (.string (ah (jx L)))∧Below w.heap.size w w':=by
 have B:L.length=n:=by rw[←jP];exact r.1
 have q:=hid B;have G:=hid r;have a:=hid C;have P:=hid D;clear r C D B;go_enter func189,ntmps189;go_wp2;go_loopw [3,4,5,8] (fun vo _ _ vk wr=>∃(k:Nat) (X:ByteArray),k≤n∧vk=.int .i64 (k:Int)∧vo=.string X∧Hid (X=ah (jx (L.take k)))∧Hid (Below w.heap.size w wr)) (fun _ _ _ vk _=>n - (intOf vk).toNat)
 case atStart=>exact⟨0,⟨#[]⟩,by omega,rfl,rfl,rfl,Below.refl _ _⟩
 case round=>
  obtain⟨k,X,T,rfl,rfl,d,f⟩:=hrel;by_cases hlt:k<n
  ·obtain ⟨b,off,rfl,_,_⟩:=G.spot (by omega);obtain⟨x,hx⟩:∃x,L[k]'(by rw[q.out];exact hlt)=x:=⟨_,rfl⟩;have I:wr.cell? ⟨b,off+k,none⟩=some (.int .u16 (x:Int)):=by
    obtain⟨W,Q,J,_,v⟩:=(G.below f).2 k (by rw[jP,q.out];exact hlt);cases J;rw[v];simp[bC,hx]
   have g:x<65536:=by rw[←hx];exact P _ (List.getElem_mem _)
   have F:Hid (L.take (k+1)=L.take k++[x]):=by show _=_;rw[qO L k (by rw[q.out];exact hlt),hx]
   have H:IntKind.u64.wrap (x:Int)=(x:Int):=by simp[IntKind.wrap,IntKind.signed,IntKind.bits];omega
   have m:=hid g;clear g;have l:Hid (X.size≤40):=by
    show _≤_;rw[d.out,ak];have:=uH (L.take k);rw[List.length_take]at this;omega
   have i:=rY x;clear hx;obtain⟨Z,j⟩:∃Z,Z=ah (jx (L.take (k+1))):=⟨_,rfl⟩;have E:=hid j;by_cases hk0:k=0
   ·have z:=hid hk0;have t:¬(0:Int)<(k:Int):=by omega
    clear hk0;have N:∀w:World,(Op.stringOp .add X (ah (hx x))).run prog w=.ok (.string Z) w:=fun w=>by
     rw[j,F.out,d.out,z.out,List.take_zero,List.nil_append,Jz,OM];exact bH [] (hx x) w (by simp;omega)
    clear j i;go_wp2_with fail
    refine qV f (EO x m _ (a.below f)) fun w2 HB2=>?_;go_wp2;go_roundw
    case rel=>exact⟨k+1,Z,by omega,by go_num,rfl,E,HB2⟩
    case measure=>simp[intOf];omega
   ·have t:(0:Int)<(k:Int):=by omega
    obtain⟨Y,y⟩:∃Y,Y=ah (jx (L.take k)++[58]):=⟨_,rfl⟩;have a1:∀w:World,(Op.stringOp .add X ⟨#[58]⟩).run prog w=.ok (.string Y) w:=fun w=>by
     rw[y,d.out];refine bH _ [58] w ?_;have:=l.out;rw[d.out,ak]at this;simp;omega
    have N:∀w:World,(Op.stringOp .add Y (ah (hx x))).run prog w=.ok (.string Z) w:=fun w=>by
     have s:L.take k≠[]:=by
      intro h;have:=congrArg List.length h;rw[List.length_take,q.out]at this;simp at this;omega
     rw[j,F.out,zM _ _ s,y,show jx (L.take k)++58::hx x=(jx (L.take k)++[58])++hx x by simp];refine bH _ _ w ?_;have:=l.out;rw[d.out,ak]at this;rw[List.length_append];simp;omega
    clear j y i hk0;go_wp2_with fail
    refine qV f (EO x m _ (a.below f)) fun w2 HB2=>?_;go_wp2;go_roundw
    case rel=>exact⟨k+1,Z,by omega,by go_num,rfl,E,HB2⟩
    case measure=>simp[intOf];omega
  ·obtain rfl:k=n:=by omega
   have O:Hid (X=ah (jx L)):=by show _=_;rw[d.out,List.take_of_length_le (by rw[q.out];exact Nat.le_refl _)]
   go_wp2;go_ret;exact⟨by rw[O.out];rfl,f⟩
def run (Z:List Bool) (k:Nat):Nat:=((Z.drop k).takeWhile id).length
theorem Nj {Z:List Bool} {k:Nat} (h:k<Z.length) (a:Z[k]=true):run Z k=1+run Z (k+1):=by
 unfold run;rw[List.drop_eq_getElem_cons h,List.takeWhile_cons,a];simp;omega
theorem XB {Z:List Bool} {k:Nat} (h:k<Z.length) (a:Z[k]=false):run Z k=0:=by
 unfold run;rw[List.drop_eq_getElem_cons h,List.takeWhile_cons,a];rfl
theorem run_end {Z:List Bool} {k:Nat} (h:Z.length≤k):run Z k=0:=by
 unfold run;rw[List.drop_eq_nil_of_le h];rfl
def goC (Z:List Bool):Nat→Nat→Nat→Nat→Nat×Nat
 |0,_,f,t=>(f,t)
 |fu+1,k,f,t=>if k<Z.length then(if t - f<run Z k then goC Z fu (k+run Z k+1) k (k+run Z k)else goC Z fu (k+run Z k+1) f t)else(f,t)
def qP (Z:List Bool):Nat×Nat:=goC Z 9 0 0 0
def UJ (Z:List Bool):Nat→Nat→Option Nat→Nat→Option Nat×Nat
 |0,_,f,l=>(f,l)
 |fu+1,k,f,l=>if k<Z.length then(if l<run Z k then UJ Z fu (k+1) (some k) (run Z k)else UJ Z fu (k+1) f l)else(f,l)
def L9 (Z:List Bool):Option Nat×Nat:=UJ Z 8 0 none 1
theorem BL:∀b0 b1 b2 b3 b4 b5 b6 b7:Bool,(qP [b0,b1,b2,b3,b4,b5,b6,b7]).1≤(qP [b0,b1,b2,b3,b4,b5,b6,b7]).2∧(qP [b0,b1,b2,b3,b4,b5,b6,b7]).2≤8∧(([b0,b1,b2,b3,b4,b5,b6,b7].take (qP [b0,b1,b2,b3,b4,b5,b6,b7]).2).drop (qP [b0,b1,b2,b3,b4,b5,b6,b7]).1).all id=true∧
  L9 [b0,b1,b2,b3,b4,b5,b6,b7]=if (qP [b0,b1,b2,b3,b4,b5,b6,b7]).2 - (qP [b0,b1,b2,b3,b4,b5,b6,b7]).1<2 then(none,1)else(some (qP [b0,b1,b2,b3,b4,b5,b6,b7]).1,(qP [b0,b1,b2,b3,b4,b5,b6,b7]).2 - (qP [b0,b1,b2,b3,b4,b5,b6,b7]).1):=by decide+kernel
def V8 (f:Nat→Nat):List Nat:=[f 0,f 1,f 2,f 3,f 4,f 5,f 6,f 7]
def zs (f:Nat→Nat):List Bool:=(V8 f).map (·==0)
theorem CG (f:Nat→Nat):(zs f).length=8:=rfl
theorem eight (i:Nat) (h:i<8):i=0∨i=1∨i=2∨i=3∨i=4∨i=5∨i=6∨i=7:=by omega
theorem lZ (f:Nat→Nat) (k:Nat) (h:k<8) (a:k<(V8 f).length):(V8 f)[k]=f k:=by
 rcases eight k h with rfl|rfl|rfl|rfl|rfl|rfl|rfl|rfl<;>rfl
theorem Qa (f:Nat→Nat) (k:Nat) (h:k<8) (a:k<(zs f).length):(zs f)[k]=(f k==0):=by
 rcases eight k h with rfl|rfl|rfl|rfl|rfl|rfl|rfl|rfl<;>rfl
def A8 (f:Nat→Nat):Value:=.agg #[.int .u16 (f 0:Int),.int .u16 (f 1:Int),.int .u16 (f 2:Int),.int .u16 (f 3:Int),.int .u16 (f 4:Int),.int .u16 (f 5:Int),.int .u16 (f 6:Int),.int .u16 (f 7:Int)]
theorem Zl {Z:List Bool} {a k f t:Nat} (h:Z.length≤k):goC Z a k f t=(f,t):=by
 cases a with
 |zero=>rfl
 |succ a=>unfold goC;rw[if_neg (by omega)]
end Du
namespace dJ
open Go.RowKit Base
structure Keep where
 says:Value→World→Prop
 stays:∀v w w',Below w.heap.size w w'→says v w→says v w'
def is (v:Value):Keep:=⟨fun u _=>u=v,fun _ _ _ _ h=>h⟩
def pg (g i:Nat):Keep:=is (.pointer (some ⟨g,i,none⟩))
def any:Keep:=⟨fun _ _=>True,fun _ _ _ _ h=>h⟩
def row (n:Nat) (xs:List Value):Keep:=⟨fun u w=>∃A c,u=.slice A n c∧n≤c∧c≤maxLen∧dW w A n xs,fun _ _ _ hb ⟨A,c,h1,h2,h3,h4⟩=>⟨A,c,h1,h2,h3,h4.below hb⟩⟩
def pick:List Keep→Nat→Keep
 |[],_=>any
 |r::_,0=>r
 |_::rs,n+1=>pick rs n
def upd (t:Nat→Value) (i:Nat) (v:Value) (k:Nat):Value:=if k=i then v else t k
def filled (t:Nat→Value):List Oper→Nat→Act→Act
 |[],_,a=>a
 |o::os,k,a=>filled t os (k+1) (a.put o.dst (t k))
def Have (R:List Keep) (t:Nat→Value) (w:World):List Nat→Prop
 |[]=>True
 |k::ks=>(pick R k).says (t k) w∧Have R t w ks
theorem iQ:(∀t k a,filled t [] k a=a)∧(∀t o os k a,filled t (o::os) k a=filled t os (k+1) (a.put o.dst (t k)))∧(∀g i,pg g i=is (.pointer (some ⟨g,i,none⟩)))∧(∀v u w,(is v).says u w=(u=v))∧(∀u w,any.says u w=True)∧(∀n xs u w,(row n xs).says u w=∃A c,u=.slice A n c∧n≤c∧c≤maxLen∧dW w A n xs)∧(∀n,pick [] n=any)∧(∀r rs,pick (r::rs) 0=r)∧(∀r rs n,pick (r::rs) (n+1)=pick rs n)∧(∀t i v k,upd t i v k=if k=i then v else t k)∧(∀R t w,Have R t w []=True)∧(∀R t w k ks,Have R t w (k::ks)=((pick R k).says (t k) w∧Have R t w ks))∧(∀(x:List Nat) xs,(x::xs).tail=xs)∧(∀(x:List Nat) xs d,(x::xs).headD d=x)∧(∀(l:List Value) i v,l.toArray.setIfInBounds i v=(l.set i v).toArray)∧(∀(x:Value) xs v,(x::xs).set 0 v=v::xs)∧∀(x:Value) xs n v,(x::xs).set (n+1) v=x::xs.set n v:=by
 refine⟨?_,?_,?_,?_,?_,?_,?_,?_,?_,?_,?_,?_,?_,?_,?_,?_,?_⟩<;>intros<;>first|rfl|simp
section
variable {P:Program} {md:Region.Mode} {ops:Array Oper} {Q:Exit→Act→World→Prop}
def Step (P:Program) (ops:Array Oper) (Q:Exit→Act→World→Prop) (A:(Nat→Value)→Act) (w0:World) (R:List Keep) (i:Nat) (o:Oper) (ns:List Nat):Prop:=
 ∀t w,Below w0.heap.size w0 w→Have R t w ns→∀K:Act→World→Prop,(∀v w',Below w.heap.size w w'→(pick R i).says v w'→K (A (upd t i v)) w')→
  if Region.wanted o (yielded ops (A t).tmps)=true then Oper.wp P o (A t) w K Q else K ((A t).put o.dst undef) w
def Steps (P:Program) (ops:Array Oper) (Q:Exit→Act→World→Prop) (A:(Nat→Value)→Act) (w0:World) (R:List Keep):Nat→List Oper→List (List Nat)→Prop
 |_,[],_=>True
 |k,o::os,ns=>Step P ops Q A w0 R k o (ns.headD [])∧Steps P ops Q A w0 R (k+1) os ns.tail
theorem Steps.at {A:(Nat→Value)→Act} {w0:World} {R:List Keep}:∀(os:List Oper) (k:Nat) (ns:List (List Nat)),Steps P ops Q A w0 R k os ns→∀j o,os[j]?=some o→Step P ops Q A w0 R (k+j) o (ns.getD j [])
 |[],_,_,_,j,o,h=>by simp at h
 |p::os,k,ns,h,0,o,e=>by
  simp at e
  subst e
  cases ns<;>exact h.1
 |p::os,k,ns,h,j+1,o,e=>by
  have:=Steps.at os (k+1) ns.tail h.2 j o (by simpa using e)
  rw[Nat.add_assoc,Nat.add_comm 1 j]at this
  cases ns<;>simpa using this
def wF (md:Region.Mode) (ops:Array Oper) (ns:List (List Nat)):Bool:=
 (List.range ops.size).all fun i=>match ops[i]? with
  |none=>false
  |some o=>(o.after.all fun e=> !Region.binds md e||decide (e.on<i))&&(ns.getD i []).all fun k=>o.after.any fun e=>Region.binds md e&&(e.on==k||(ns.getD e.on []).contains k)
theorem qH {ns:List (List Nat)} (h:wF md ops ns=true) {i:Nat} {o:Oper} (f:ops[i]?=some o):(∀e ∈ o.after,Region.binds md e=true→e.on<i)∧∀k ∈ ns.getD i [],∃e ∈ o.after,Region.binds md e=true∧(e.on=k∨k ∈ ns.getD e.on []):=by
 have a:=List.all_eq_true.1 h i (by simp only[List.mem_range];exact(Array.getElem?_eq_some_iff.1 f).1);simp only[f,Bool.and_eq_true]at a;obtain⟨a,l⟩:=a;constructor
 ·intro e c j;have:=Array.all_eq_true_iff_forall_mem.1 a e c;simpa[j]using this
 intro k g;have:=List.all_eq_true.1 l k g;obtain⟨e,c,d⟩:=Array.any_eq_true'.1 this;simp only[Bool.and_eq_true,Bool.or_eq_true,beq_iff_eq,List.contains_iff_mem]at d;exact⟨e,c,d.1,d.2⟩
def KD (ops:Array Oper) (listed:Array Bool):Nat:=(List.range ops.size).countP fun i=> !listed.getD i true
theorem rC {l:Array Bool} {i:Nat} (h:i<l.size) (d a:Bool):l.getD i d=l.getD i a:=by simp[Array.getD,h]
structure Inv (ops:Array Oper) (w0:World) (R:List Keep) (ns:List (List Nat)) (listed:Array Bool) (t:Nat→Value) (w:World):Prop where
 below:Below w0.heap.size w0 w
 size:listed.size=ops.size
 held:∀i,listed.getD i false=true→(pick R i).says (t i) w∧∀k ∈ ns.getD i [],listed.getD k false=true
theorem ni {R:List Keep} {t:Nat→Value} {w:World}:∀ks:List Nat,(∀k ∈ ks,(pick R k).says (t k) w)→Have R t w ks
 |[],_=>trivial
 |k::ks,h=>⟨h k (by simp),ni ks fun j hj=>h j (by simp[hj])⟩
theorem aO {R:List Keep} {t:Nat→Value} {w:World} {n:Nat} (h:Have R t w (List.range n)) (k:Nat) (a:k<n):(pick R k).says (t k) w:=by
 have H:∀c:List Nat,Have R t w c→∀k ∈ c,(pick R k).says (t k) w:=by
  intro c;induction c with
  |nil=>intro _ k a;cases a
  |cons x xs ih=>
   intro h k a;rcases List.mem_cons.1 a with rfl|a
   ·exact h.1
   exact ih h.2 k a
 exact H _ h k (by simpa using a)
theorem qC {ns:List (List Nat)} (g:wF md ops ns=true) {a:Array Bool} (j:a.size=ops.size) (f:Region.ready md ops a=[]):∀n i,i<n→i<ops.size→a.getD i false=true:=by
 intro n;induction n with
 |zero=>intro i h;omega
 |succ n ih=>
  intro i hi c;by_cases hn:a.getD i false=true
  ·exact hn
  exfalso
  have d:ops[i]?=some ops[i]:=Array.getElem?_eq_getElem c;have:i ∈ Region.ready md ops a:=mem_ready.2 ⟨by rw[rC (by omega) true false];simpa using hn,_,d,fun e he hb=>by
   have:=(qH g d).1 e he hb;exact ih e.on (by omega) (by omega)⟩
  rw[f]at this;cases this
theorem countP_set {a:Array Bool} {i:Nat} (f:a.size=ops.size) (hi:i<ops.size) (e:a.getD i true=false):KD ops (a.setIfInBounds i true)<KD ops a:=by
 unfold KD;have c:∀l:List Nat,l.countP (fun j=> !(a.setIfInBounds i true).getD j true)≤l.countP (fun j=> !a.getD j true)∧(i ∈ l→l.countP (fun j=> !(a.setIfInBounds i true).getD j true)<l.countP (fun j=> !a.getD j true)):=by
  intro l;induction l with
  |nil=>simp
  |cons x l ih=>
   have hx:x=i∨x≠i:=Decidable.em _;rcases hx with rfl|hx
   ·have d:(a.setIfInBounds x true).getD x true=true:=by simp[Array.getD]
    rw[List.countP_cons,List.countP_cons,d,e];simp only[Bool.not_true,Bool.not_false,Bool.false_eq_true,if_true,if_false];have:=ih.1;exact⟨by omega,fun _=>by omega⟩
   have d:(a.setIfInBounds i true).getD x true=a.getD x true:=getD_set_ne true (Ne.symm hx);rw[List.countP_cons,List.countP_cons,d];refine⟨by omega,fun h=>?_⟩;rcases List.mem_cons.1 h with h|h
   ·exact absurd h.symm hx
   have:=ih.2 h;omega
 exact(c _).2 (by simpa using hi)
theorem UD {A:(Nat→Value)→Act} {w0:World} {R:List Keep} {ns:List (List Nat)} (z:wF md ops ns=true) (m:Steps P ops Q A w0 R 0 ops.toList ns)
  (fin:∀t w,Below w0.heap.size w0 w→Have R t w (List.range ops.size)→Q .normal (A t) w):
  ∀(c:Nat) (a:Array Bool) (t:Nat→Value) (w:World),Inv ops w0 R ns a t w→KD ops a≤c→wpAny P md ops Q c a (A t) w:=by
 have done:∀(a:Array Bool) (t:Nat→Value) (w:World),Inv ops w0 R ns a t w→Region.ready md ops a=[]→Q .normal (A t) w:=fun a t w h r=>
  fin t w h.below (ni _ fun k d=>(h.held k (qC z h.size r (k+1) k (by omega) (by simpa using d))).1)
 intro c;induction c with
 | zero=>
  intro a t w h B;have r:Region.ready md ops a=[]:=by
   cases e:Region.ready md ops a with
   |nil=>rfl
   |cons i l=>
    have hi:i ∈ Region.ready md ops a:=by rw[e];simp
    obtain⟨x,o,n,_⟩:=mem_ready.1 hi;have:=countP_set h.size (Array.getElem?_eq_some_iff.1 n).1 x;omega
  exact⟨r,done a t w h r⟩
 | succ c ih=>
  intro a t w h B;refine⟨done a t w h,fun i hi=>?_⟩;obtain⟨x,o,n,g⟩:=mem_ready.1 hi;have s:=(Array.getElem?_eq_some_iff.1 n).1;have f:∀k ∈ ns.getD i [],a.getD k false=true:=fun k d=>by
   obtain⟨e,y,q,d⟩:=(qH z n).2 k d;rcases d with rfl|d
   ·exact g e y q
   ·exact(h.held e.on (g e y q)).2 k d
  have aS:=Steps.at ops.toList 0 ns m i o (by simpa using n);rw[Nat.zero_add]at aS;refine wpOp_step n fun K hK=>aS t w h.below (ni _ fun k d=>(h.held k (f k d)).1) K fun v w' q hv=>hK _ _ (ih _ _ _ ⟨h.below.trans (q.mono h.below.size),by simpa using h.size,fun j hj=>?_⟩ ?_)
  ·by_cases hji:j=i
   ·subst hji;refine⟨by simpa[upd]using hv,fun k d=>getD_set_true (f k d)⟩
   ·rw[getD_set_ne false (Ne.symm hji)]at hj;have:=h.held j hj;refine⟨by simp only[upd,if_neg hji];exact(pick R j).stays _ _ _ q this.1,fun k d=>getD_set_true (this.2 k d)⟩
  ·have:=countP_set h.size s x;omega
def now (ops:List Oper) (a:Act) (k:Nat):Value:=match (ops[k]?).bind (·.dst)with|some d=>a.tmps.getD d undef|none=>undef
theorem Z9 (a:Act) (d:Option Tmp) (v:Value) (h:∀x,d=some x→v=a.tmps.getD x undef):a.put d v=a:=by
 cases d with
 |none=>rfl
 |some x=>
  have:=h x rfl;subst this;unfold Act.put;simp only;congr 1;apply Array.ext_getElem?;intro i;by_cases hi:x=i
  ·subst hi;by_cases hx:x<a.tmps.size
   ·simp[hx]
   simp[hx]
  rw[Array.getElem?_setIfInBounds_ne hi]
theorem qF (a:Act) (c:List Oper):∀(os:List Oper) (k:Nat),(∀j,os[j]?=c[k+j]?)→filled (now c a) os k a=a
 |[],_,_=>rfl
 |o::os,k,h=>by
  have d:c[k]?=some o:=by simpa using(h 0).symm
  have e:a.put o.dst (now c a k)=a:=Z9 a _ _ fun x hx=>by unfold now;rw[d];simp[hx]
  show filled (now c a) os (k+1) (a.put o.dst (now c a k))=a
  rw[e]
  exact qF a c os (k+1) fun j=>by have:=h (j+1);simpa[Nat.add_assoc,Nat.add_comm 1 j]using this
theorem dG {f:Nat} {a:Act} {w:World} {l:List Oper} (g:P.follows .mixedOrders=true) (R:List Keep) (ns:List (List Nat)) (k:wF .any l.toArray ns=true)
  (c:Steps P l.toArray Q (fun t=>filled t l 0 a) w R 0 l ns)
  (fin:∀t w',Below w.heap.size w w'→Have R t w' (List.range l.length)→Q .normal (filled t l 0 a) w'):(Code.region f l.toArray true).wp P Q a w:=by
 refine wp_region_any g ?_;have h:=UD (P:=P) (Q:=Q) (md:=.any) (ops:=l.toArray) (A:=fun t=>filled t l 0 a) (w0:=w) (R:=R) (ns:=ns) k (by simpa using c) (by simpa using fin) l.length (Array.replicate l.length false) (now l a) {w with drawn:=w.drawn+1}
  ⟨⟨rfl,rfl,rfl,Nat.le_refl _,fun _ _=>rfl⟩,by simp,fun i hi=>by
   by_cases h:i<l.length<;>simp[Array.getD,h]at hi⟩ (by unfold KD;refine Nat.le_trans List.countP_le_length ?_;simp)
 have e:=qF a l l 0 (fun j=>by simp);have d:wpAny P .any l.toArray Q l.length (Array.replicate l.length false) (filled (now l a) l 0 a) {w with drawn:=w.drawn+1}:=h;rw[e]at d;simpa using d
end
end dJ
namespace dJ
open Go.RowKit Base
theorem ext_take (s:ByteArray) (k:Nat):s.extract 0 k=ah (s.data.toList.take k):=by
 apply ByteArray.ext;apply Array.ext';rw[ByteArray.data_extract];simp[ah,Array.toList_extract,List.extract_eq_take_drop]
theorem ext_drop (s:ByteArray) (k n:Nat) (h:n=s.size):s.extract k n=ah (s.data.toList.drop k):=by
 subst h;apply ByteArray.ext;apply Array.ext';rw[ByteArray.data_extract];simp only[ah,Array.toList_extract,List.extract_eq_take_drop];rw[List.take_of_length_le];rw[List.length_drop,Array.length_toList];exact Nat.le_refl _
theorem jL {e:Int} (c: -9223372036854775808≤e) (a:e≤9223372036854775807):Value.int .i64 (IntKind.i64.wrap e)=.int .i64 e:=by
 rw[IntKind.wrap_i64];congr 1;omega
section
variable {P:Program} {md:Region.Mode} {ops:Array Oper} {Q:Exit→Act→World→Prop}
theorem oq {a:Array Bool} {i:Nat} (g:a.size=ops.size) (hi:i<ops.size) (f:a.getD i true=false):KD ops (a.setIfInBounds i true)+1=KD ops a:=by
 unfold KD;have d:∀l:List Nat,l.Nodup→(i ∉ l→l.countP (fun j=> !(a.setIfInBounds i true).getD j true)=l.countP (fun j=> !a.getD j true))∧(i ∈ l→l.countP (fun j=> !(a.setIfInBounds i true).getD j true)+1=l.countP (fun j=> !a.getD j true)):=by
  intro l;induction l with
  |nil=>simp
  |cons x l ih=>
   intro c;rw[List.nodup_cons]at c;have hx:x=i∨x≠i:=Decidable.em _;rcases hx with rfl|hx
   ·have e:(a.setIfInBounds x true).getD x true=true:=by simp[Array.getD]
    rw[List.countP_cons,List.countP_cons,e,f];simp only[Bool.not_true,Bool.not_false,Bool.false_eq_true,if_true,if_false];have:=(ih c.2).1 c.1;exact⟨fun h=>absurd (List.mem_cons_self) h,fun _=>by omega⟩
   have e:(a.setIfInBounds i true).getD x true=a.getD x true:=getD_set_ne true (Ne.symm hx);rw[List.countP_cons,List.countP_cons,e];refine⟨fun h=>?_,fun h=>?_⟩
   ·have:=(ih c.2).1 (fun hm=>h (List.mem_cons_of_mem _ hm));omega
   rcases List.mem_cons.1 h with h|h
   ·exact absurd h.symm hx
   have:=(ih c.2).2 h;omega
 exact(d _ List.nodup_range).2 (by simpa using hi)
def dL (t:Nat→Value):Nat→List Oper→Nat→Act→Act
 |0,_,_,a=>a
 |_+1,[],_,a=>a
 |n+1,o::os,k,a=>dL t n os (k+1) (a.put o.dst (t k))
theorem qQ:(∀t os k a,dL t 0 os k a=a)∧(∀t n k a,dL t (n+1) [] k a=a)∧∀t n o os k a,dL t (n+1) (o::os) k a=dL t n os (k+1) (a.put o.dst (t k)):=⟨fun _ _ _ _=>rfl,fun _ _ _ _=>rfl,fun _ _ _ _ _ _=>rfl⟩
theorem uD (t:Nat→Value):∀(n:Nat) (os:List Oper) (k:Nat) (a:Act),dL t n os k a=filled t (os.take n) k a
 |0,_,_,_=>rfl
 |_+1,[],_,_=>rfl
 |n+1,o::os,k,a=>by
  show dL t n os (k+1) (a.put o.dst (t k))=_
  rw[uD t n os]
  rfl
def Ya (md:Region.Mode) (ops:Array Oper) (ns:List (List Nat)) (n:Nat):Bool:=
 decide (n<ops.size)&&wF md ops ns&&((List.range n).all fun k=>(ns.getD n []).contains k)&&
 ((List.range ops.size).all fun i=>decide (i≤n)||match ops[i]? with
  |none=>false
  |some o=>o.after.any fun e=>Region.binds md e&&decide (n≤e.on))&&
 Region.seqB md ops (ops.size - n) n (List.replicate n true++List.replicate (ops.size - n) false).toArray
structure Yz (ops:Array Oper) (w0:World) (R:List Keep) (ns:List (List Nat)) (n:Nat) (listed:Array Bool) (t:Nat→Value) (w:World):Prop extends Inv ops w0 R ns listed t w where
 tail:∀i,n≤i→listed.getD i false=false
theorem Gt {A:(Nat→Value)→Act} {w0:World} {R:List Keep} {ns:List (List Nat)} {n:Nat} (H:Ya md ops ns n=true) (q:Steps P ops Q A w0 R 0 (ops.toList.take n) ns)
  (fin:∀t w,Below w0.heap.size w0 w→Have R t w (List.range n)→wpList P ops Q (ops.toList.drop n) (A t) w):
  ∀(c:Nat) (a:Array Bool) (t:Nat→Value) (w:World),Yz ops w0 R ns n a t w→KD ops a=c→wpAny P md ops Q c a (A t) w:=by
 unfold Ya at H;simp only[Bool.and_eq_true,decide_eq_true_eq]at H;obtain⟨⟨⟨⟨X,L⟩,E⟩,G⟩,B⟩:=H
 -- all of the head is a:the tail,in its order
 have done : ∀ (c : Nat) (a : Array Bool) (t : Nat → Value) (w : World), Yz ops w0 R ns n a t w → KD ops a = c → (∀ i, i < n → a.getD i false = true) → wpAny P md ops Q c a (A t) w := by
  intro c a t w h z r;have y:a=(List.replicate n true++List.replicate (ops.size - n) false).toArray:=by
   apply Array.ext
   ·simp[h.size];omega
   ·intro i m I;have V:=h.size;simp only[List.getElem_toArray];by_cases hi:i<n
    ·have:=r i hi;simp[Array.getD,m]at this;rw[List.getElem_append_left (by simpa using hi)];simpa using this
    ·have:=h.tail i (by omega);simp[Array.getD,m]at this;rw[List.getElem_append_right (by simpa using hi)];simpa using this
  have hf:c=(ops.toList.drop n).length:=by
   rw[←z];unfold KD;have e:ops.size=n+(ops.size - n):=by omega
   rw[e,List.range_add,List.countP_append];have O:(List.range n).countP (fun i=> !a.getD i true)=0:=by
    rw[List.countP_eq_zero];intro i hi;have s:=List.mem_range.1 hi;rw[rC (by rw[h.size];omega) true false,r i s];decide
   have N:((List.range (ops.size - n)).map (n+·)).countP (fun i=> !a.getD i true)=((List.range (ops.size - n)).map (n+·)).length:=by
    rw[List.countP_eq_length];intro i hi;obtain⟨j,x,rfl⟩:=List.mem_map.1 hi;have W:=List.mem_range.1 x;rw[rC (by rw[h.size];omega) true false,h.tail (n+j) (by omega)];rfl
   rw[O,N];simp
  have T:=fin t w h.below (ni _ fun k g=>(h.held k (r k (by simpa using g))).1);rw[hf];refine wpAny_of_seq (md:=md) (ops.toList.drop n) n a (A t) w (fun j=>by simp[List.getElem?_drop]) ?_ T;rw[y];simpa using B
 intro c;induction c with
 |zero=>
  intro a t w h z;refine done 0 a t w h z fun i hi=>?_;cases e:a.getD i false with
  |true=>rfl
  |false=>
   have:=oq h.size (show i<ops.size by omega) (by rw[rC (by rw[h.size];omega) true false];exact e);omega
 | succ c ih=>
  intro a t w h z;by_cases r:∀i,i<n→a.getD i false=true
  ·exact done (c+1) a t w h z r
  have F:Region.ready md ops a≠[]:=fun hr=>r fun i hi=>qC L h.size hr (i+1) i (by omega) (by omega);refine⟨fun J=>absurd J F,fun i hi=>?_⟩;obtain⟨J,o,C,d⟩:=mem_ready.1 hi;have D:=(Array.getElem?_eq_some_iff.1 C).1;have f:∀k ∈ ns.getD i [],a.getD k false=true:=fun k g=>by
   obtain⟨e,y,l,g⟩:=(qH L C).2 k g;rcases g with rfl|g
   ·exact d e y l
   ·exact(h.held e.on (d e y l)).2 k g
  have s:i<n:=by
   rcases Nat.lt_trichotomy i n with hlt'|rfl|hgt
   ·exact hlt'
   ·exact absurd (fun k g=>f k (by
     have:=List.all_eq_true.1 E k (List.mem_range.2 g);simpa using this)) r
   ·have m:=List.all_eq_true.1 G i (List.mem_range.2 D);simp only[C,Bool.or_eq_true,decide_eq_true_eq]at m;rcases m with m|m
    ·omega
    ·obtain⟨e,y,l⟩:=Array.any_eq_true'.1 m;simp only[Bool.and_eq_true,decide_eq_true_eq]at l;have I:=d e y l.1;rw[h.tail e.on l.2]at I;cases I
  have aS:=Steps.at (ops.toList.take n) 0 ns q i o (by rw[List.getElem?_take,if_pos s];simpa using C);rw[Nat.zero_add]at aS;refine wpOp_step C fun K hK=>aS t w h.below (ni _ fun k g=>(h.held k (f k g)).1) K fun v w' l hv=>hK _ _ (ih _ _ _ ⟨⟨h.below.trans (l.mono h.below.size),by simpa using h.size,fun j x=>?_⟩,fun j x=>?_⟩ ?_)
  ·by_cases hji:j=i
   ·subst hji;refine⟨by simpa[upd]using hv,fun k g=>getD_set_true (f k g)⟩
   ·rw[getD_set_ne false (Ne.symm hji)]at x;have:=h.held j x;refine⟨by simp only[upd,if_neg hji];exact(pick R j).stays _ _ _ l this.1,fun k g=>getD_set_true (this.2 k g)⟩
  ·rw[getD_set_ne false (by omega)];exact h.tail j x
  ·have:=oq h.size D J;omega
theorem bf {g:Nat} {a:Act} {w:World} {l:List Oper} (k:P.follows .mixedOrders=true) (n:Nat) (R:List Keep) (ns:List (List Nat)) (m:Ya .any l.toArray ns n=true)
  (c:Steps P l.toArray Q (fun t=>dL t n l 0 a) w R 0 (l.take n) ns)
  (fin:∀t w',Below w.heap.size w w'→Have R t w' (List.range n)→wpList P l.toArray Q (l.drop n) (dL t n l 0 a) w'):(Code.region g l.toArray true).wp P Q a w:=by
 refine wp_region_any k ?_;have h:=Gt (P:=P) (Q:=Q) (md:=.any) (ops:=l.toArray) (A:=fun t=>dL t n l 0 a) (w0:=w) (R:=R) (ns:=ns) (n:=n) m (by simpa using c) (by simpa using fin) l.length (Array.replicate l.length false) (now (l.take n) a) {w with drawn:=w.drawn+1}
  ⟨⟨⟨rfl,rfl,rfl,Nat.le_refl _,fun _ _=>rfl⟩,by simp,fun i hi=>by
   by_cases h:i<l.length<;>simp[Array.getD,h]at hi⟩,fun i _=>by by_cases h:i<l.length<;>simp[Array.getD,h]⟩ (by
   unfold KD;have:(List.range l.toArray.size).countP (fun i=> !(Array.replicate l.length false).getD i true)=(List.range l.toArray.size).length:=by
    rw[List.countP_eq_length];intro i hi;have d:i<l.length:=by simpa using hi
    simp[Array.getD,d]
   rw[this];simp)
 have e:dL (now (l.take n) a) n l 0 a=a:=by rw[uD];exact qF a (l.take n) (l.take n) 0 (fun j=>by simp)
 have f:wpAny P .any l.toArray Q l.length (Array.replicate l.length false) (dL (now (l.take n) a) n l 0 a) {w with drawn:=w.drawn+1}:=h;rw[e]at f;simpa using f
end
end dJ
