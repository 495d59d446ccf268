/- Lemmas. -/
import Derived.Test.YtaeohdlnidnofaaGreatDoorPRABB
import Derived.Handed
import Derived.HandedShaped
import Derived.Shelf.Vars
import Derived.ProofKit
import Derived.OpenShut
import Derived.ShutString
import Derived.ChangeOld
import Derived.Below
import Derived.SliceStrings
import Derived.SizedLaws
set_option linter.unusedSimpArgs false
set_option linter.unusedVariables false
set_option maxRecDepth 100000
set_option maxHeartbeats 64000000
namespace Go.Proofs.YtaeohdlnidnofaaGreatDoor
open Tryz
namespace Laws
open Go.RowKit Base bC aJ vU ni zu IV Ulw acR
theorem Iu (u:U) (A i:Option Addr) (n c a g:Nat) (w:World) (f:Pt w u A n c) (d:Pt w u i a g):Calls prog 13 #[.agg #[.string (ah u.au),.string (ah u.bU),.string (ah u.bW),.string (ah u.aU),.bool u.hh,.int .i64 u.port,.bool u.dF,.string (ah u.txt),.slice A n c,.bool u.hq,.bool u.hf,.string (ah u.bQ),.string (ah u.eX)],.agg #[.string (ah u.au),.string (ah u.bU),.string (ah u.bW),.string (ah u.aU),.bool u.hh,.int .i64 u.port,.bool u.dF,.string (ah u.txt),.slice i a g,.bool u.hq,.bool u.hf,.string (ah u.bQ),.string (ah u.eX)]] w fun e w'=>e=.returned (.bool true)∧Below w.heap.size w w':=by
 have h:=aaG.Dc (ah u.au) (ah u.bU) (ah u.bW) (ah u.aU) u.hh u.port u.dF (ah u.txt) A n c u.aF u.hq u.hf (ah u.bQ) (ah u.eX) (ah u.au) (ah u.bU) (ah u.bW) (ah u.aU) u.hh u.port u.dF (ah u.txt) i a g u.aF u.hq u.hf (ah u.bQ) (ah u.eX) w f.aF.1 f.aF.2.1 f.aF.2.2 d.aF.1 d.aF.2.1 d.aF.2.2;rw[decide_eq_true rfl]at h;exact h
theorem Ky (u:U) (A g:Option Addr) (n c d f:Nat) (w:World) (Z:Pt w u A n c) (Y:Pt w u g d f):Calls prog 10 #[.agg #[.string (ah u.au),.string (ah u.bU),.string (ah u.bW),.string (ah u.aU),.bool u.hh,.int .i64 u.port,.bool u.dF,.string (ah u.txt),.slice A n c,.bool u.hq,.bool u.hf,.string (ah u.bQ),.string (ah u.eX)],.int .i64 0,.agg #[.string (ah u.au),.string (ah u.bU),.string (ah u.bW),.string (ah u.aU),.bool u.hh,.int .i64 u.port,.bool u.dF,.string (ah u.txt),.slice g d f,.bool u.hq,.bool u.hf,.string (ah u.bQ),.string (ah u.eX)],.int .i64 0] w fun e w'=>e=.returned (.bool true)∧Below w.heap.size w w':=by
 have T:Hid (∀(A g:Option Addr) (n c d f:Nat) (w:World),Pt w u A n c→Pt w u g d f→Calls prog 13 #[.agg #[.string (ah u.au),.string (ah u.bU),.string (ah u.bW),.string (ah u.aU),.bool u.hh,.int .i64 u.port,.bool u.dF,.string (ah u.txt),.slice A n c,.bool u.hq,.bool u.hf,.string (ah u.bQ),.string (ah u.eX)],.agg #[.string (ah u.au),.string (ah u.bU),.string (ah u.bW),.string (ah u.aU),.bool u.hh,.int .i64 u.port,.bool u.dF,.string (ah u.txt),.slice g d f,.bool u.hq,.bool u.hf,.string (ah u.bQ),.string (ah u.eX)]] w fun e w'=>e=.returned (.bool true)∧Below w.heap.size w w'):=fun A g n c d f w h k=>Iu u A g n c d f w h k;have W:=hid Z;have V:=hid Y;clear Z Y;go_enter func10,ntmps10;go_upto_region 1 with(fail)
 generalize hwa:World.alloc (World.alloc w _) _=v1;have a:UB v1 w.heap.size u (.slice A n c)∧UB v1 (w.heap.size+1) u (.slice g d f)∧Below w.heap.size w v1:=by
  subst hwa;exact EU w _ _ _ _
 clear hwa;have X1:=hid a.1;have X2:=hid a.2.1;have X:=hid a.2.2;have Q1:=hid (W.below a.2.2);have Q2:=hid (V.below a.2.2);clear a;obtain⟨Q,P,O,N,L,J,I,H,G,F,r,q,m⟩:=X1.facts;obtain⟨E,D,C,B,z,y,x,v,t,s,l,j,i⟩:=X2.facts;go_wp2_with fail
 clear Q P O N L J I H G F r q m E D C B z y x v t s l j i;refine pz X (T _ _ _ _ _ _ _ Q1 Q2) fun w2 HB2=>?_;go_wp2;go_ret;exact⟨rfl,HB2⟩
theorem Kw (u:U) (W:u=U0) (A V:Option Addr) (n c l O:Nat) (w:World) (X:Pt w u A n c) (Y:Pt w u V l O):Calls prog 10 #[.agg #[.string (ah u.au),.string (ah u.bU),.string (ah u.bW),.string (ah u.aU),.bool u.hh,.int .i64 u.port,.bool u.dF,.string (ah u.txt),.slice A n c,.bool u.hq,.bool u.hf,.string (ah u.bQ),.string (ah u.eX)],.int .i64 2,.agg #[.string (ah u.au),.string (ah u.bU),.string (ah u.bW),.string (ah u.aU),.bool u.hh,.int .i64 u.port,.bool u.dF,.string (ah u.txt),.slice V l O,.bool u.hq,.bool u.hf,.string (ah u.bQ),.string (ah u.eX)],.int .i64 2] w fun e w'=>e=.returned (.bool true)∧Below w.heap.size w w':=by
 have P:Hid (∀(A:Option Addr) (n c:Nat) (w:World),Pt w u A n c→Calls prog 13 #[.agg #[.string (ah u.au),.string (ah u.bU),.string (ah u.bW),.string (ah u.aU),.bool u.hh,.int .i64 u.port,.bool u.dF,.string (ah u.txt),.slice A n c,.bool u.hq,.bool u.hf,.string (ah u.bQ),.string (ah u.eX)],.agg #[.string ⟨#[]⟩,.string ⟨#[]⟩,.string ⟨#[]⟩,.string ⟨#[]⟩,.bool false,.int .i64 0,.bool false,.string ⟨#[]⟩,.slice none 0 0,.bool false,.bool false,.string ⟨#[]⟩,.string ⟨#[]⟩]] w fun e w'=>e=.returned (.bool true)∧Below w.heap.size w w'):=fun A n c w h=>Smz.Td W A n c w h;clear W;have Q:=hid X;clear X Y;go_enter func10,ntmps10;go_upto_region 1 with(fail)
 generalize hwa:World.alloc (World.alloc w _) _=v1;have a:UB v1 w.heap.size u (.slice A n c)∧UB v1 (w.heap.size+1) u (.slice V l O)∧Below w.heap.size w v1:=by
  subst hwa;exact EU w _ _ _ _
 clear hwa;have X1:=hid a.1;have Z:=hid a.2.1;have T:=hid a.2.2;have Q1:=hid (Q.below a.2.2);clear a;obtain⟨N,L,J,I,H,G,F,E,D,C,k,j,i⟩:=X1.facts;obtain⟨B,z,y,x,v,t,s,r,q,m,g,f,d⟩:=Z.facts;go_wp2_with fail
 clear N L J I H G F E D C k j i B z y x v t s r q m g f d;refine pz T (P _ _ _ _ Q1) fun w2 HB2=>?_;go_wp2;go_ret;exact⟨rfl,HB2⟩
theorem Ec (i:ByteArray) (w:World) (h0:i.size≤140737488351232) (hT:Tab.Pow w) (hL:pq w) (hM:Max w) (hU:vZ w):Calls prog 3 #[.string i] w fun e w'=>e=.returned (.bool true)∧Below w.heap.size w w':=by
 have HE:=hid (⟨hT,hL,hM,hU⟩:Env w);have O:Hid (∀w:World,Env w→Calls prog 7 #[] w fun e w'=>e=.returned (.bool true)∧Below w.heap.size w w'):=fun w E=>GZ w E;clear hT hL hM hU;by_cases hl:i.size≤2000
 ·have d5:¬(2000:Int)<(i.size:Int):=by omega
  obtain⟨C,hC⟩:∃C,C=ah (clean i.data.toList):=⟨_,rfl⟩;have d4:Hid (∀w,Env w→Calls prog 11 #[.string i] w fun e w'=>e=.returned (.string C)∧Below w.heap.size w w'):=fun w E=>by
   have k:=IV.BF i.data.toList w (by rw[dl];omega) E.Pj;rw[bD,←hC]at k;exact k
  have d3:Hid (∀w,Env w→Calls prog 12 #[.string i] w fun e w'=>e=.returned (.string C)∧Below w.heap.size w w'):=fun w E=>by
   have k:=aaq.Az i.data.toList w (by rw[dl];omega);rw[bD,←hC]at k;exact k
  have HQ:Hid ((C.toList==C.toList)=true):=beq_self_eq_true _;obtain⟨d,b7⟩:∃d,d=U0:=⟨_,rfl⟩;have b8:=hid b7;cases e1:aJ.url i.data.toList none with
  |none=>
   have c0:Hid (∀w,Env w→Calls prog 8 #[.string i,.pointer none] w fun e w'=>∃A' n' c',e=.returned (.tuple #[.agg #[.string (ah d.au),.string (ah d.bU),.string (ah d.bW),.string (ah d.aU),.bool d.hh,.int .i64 d.port,.bool d.dF,.string (ah d.txt),.slice A' n' c',.bool d.hq,.bool d.hf,.string (ah d.bQ),.string (ah d.eX)],.int .i64 2])∧Pt w' d A' n' c'∧Below w.heap.size w w'):=fun w E=>Fg b8 e1 (by omega) w E;have b9:Hid (∀w,Env w→Calls prog 9 #[.string i,.pointer none] w fun e w'=>∃A' n' c',e=.returned (.tuple #[.agg #[.string (ah d.au),.string (ah d.bU),.string (ah d.bW),.string (ah d.aU),.bool d.hh,.int .i64 d.port,.bool d.dF,.string (ah d.txt),.slice A' n' c',.bool d.hq,.bool d.hf,.string (ah d.bQ),.string (ah d.eX)],.int .i64 2])∧Pt w' d A' n' c'∧Below w.heap.size w w'):=fun w E=>Ny.Di b8 e1 (by omega) w;have c8:Hid (∀(A q:Option Addr) (n c l m:Nat) (w:World),Pt w d A n c→Pt w d q l m→Calls prog 10 #[.agg #[.string (ah d.au),.string (ah d.bU),.string (ah d.bW),.string (ah d.aU),.bool d.hh,.int .i64 d.port,.bool d.dF,.string (ah d.txt),.slice A n c,.bool d.hq,.bool d.hf,.string (ah d.bQ),.string (ah d.eX)],.int .i64 2,.agg #[.string (ah d.au),.string (ah d.bU),.string (ah d.bW),.string (ah d.aU),.bool d.hh,.int .i64 d.port,.bool d.dF,.string (ah d.txt),.slice q l m,.bool d.hq,.bool d.hf,.string (ah d.bQ),.string (ah d.eX)],.int .i64 2] w fun e w'=>e=.returned (.bool true)∧Below w.heap.size w w'):=fun A q n c l m w h k=>Kw d b8 A q n c l m w h k;clear e1 b7 hl h0 hC;go_enter func3,ntmps3;go_wp2_with fail
   refine(O _ HE).mono ?_;rintro e w1 ⟨rfl,a⟩;have J:=hid a;have j:=hid (HE.below a);clear a;go_wp2_with fail
   refine(c0 _ j).mono ?_;rintro e P ⟨A1,n1,c1,rfl,g,a⟩;have I:=hid (bF J a);have d2:=hid (j.below a);clear a;have T1:=hid (g);clear g;go_upto_region 4 with(fail)
   generalize hwa:World.alloc _ _=v3;have f:UB v3 (P.heap.size) d (.slice A1 n1 c1):=by rw[←hwa];exact heap_alloc_new _ _
   have a:Below P.heap.size P v3:=by rw[←hwa];exact(Below.refl _ _).alloc (Nat.le_refl _) _
   have X1:=hid f;clear hwa f;have c7:=hid (bF I a);have N:=hid (d2.below a);have H:=hid (T1.below a);clear a;go_wp2_with fail
   refine(b9 _ N).mono ?_;rintro e Q ⟨q,l,m,rfl,g,a⟩;have c6:=hid (bF c7 a);have d1:=hid (N.below a);have G:=hid (H.below a);have B:=hid (X1.below a);clear a;have T2:=hid (g);clear g;go_upto_region 5 with(fail)
   generalize hwa:World.alloc _ _=v5;have f:UB v5 (Q.heap.size) d (.slice q l m):=by rw[←hwa];exact heap_alloc_new _ _
   have a:Below Q.heap.size Q v5:=by rw[←hwa];exact(Below.refl _ _).alloc (Nat.le_refl _) _
   have X2:=hid f;clear hwa f;have c5:=hid (bF c6 a);have d0:=hid (d1.below a);have F:=hid (G.below a);have z:=hid (B.below a);have D:=hid (T2.below a);clear a;obtain⟨b6,b5,b3,b0,a9,a8,a7,a6,a5,a4,y,x,v⟩:=z.facts;obtain⟨a3,a2,a1,a0,Z,Y,X,W,V,T,t,s,r⟩:=X2.facts;go_wp2_with fail
   clear b6 b5 b3 b0 a9 a8 a7 a6 a5 a4 y x v a3 a2 a1 a0 Z Y X W V T t s r;refine(c8 _ _ _ _ _ _ _ F D).mono ?_;rintro e w6 ⟨rfl,a⟩;have c4:=hid (bF c5 a);have L:=hid (d0.below a);clear a;go_wp2_with fail
   refine(d4 _ L).mono ?_;rintro e w7 ⟨rfl,a⟩;have c3:=hid (bF c4 a);have c9:=hid (L.below a);clear a;go_wp2_with fail
   refine pz c3 (d3 _ c9) fun w8 HB8=>?_;have hq:=HQ.out;go_wp2;go_ret;exact⟨rfl,HB8⟩
  |some u=>
   have c0:Hid (∀w,Env w→Calls prog 8 #[.string i,.pointer none] w fun e w'=>∃A' n' c',e=.returned (.tuple #[.agg #[.string (ah u.au),.string (ah u.bU),.string (ah u.bW),.string (ah u.aU),.bool u.hh,.int .i64 u.port,.bool u.dF,.string (ah u.txt),.slice A' n' c',.bool u.hq,.bool u.hf,.string (ah u.bQ),.string (ah u.eX)],.int .i64 0])∧Pt w' u A' n' c'∧Below w.heap.size w w'):=fun w E=>yY e1 (by omega) w E;have b9:Hid (∀w,Env w→Calls prog 9 #[.string i,.pointer none] w fun e w'=>∃A' n' c',e=.returned (.tuple #[.agg #[.string (ah u.au),.string (ah u.bU),.string (ah u.bW),.string (ah u.aU),.bool u.hh,.int .i64 u.port,.bool u.dF,.string (ah u.txt),.slice A' n' c',.bool u.hq,.bool u.hf,.string (ah u.bQ),.string (ah u.eX)],.int .i64 0])∧Pt w' u A' n' c'∧Below w.heap.size w w'):=fun w E=>Ny.Dj e1 (by omega) w;have c8:Hid (∀(A q:Option Addr) (n c l m:Nat) (w:World),Pt w u A n c→Pt w u q l m→Calls prog 10 #[.agg #[.string (ah u.au),.string (ah u.bU),.string (ah u.bW),.string (ah u.aU),.bool u.hh,.int .i64 u.port,.bool u.dF,.string (ah u.txt),.slice A n c,.bool u.hq,.bool u.hf,.string (ah u.bQ),.string (ah u.eX)],.int .i64 0,.agg #[.string (ah u.au),.string (ah u.bU),.string (ah u.bW),.string (ah u.aU),.bool u.hh,.int .i64 u.port,.bool u.dF,.string (ah u.txt),.slice q l m,.bool u.hq,.bool u.hf,.string (ah u.bQ),.string (ah u.eX)],.int .i64 0] w fun e w'=>e=.returned (.bool true)∧Below w.heap.size w w'):=fun A q n c l m w h k=>Ky u A q n c l m w h k;clear e1 b7 hl h0 hC;go_enter func3,ntmps3;go_wp2_with fail
   refine(O _ HE).mono ?_;rintro e w1 ⟨rfl,a⟩;have J:=hid a;have j:=hid (HE.below a);clear a;go_wp2_with fail
   refine(c0 _ j).mono ?_;rintro e P ⟨A1,n1,c1,rfl,g,a⟩;have I:=hid (bF J a);have d2:=hid (j.below a);clear a;have T1:=hid (g);clear g;go_upto_region 4 with(fail)
   generalize hwa:World.alloc _ _=v3;have f:UB v3 (P.heap.size) u (.slice A1 n1 c1):=by rw[←hwa];exact heap_alloc_new _ _
   have a:Below P.heap.size P v3:=by rw[←hwa];exact(Below.refl _ _).alloc (Nat.le_refl _) _
   have X1:=hid f;clear hwa f;have c7:=hid (bF I a);have N:=hid (d2.below a);have H:=hid (T1.below a);clear a;go_wp2_with fail
   refine(b9 _ N).mono ?_;rintro e Q ⟨q,l,m,rfl,g,a⟩;have c6:=hid (bF c7 a);have d1:=hid (N.below a);have G:=hid (H.below a);have B:=hid (X1.below a);clear a;have T2:=hid (g);clear g;go_upto_region 5 with(fail)
   generalize hwa:World.alloc _ _=v5;have f:UB v5 (Q.heap.size) u (.slice q l m):=by rw[←hwa];exact heap_alloc_new _ _
   have a:Below Q.heap.size Q v5:=by rw[←hwa];exact(Below.refl _ _).alloc (Nat.le_refl _) _
   have X2:=hid f;clear hwa f;have c5:=hid (bF c6 a);have d0:=hid (d1.below a);have F:=hid (G.below a);have z:=hid (B.below a);have D:=hid (T2.below a);clear a;obtain⟨b6,b5,b3,b0,a9,a8,a7,a6,a5,a4,y,x,v⟩:=z.facts;obtain⟨a3,a2,a1,a0,Z,Y,X,W,V,T,t,s,r⟩:=X2.facts;go_wp2_with fail
   clear b6 b5 b3 b0 a9 a8 a7 a6 a5 a4 y x v a3 a2 a1 a0 Z Y X W V T t s r;refine(c8 _ _ _ _ _ _ _ F D).mono ?_;rintro e w6 ⟨rfl,a⟩;have c4:=hid (bF c5 a);have L:=hid (d0.below a);clear a;go_wp2_with fail
   refine(d4 _ L).mono ?_;rintro e w7 ⟨rfl,a⟩;have c3:=hid (bF c4 a);have c9:=hid (L.below a);clear a;go_wp2_with fail
   refine pz c3 (d3 _ c9) fun w8 HB8=>?_;have hq:=HQ.out;go_wp2;go_ret;exact⟨rfl,HB8⟩
 have d5:(2000:Int)<(i.size:Int):=by omega
 clear hl;go_enter func3,ntmps3;go_wp2_with fail
 refine(O _ HE).mono ?_;rintro e w1 ⟨rfl,a⟩;have J:=hid a;have j:=hid (HE.below a);clear a;go_wp2_with fail
 refine pz J (O _ j) fun P I=>?_;go_wp2;go_ret;exact⟨rfl,I⟩
end Laws
namespace Shs
open Go.RowKit
variable {H:Type} {enc:TypeId×Value→H}
theorem wrap {a:Assume} {C:Checked} {os:Os} {f:FuncId} {l:Func} {s:ChangeSpec} {h:List PathCond} {apart q g r:Bool} {X:World→Array Value→Prop}
  (T:∀(w w':World) (args:Array Value),w.heap=w'.heap→X w args→X w' args)
  (F:ownKnob C.prog.godebug=none) (n:os.Started) (x:C.prog.inits.idxOf? f=none) (L:C.prog.funcs[f]?=some l)
  (m:∃(w:World) (c:Tape) (i:Input),w.os=os∧(w.forCall c i).Shaped C.prog∧i.vars=[]∧Input.okWide C.prog (w.forCall c i) .any w.heap.size f i∧
   ((s.pre enc C.prog l h apart (w.forCall c i).memory i.args∧X (w.forCall c i).memory i.args)∧sizedMet enc C.prog l (OpenSpec.ofChange s) apart (w.forCall c i).memory i.args)∧a.holds C.prog (lone (Frame.enter C.prog f i.args .normal) [] (w.forCall c i)))
  (k:∀(W:World) (base:Nat) (args:Array Value) (E D:List (DataW H)) (d:List MemPlace),
   (∀(j:Nat) t v,l.params[j]?=some t→args[j]?=some v→Value.okWide C.prog W .any base t v)→
   DataW.Whole enc C.prog l.params.toList s.vars apart W args.toList E D d→
   h.all (PathCond.test C.prog ⟨l.params.toList,E,s.plain.varTypes C.prog,D⟩)=true→
   (DataW.weightsEach C.prog (l.params.toList++s.plain.varTypes C.prog) (E++D)).all (·≤reachBytes)=true→X W args→W.ShapedOpen C.prog→
   a.holds C.prog (lone (Frame.enter C.prog f args .normal) [] W)→
   Calls C.prog f args W fun e W'=>∃v,e=.returned v∧s.post enc C.prog l apart q g r W args v W'):
  ReturnsInHanded a C os f .any (fun w args=>(s.pre enc C.prog l h apart w args∧X w args)∧sizedMet enc C.prog l (OpenSpec.ofChange s) apart w args) (s.post enc C.prog l apart q g r):=by
 refine returnsInHanded_of_calls F n x m ?_;intro w c i _ I _ J A y;obtain⟨_,_,_,N,B,_,_,_,_,z⟩:=J;have e:N=l:=Option.some.inj (B.symm.trans L);subst e;obtain⟨⟨⟨E,D,d,O,Q⟩,hx⟩,P⟩:=A;have G:=DataW.Whole.of_heap (w':=w.forCall c i) (by rfl) O;refine(k (w.forCall c i) w.heap.size i.args E D d z G Q (P.weights O) (T _ _ _ (by rfl) hx) I y).mono fun e W' ⟨v,he,hp⟩=>?_;subst he;exact ChangeSpec.post_blind hp
theorem aa1 {w:World} (h:w.ShapedOpen prog):zu.Max w:=Go.Proofs.cell_of_shapedOpen_int (zero:=#[.int .i64 0]) (t:=3) h (of_decide_eq_true (by kernel_rfl)) (by kernel_rfl) rfl (by kernel_rfl) (by kernel_rfl) underlying3
end Shs
namespace vZ
open Go.RowKit Go.Lib
theorem Zv {W:World} {l:List (String×DataW Unit)} (h:laidMet prog l W) (c:("unicode/utf8.first",firstData) ∈ l) (a:("unicode/utf8.acceptRanges",acceptData) ∈ l):IV.vZ W:=
 utf8Tabs_of_reads (ρ:=l237_ren) {l237 with} ⟨by kernel_rfl,by kernel_rfl,by kernel_rfl,by kernel_rfl,by kernel_rfl,by kernel_rfl,by kernel_rfl⟩ (Lib.laidMet.reads h c) (Lib.laidMet.reads h a)
end vZ
namespace Zz
open Go.ChangeShapes Go.WideShapes Go.ChangeAt Go.RowKit
variable {P:Program} {w:World} {H:Type} {enc:TypeId×Value→H} {base:Nat} {held:Bool}
theorem KH {t e:TypeId} {k:IntKind} {g:Nat} {a:Option Addr} {len f:Nat} {x:DataW H×List MemPlace} (m:P.underlying t=some (.slice e)) (n:P.underlying e=some (.int k)) (q:P.cellsOf e=1)
  (h:DataW.trod enc P w base (fun _=>true) held g t (Value.slice a len f).cells.toList=some x):
  f=0∨∃es sp,x.1=.slice es sp∧es.length+sp.length=f:=by
 rcases open_ints m n q h with⟨d,_⟩|⟨_,l,c,zs,d,_,s,r,j,rfl,_,_⟩
 ·simp[Value.cells]at d;exact .inl d.2.2
 ·simp[Value.cells]at d;obtain⟨rfl,rfl,rfl⟩:=d;have i:zs.length=f:=by simpa using j
  refine .inr ⟨_,_,rfl,?_⟩;simp only[lits,List.length_map,List.length_take,List.length_drop];omega
theorem reach {l:List TypeId} {n:List (DataW H)} (g:(DataW.weightsEach P l n).all (·≤reachBytes)=true) {j:Nat} {t e:TypeId} {k:IntKind} {b c:Nat} {a:Option Addr} {len d:Nat} {x:DataW H×List MemPlace}
  (f:l[j]?=some t) (i:n[j]?=some x.1) (m:P.underlying t=some (.slice e)) (q:P.underlying e=some (.int k)) (r:P.cellsOf e=1) (s:P.bytesOf e=b)
  (h:DataW.trod enc P w base (fun _=>true) held c t (Value.slice a len d).cells.toList=some x):d*b≤140737488351232:=by
 rcases KH m q r h with rfl|⟨es,sp,e1,hl⟩
 ·simp
 ·have:=sized_slice g f (i.trans (congrArg some e1)) m;rw[hl,s]at this;exact this
theorem X7 {g:List TypeId} {k:List (DataW H)} (e:(DataW.weightsEach P g k).all (·≤reachBytes)=true) {i:Nat} {t:TypeId} {h:Array Field} {c:List (DataW H)} (d:g[i]?=some t) (f:k[i]?=some (.agg c)) (l:P.underlying t=some (.struct h))
  {j:Nat} {n:TypeId} {a:List UInt8} (hf:(h.toList.map (·.type))[j]?=some n) (m:c[j]?=some (.lit (.string a))):a.length≤reachBytes:=by
 have:=List.all_eq_true.1 e _ (DataW.weights_mem_each d f a.length (by
  simp only[DataW.weights,l];exact DataW.weights_mem_each hf m _ (by simp[DataW.weights])))
 simpa using this
end Zz
