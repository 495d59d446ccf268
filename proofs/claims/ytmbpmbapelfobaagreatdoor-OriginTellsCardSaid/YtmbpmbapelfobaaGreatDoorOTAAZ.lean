/- Lemmas. -/
import Derived.Test.YtmbpmbapelfobaaGreatDoorOTAAY
import Derived.Handed
import Derived.HandedShaped
import Derived.Shelf.Vars
import Derived.ProofKit
import Derived.OpenShut
import Derived.ShutString
import Derived.ChangeOld
import Derived.Below
import Derived.SliceStrings
import Derived.SizedLaws
set_option linter.unusedSimpArgs false
set_option linter.unusedVariables false
set_option maxRecDepth 100000
set_option maxHeartbeats 64000000
namespace Go.Proofs.YtmbpmbapelfobaaGreatDoor
open Tryz
namespace aez
open Go.RowKit Base aV fJ aC qB rV nO Ulw Ee RP RQ YG YQ ab3
open Go.Proofs.YtmbpmbapelfobaaGreatDoor.KI (qR)
open Go.Proofs.YtmbpmbapelfobaaGreatDoor.abQ (mD rP)
theorem LK (s:List UInt8):five s↔aj s=true∧s≠[102,105,108,101]:=by
 rcases sorts s with rfl|rfl|rfl|rfl|rfl|rfl|⟨h1,h2,h3,h4,h5,h6⟩
 ·decide
 ·decide
 ·decide
 ·decide
 ·decide
 ·decide
 constructor
 ·rintro(h|h|h|h|h)
  ·exact absurd h h1
  ·exact absurd h h2
  ·exact absurd h h4
  ·exact absurd h h3
  exact absurd h h5
 rintro⟨h,_⟩;unfold aj iE at h;rw[if_neg h1,if_neg (by rintro(e|e);exact h2 e;exact h3 e),if_neg (by rintro(e|e);exact h4 e;exact h5 e),decide_eq_false h6]at h;cases h
theorem Xx (u:U) (A:Option Addr) (n c:Nat) (w:World) (j:u.au≠[98,108,111,98]) (i:aj u.au=true) (hf:u.au≠[102,105,108,101]):Calls prog 8 #[.agg #[.string (ah u.au),.string (ah u.bT),.string (ah u.bW),.string (ah u.aS),.bool u.hh,.int .i64 u.port,.bool u.bP,.string (ah u.txt),.slice A n c,.bool u.hq,.bool u.hf,.string (ah u.bQ),.string (ah u.dY)]] w fun e w'=>e=.returned (.tuple #[.agg #[.string (ah u.au),.string (ah u.aS),.int .i64 u.port,.int .i64 0],.bool true])∧Below w.heap.size w w':=by
 have qb:((ah u.au).toList==[98,108,111,98])=false:=by rw[ay,beq_eq_false_iff_ne];exact j
 have f:Hid (∀w:World,Calls prog 20 #[.string (ah u.au)] w fun e w'=>e=.returned (.tuple #[.int .i64 (iE u.au),.bool true])∧w'=w):=fun w=>by
  have q:=oZ (ah u.au) w;rw[show(ah u.au).data.toList=u.au from rfl,i]at q;exact q
 have t:((ah u.au).toList==[102,105,108,101])=false:=by rw[ay,beq_eq_false_iff_ne];exact hf
 clear i hf j;go_enter func8,ntmps8;go_upto_region 1 with(fail)
 generalize hwa:World.alloc (World.alloc w _) _=v1;have a:UB v1 w.heap.size u (.slice A n c)∧OB v1 (w.heap.size+1) ⟨#[]⟩ ⟨#[]⟩ 0 0∧Below w.heap.size w v1:=by
  subst hwa;exact jC w _ _ _ _
 clear hwa;have s:=hid a.1;have k:=hid a.2.1;have g:=hid a.2.2;clear a;obtain⟨G,F,E,D,C,B,z,y,x,v,r,m,l⟩:=s.facts;go_wp2_with fail
 refine(f _).mono ?_;rintro e h ⟨rfl,d⟩;obtain rfl:h=v1:=d;go_wp2_with (refine fP k (ah u.au) (ah u.aS) u.port 0 (.tmp 2) (.tmp 51) rfl rfl rfl rfl ?_)
 exact bodyPost_ret (w:=World.setRow h (w.heap.size+1) #[.string (ah u.au),.string (ah u.aS),.int .i64 u.port,.int .i64 0]) (nG rfl (OB.row k _ _ _ _) true _ rfl rfl) rfl ⟨rfl,below_setRow g (Nat.le_succ w.heap.size) _⟩
theorem Xw (u:U) (A:Option Addr) (n c:Nat) (w:World) (j:u.au≠[98,108,111,98]) (i:aj u.au=true) (hf:u.au=[102,105,108,101]):Calls prog 8 #[.agg #[.string (ah u.au),.string (ah u.bT),.string (ah u.bW),.string (ah u.aS),.bool u.hh,.int .i64 u.port,.bool u.bP,.string (ah u.txt),.slice A n c,.bool u.hq,.bool u.hf,.string (ah u.bQ),.string (ah u.dY)]] w fun e w'=>e=.returned (.tuple #[.agg #[.string ⟨#[]⟩,.string ⟨#[]⟩,.int .i64 0,.int .i64 0],.bool false])∧Below w.heap.size w w':=by
 have qb:((ah u.au).toList==[98,108,111,98])=false:=by rw[ay,beq_eq_false_iff_ne];exact j
 have f:Hid (∀w:World,Calls prog 20 #[.string (ah u.au)] w fun e w'=>e=.returned (.tuple #[.int .i64 (iE u.au),.bool true])∧w'=w):=fun w=>by
  have q:=oZ (ah u.au) w;rw[show(ah u.au).data.toList=u.au from rfl,i]at q;exact q
 have t:((ah u.au).toList==[102,105,108,101])=true:=by rw[ay,hf];rfl
 clear i hf j;go_enter func8,ntmps8;go_upto_region 1 with(fail)
 generalize hwa:World.alloc (World.alloc w _) _=v1;have a:UB v1 w.heap.size u (.slice A n c)∧OB v1 (w.heap.size+1) ⟨#[]⟩ ⟨#[]⟩ 0 0∧Below w.heap.size w v1:=by
  subst hwa;exact jC w _ _ _ _
 clear hwa;have s:=hid a.1;have k:=hid a.2.1;have g:=hid a.2.2;clear a;obtain⟨G,F,E,D,C,B,z,y,x,v,r,m,l⟩:=s.facts;go_wp2_with fail
 refine(f _).mono ?_;rintro e h ⟨rfl,d⟩;obtain rfl:h=v1:=d;go_wp2_with (refine fP k ⟨#[]⟩ ⟨#[]⟩ 0 0 (.tmp 2) (.tmp 44) rfl rfl rfl rfl ?_)
 exact bodyPost_ret (w:=World.setRow h (w.heap.size+1) #[.string ⟨#[]⟩,.string ⟨#[]⟩,.int .i64 0,.int .i64 0]) (nG rfl (OB.row k _ _ _ _) false _ rfl rfl) rfl ⟨rfl,below_setRow g (Nat.le_succ w.heap.size) _⟩
theorem Xy (u:U) (A:Option Addr) (n c:Nat) (w:World) (j:u.au≠[98,108,111,98]) (i:aj u.au=false):Calls prog 8 #[.agg #[.string (ah u.au),.string (ah u.bT),.string (ah u.bW),.string (ah u.aS),.bool u.hh,.int .i64 u.port,.bool u.bP,.string (ah u.txt),.slice A n c,.bool u.hq,.bool u.hf,.string (ah u.bQ),.string (ah u.dY)]] w fun e w'=>e=.returned (.tuple #[.agg #[.string ⟨#[]⟩,.string ⟨#[]⟩,.int .i64 0,.int .i64 0],.bool false])∧Below w.heap.size w w':=by
 have qb:((ah u.au).toList==[98,108,111,98])=false:=by rw[ay,beq_eq_false_iff_ne];exact j
 have f:Hid (∀w:World,Calls prog 20 #[.string (ah u.au)] w fun e w'=>e=.returned (.tuple #[.int .i64 (iE u.au),.bool false])∧w'=w):=fun w=>by
  have q:=oZ (ah u.au) w;rw[show(ah u.au).data.toList=u.au from rfl,i]at q;exact q
 clear i j;go_enter func8,ntmps8;go_upto_region 1 with(fail)
 generalize hwa:World.alloc (World.alloc w _) _=v1;have a:UB v1 w.heap.size u (.slice A n c)∧OB v1 (w.heap.size+1) ⟨#[]⟩ ⟨#[]⟩ 0 0∧Below w.heap.size w v1:=by
  subst hwa;exact jC w _ _ _ _
 clear hwa;have s:=hid a.1;have k:=hid a.2.1;have g:=hid a.2.2;clear a;obtain⟨F,E,D,C,B,z,y,x,v,t,r,m,l⟩:=s.facts;go_wp2_with fail
 refine(f _).mono ?_;rintro e h ⟨rfl,d⟩;obtain rfl:h=v1:=d;go_wp2_with (refine fP k ⟨#[]⟩ ⟨#[]⟩ 0 0 (.tmp 2) (.tmp 44) rfl rfl rfl rfl ?_)
 exact bodyPost_ret (w:=World.setRow h (w.heap.size+1) #[.string ⟨#[]⟩,.string ⟨#[]⟩,.int .i64 0,.int .i64 0]) (nG rfl (OB.row k _ _ _ _) false _ rfl rfl) rfl ⟨rfl,below_setRow g (Nat.le_succ w.heap.size) _⟩
theorem GY (u v:U) (T:ByteArray) (A:Option Addr) (n c:Nat) (w:World) (B:u.au=[98,108,111,98]) (t:Hid (∀w:World,Pt w u A n c→Calls prog 19 #[.agg #[.string (ah u.au),.string (ah u.bT),.string (ah u.bW),.string (ah u.aS),.bool u.hh,.int .i64 u.port,.bool u.bP,.string (ah u.txt),.slice A n c,.bool u.hq,.bool u.hf,.string (ah u.bQ),.string (ah u.dY)]] w fun e w'=>e=.returned (.string T)∧Below w.heap.size w w')) (HP:Hid (∀w:World,Calls prog 6 #[.string T,.pointer none] w fun e w'=>∃A' n' c',e=.returned (.tuple #[.agg #[.string (ah v.au),.string (ah v.bT),.string (ah v.bW),.string (ah v.aS),.bool v.hh,.int .i64 v.port,.bool v.bP,.string (ah v.txt),.slice A' n' c',.bool v.hq,.bool v.hf,.string (ah v.bQ),.string (ah v.dY)],.int .i64 2])∧Pt w' v A' n' c'∧Below w.heap.size w w')) (C:Pt w u A n c):Calls prog 8 #[.agg #[.string (ah u.au),.string (ah u.bT),.string (ah u.bW),.string (ah u.aS),.bool u.hh,.int .i64 u.port,.bool u.bP,.string (ah u.txt),.slice A n c,.bool u.hq,.bool u.hf,.string (ah u.bQ),.string (ah u.dY)]] w fun e w'=>e=.returned (.tuple #[.agg #[.string ⟨#[]⟩,.string ⟨#[]⟩,.int .i64 0,.int .i64 0],.bool false])∧Below w.heap.size w w':=by
 have qb:((ah u.au).toList==[98,108,111,98])=true:=by rw[ay,B];rfl
 have s:=hid C;clear B C;go_enter func8,ntmps8;go_upto_region 1 with(fail)
 generalize hwa:World.alloc (World.alloc w _) _=v1;have d:UB v1 w.heap.size u (.slice A n c)∧OB v1 (w.heap.size+1) ⟨#[]⟩ ⟨#[]⟩ 0 0∧Below w.heap.size w v1:=by
  subst hwa;exact jC w _ _ _ _
 clear hwa;have X1:=hid d.1;have Z:=hid d.2.1;have j:=hid d.2.2;clear d;obtain⟨W,V,Q,P,O,N,L,J,I,H,r,q,m⟩:=X1.facts;go_wp2_with fail
 clear W V Q P O N L J I H r q m;refine(t _ (s.below j)).mono ?_;rintro e v2 ⟨rfl,a⟩;have i:=hid (Z.below a);have z:=hid (bD j a);clear a;go_wp2_with fail
 refine(HP _).mono ?_;rintro e k ⟨A3,D,X,rfl,l,a⟩;have h:=hid (i.below a);have y:=hid (bD z a);clear a l;go_upto_region 3 with(fail)
 generalize hwa:World.alloc _ _=v4;have g:UB v4 k.heap.size v (.slice A3 D X):=by rw[←hwa];exact heap_alloc_new _ _
 have a:Below k.heap.size k v4:=by rw[←hwa];exact(Below.refl _ _).alloc (Nat.le_refl _) _
 have Y:=hid g;have f:=hid (h.below a);have x:=hid (bD y a);clear hwa g a;obtain⟨k0,k1,k2,k3,k4,k5,k6,k7,k8,k9,G,F,E⟩:=Y.facts;go_wp2_with (refine fP f ⟨#[]⟩ ⟨#[]⟩ 0 0 (.tmp 2) (.tmp 29) rfl rfl rfl rfl ?_)
 exact bodyPost_ret (w:=World.setRow v4 (w.heap.size+1) #[.string ⟨#[]⟩,.string ⟨#[]⟩,.int .i64 0,.int .i64 0]) (nG rfl (OB.row f _ _ _ _) false _ rfl rfl) rfl ⟨rfl,below_setRow x (Nat.le_succ w.heap.size) _⟩
theorem FP (u v:U) (T:ByteArray) (A:Option Addr) (n c:Nat) (w:World) (C:u.au=[98,108,111,98]) (x:Hid (∀w:World,Pt w u A n c→Calls prog 19 #[.agg #[.string (ah u.au),.string (ah u.bT),.string (ah u.bW),.string (ah u.aS),.bool u.hh,.int .i64 u.port,.bool u.bP,.string (ah u.txt),.slice A n c,.bool u.hq,.bool u.hf,.string (ah u.bQ),.string (ah u.dY)]] w fun e w'=>e=.returned (.string T)∧Below w.heap.size w w')) (HP:Hid (∀w:World,Calls prog 6 #[.string T,.pointer none] w fun e w'=>∃A' n' c',e=.returned (.tuple #[.agg #[.string (ah v.au),.string (ah v.bT),.string (ah v.bW),.string (ah v.aS),.bool v.hh,.int .i64 v.port,.bool v.bP,.string (ah v.txt),.slice A' n' c',.bool v.hq,.bool v.hf,.string (ah v.bQ),.string (ah v.dY)],.int .i64 0])∧Pt w' v A' n' c'∧Below w.heap.size w w')) (l:v.au≠[104,116,116,112]∧v.au≠[104,116,116,112,115]) (D:Pt w u A n c):Calls prog 8 #[.agg #[.string (ah u.au),.string (ah u.bT),.string (ah u.bW),.string (ah u.aS),.bool u.hh,.int .i64 u.port,.bool u.bP,.string (ah u.txt),.slice A n c,.bool u.hq,.bool u.hf,.string (ah u.bQ),.string (ah u.dY)]] w fun e w'=>e=.returned (.tuple #[.agg #[.string ⟨#[]⟩,.string ⟨#[]⟩,.int .i64 0,.int .i64 0],.bool false])∧Below w.heap.size w w':=by
 have qb:((ah u.au).toList==[98,108,111,98])=true:=by rw[ay,C];rfl
 have t:=hid D;have q1:((ah v.au).toList==[104,116,116,112])=false:=by rw[ay,beq_eq_false_iff_ne];exact l.1
 have q2:((ah v.au).toList==[104,116,116,112,115])=false:=by rw[ay,beq_eq_false_iff_ne];exact l.2
 clear l;clear C D;go_enter func8,ntmps8;go_upto_region 1 with(fail)
 generalize hwa:World.alloc (World.alloc w _) _=v1;have d:UB v1 w.heap.size u (.slice A n c)∧OB v1 (w.heap.size+1) ⟨#[]⟩ ⟨#[]⟩ 0 0∧Below w.heap.size w v1:=by
  subst hwa;exact jC w _ _ _ _
 clear hwa;have X1:=hid d.1;have X2:=hid d.2.1;have j:=hid d.2.2;clear d;obtain⟨X,W,V,Q,P,O,N,L,J,I,s,r,q⟩:=X1.facts;go_wp2_with fail
 clear X W V Q P O N L J I s r q;refine(x _ (t.below j)).mono ?_;rintro e v2 ⟨rfl,a⟩;have i:=hid (X2.below a);have B:=hid (bD j a);clear a;go_wp2_with fail
 refine(HP _).mono ?_;rintro e k ⟨A3,E,Y,rfl,m,a⟩;have h:=hid (i.below a);have z:=hid (bD B a);clear a m;go_upto_region 3 with(fail)
 generalize hwa:World.alloc _ _=v4;have g:UB v4 k.heap.size v (.slice A3 E Y):=by rw[←hwa];exact heap_alloc_new _ _
 have a:Below k.heap.size k v4:=by rw[←hwa];exact(Below.refl _ _).alloc (Nat.le_refl _) _
 have Z:=hid g;have f:=hid (h.below a);have y:=hid (bD z a);clear hwa g a;obtain⟨k0,k1,k2,k3,k4,k5,k6,k7,k8,k9,H,G,F⟩:=Z.facts;go_wp2_with (refine fP f ⟨#[]⟩ ⟨#[]⟩ 0 0 (.tmp 2) (.tmp 29) rfl rfl rfl rfl ?_)
 exact bodyPost_ret (w:=World.setRow v4 (w.heap.size+1) #[.string ⟨#[]⟩,.string ⟨#[]⟩,.int .i64 0,.int .i64 0]) (nG rfl (OB.row f _ _ _ _) false _ rfl rfl) rfl ⟨rfl,below_setRow y (Nat.le_succ w.heap.size) _⟩
theorem GX (u v:U) (T:ByteArray) (A:Option Addr) (n c:Nat) (w:World) (hs:u.au=[98,108,111,98]) (J:Hid (∀w:World,Pt w u A n c→Calls prog 19 #[.agg #[.string (ah u.au),.string (ah u.bT),.string (ah u.bW),.string (ah u.aS),.bool u.hh,.int .i64 u.port,.bool u.bP,.string (ah u.txt),.slice A n c,.bool u.hq,.bool u.hf,.string (ah u.bQ),.string (ah u.dY)]] w fun e w'=>e=.returned (.string T)∧Below w.heap.size w w')) (HP:Hid (∀w:World,Calls prog 6 #[.string T,.pointer none] w fun e w'=>∃A' n' c',e=.returned (.tuple #[.agg #[.string (ah v.au),.string (ah v.bT),.string (ah v.bW),.string (ah v.aS),.bool v.hh,.int .i64 v.port,.bool v.bP,.string (ah v.txt),.slice A' n' c',.bool v.hq,.bool v.hf,.string (ah v.bQ),.string (ah v.dY)],.int .i64 0])∧Pt w' v A' n' c'∧Below w.heap.size w w')) (hv:v.au=[104,116,116,112]) (hP:Pt w u A n c):Calls prog 8 #[.agg #[.string (ah u.au),.string (ah u.bT),.string (ah u.bW),.string (ah u.aS),.bool u.hh,.int .i64 u.port,.bool u.bP,.string (ah u.txt),.slice A n c,.bool u.hq,.bool u.hf,.string (ah u.bQ),.string (ah u.dY)]] w fun e w'=>e=.returned (.tuple #[.agg #[.string (ah v.au),.string (ah v.aS),.int .i64 v.port,.int .i64 0],.bool true])∧Below w.heap.size w w':=by
 have qb:((ah u.au).toList==[98,108,111,98])=true:=by rw[ay,hs];rfl
 have I:=hid hP;have q1:((ah v.au).toList==[104,116,116,112])=true:=by rw[ay,hv];rfl
 clear hv;clear hs hP;go_enter func8,ntmps8;go_upto_region 1 with(fail)
 generalize hwa:World.alloc (World.alloc w _) _=v1;have f:UB v1 w.heap.size u (.slice A n c)∧OB v1 (w.heap.size+1) ⟨#[]⟩ ⟨#[]⟩ 0 0∧Below w.heap.size w v1:=by
  subst hwa;exact jC w _ _ _ _
 clear hwa;have X1:=hid f.1;have X2:=hid f.2.1;have C:=hid f.2.2;clear f;obtain⟨d0,d1,d2,d3,d4,d5,d6,d7,d8,d9,H,G,F⟩:=X1.facts;go_wp2_with fail
 clear d0 d1 d2 d3 d4 d5 d6 d7 d8 d9 H G F;refine(J _ (I.below C)).mono ?_;rintro e v2 ⟨rfl,a⟩;have z:=hid (X1.below a);have x:=hid (X2.below a);have O:=hid (bD C a);clear a;go_wp2_with fail
 refine(HP _).mono ?_;rintro e D ⟨k,i,j,rfl,E,a⟩;have y:=hid (z.below a);have t:=hid (x.below a);have N:=hid (bD O a);clear a E;go_upto_region 3 with(fail)
 generalize hwa:World.alloc _ _=v4;have r:UB v4 D.heap.size v (.slice k i j):=by rw[←hwa];exact heap_alloc_new _ _
 have a:Below D.heap.size D v4:=by rw[←hwa];exact(Below.refl _ _).alloc (Nat.le_refl _) _
 have X3:=hid r;have h:=hid (y.below a);have s:=hid (t.below a);have L:=hid (bD N a);clear hwa r a;obtain⟨k0,k1,k2,Z,Y,X,W,V,Q,P,q,m,l⟩:=X3.facts;go_upto_region 5 with(fail)
 go_upto_region 9 with(refine aJ h v k i j (.tmp 1) (.tmp 30) rfl rfl rfl rfl ?_)
 have g:=hid (h.row v (.slice k i j));have d:Hid (OB (v4.setRow w.heap.size (cells v (.slice k i j))) (w.heap.size+1) ⟨#[]⟩ ⟨#[]⟩ 0 0):=(setRow_other v4 w.heap.size (w.heap.size+1) _ (by omega)).trans s;have B:=hid (below_setRow L (Nat.le_refl w.heap.size) (cells v (.slice k i j)));clear k0 k1 k2 Z Y X W V Q P q m l;generalize World.setRow v4 w.heap.size (cells v (.slice k i j))=v5 at g d B⊢;obtain⟨k0,k1,k2,Z,Y,X,W,V,Q,P,q,m,l⟩:=g.facts;go_wp2_with (refine fP d (ah v.au) (ah v.aS) v.port 0 (.tmp 2) (.tmp 51) rfl rfl rfl rfl ?_)
 exact bodyPost_ret (w:=World.setRow v5 (w.heap.size+1) #[.string (ah v.au),.string (ah v.aS),.int .i64 v.port,.int .i64 0]) (nG rfl (OB.row d _ _ _ _) true _ rfl rfl) rfl ⟨rfl,below_setRow B (Nat.le_succ w.heap.size) _⟩
theorem FN (u v:U) (T:ByteArray) (A:Option Addr) (n c:Nat) (w:World) (hs:u.au=[98,108,111,98]) (L:Hid (∀w:World,Pt w u A n c→Calls prog 19 #[.agg #[.string (ah u.au),.string (ah u.bT),.string (ah u.bW),.string (ah u.aS),.bool u.hh,.int .i64 u.port,.bool u.bP,.string (ah u.txt),.slice A n c,.bool u.hq,.bool u.hf,.string (ah u.bQ),.string (ah u.dY)]] w fun e w'=>e=.returned (.string T)∧Below w.heap.size w w')) (HP:Hid (∀w:World,Calls prog 6 #[.string T,.pointer none] w fun e w'=>∃A' n' c',e=.returned (.tuple #[.agg #[.string (ah v.au),.string (ah v.bT),.string (ah v.bW),.string (ah v.aS),.bool v.hh,.int .i64 v.port,.bool v.bP,.string (ah v.txt),.slice A' n' c',.bool v.hq,.bool v.hf,.string (ah v.bQ),.string (ah v.dY)],.int .i64 0])∧Pt w' v A' n' c'∧Below w.heap.size w w')) (E:v.au=[104,116,116,112,115]) (hP:Pt w u A n c):Calls prog 8 #[.agg #[.string (ah u.au),.string (ah u.bT),.string (ah u.bW),.string (ah u.aS),.bool u.hh,.int .i64 u.port,.bool u.bP,.string (ah u.txt),.slice A n c,.bool u.hq,.bool u.hf,.string (ah u.bQ),.string (ah u.dY)]] w fun e w'=>e=.returned (.tuple #[.agg #[.string (ah v.au),.string (ah v.aS),.int .i64 v.port,.int .i64 0],.bool true])∧Below w.heap.size w w':=by
 have qb:((ah u.au).toList==[98,108,111,98])=true:=by rw[ay,hs];rfl
 have J:=hid hP;have q1:((ah v.au).toList==[104,116,116,112])=false:=by rw[ay,E];rfl
 have q2:((ah v.au).toList==[104,116,116,112,115])=true:=by rw[ay,E];rfl
 clear E;clear hs hP;go_enter func8,ntmps8;go_upto_region 1 with(fail)
 generalize hwa:World.alloc (World.alloc w _) _=v1;have f:UB v1 w.heap.size u (.slice A n c)∧OB v1 (w.heap.size+1) ⟨#[]⟩ ⟨#[]⟩ 0 0∧Below w.heap.size w v1:=by
  subst hwa;exact jC w _ _ _ _
 clear hwa;have X1:=hid f.1;have X2:=hid f.2.1;have C:=hid f.2.2;clear f;obtain⟨d0,d1,d2,d3,d4,d5,d6,d7,d8,d9,I,H,G⟩:=X1.facts;go_wp2_with fail
 clear d0 d1 d2 d3 d4 d5 d6 d7 d8 d9 I H G;refine(L _ (J.below C)).mono ?_;rintro e v2 ⟨rfl,a⟩;have z:=hid (X1.below a);have x:=hid (X2.below a);have P:=hid (bD C a);clear a;go_wp2_with fail
 refine(HP _).mono ?_;rintro e D ⟨k,i,j,rfl,F,a⟩;have y:=hid (z.below a);have t:=hid (x.below a);have O:=hid (bD P a);clear a F;go_upto_region 3 with(fail)
 generalize hwa:World.alloc _ _=v4;have r:UB v4 D.heap.size v (.slice k i j):=by rw[←hwa];exact heap_alloc_new _ _
 have a:Below D.heap.size D v4:=by rw[←hwa];exact(Below.refl _ _).alloc (Nat.le_refl _) _
 have X3:=hid r;have h:=hid (y.below a);have s:=hid (t.below a);have N:=hid (bD O a);clear hwa r a;obtain⟨k0,k1,k2,k3,Z,Y,X,W,V,Q,q,m,l⟩:=X3.facts;go_upto_region 5 with(fail)
 go_upto_region 9 with(refine aJ h v k i j (.tmp 1) (.tmp 30) rfl rfl rfl rfl ?_)
 have g:=hid (h.row v (.slice k i j));have d:Hid (OB (v4.setRow w.heap.size (cells v (.slice k i j))) (w.heap.size+1) ⟨#[]⟩ ⟨#[]⟩ 0 0):=(setRow_other v4 w.heap.size (w.heap.size+1) _ (by omega)).trans s;have B:=hid (below_setRow N (Nat.le_refl w.heap.size) (cells v (.slice k i j)));clear k0 k1 k2 k3 Z Y X W V Q q m l;generalize World.setRow v4 w.heap.size (cells v (.slice k i j))=v5 at g d B⊢;obtain⟨k0,k1,k2,k3,Z,Y,X,W,V,Q,q,m,l⟩:=g.facts;go_wp2_with (refine fP d (ah v.au) (ah v.aS) v.port 0 (.tmp 2) (.tmp 51) rfl rfl rfl rfl ?_)
 exact bodyPost_ret (w:=World.setRow v5 (w.heap.size+1) #[.string (ah v.au),.string (ah v.aS),.int .i64 v.port,.int .i64 0]) (nG rfl (OB.row d _ _ _ _) true _ rfl rfl) rfl ⟨rfl,below_setRow B (Nat.le_succ w.heap.size) _⟩
theorem acS (u:U) {N:Nat} (g:Fit u N) (f:N≤1073741824):Hid (∀(w:World) (A:Option Addr) (n c:Nat),Pt w u A n c→Calls prog 19 #[.agg #[.string (ah u.au),.string (ah u.bT),.string (ah u.bW),.string (ah u.aS),.bool u.hh,.int .i64 u.port,.bool u.bP,.string (ah u.txt),.slice A n c,.bool u.hq,.bool u.hf,.string (ah u.bQ),.string (ah u.dY)]] w fun e w'=>e=.returned (.string (ah (bZ.kG u.bP (ah u.txt) u.aF)))∧Below w.heap.size w w'):=fun w A n c hP=>by
 obtain⟨m,l,k,j,d,i,h,a⟩:=BG g f;exact YU.MW (ah u.au) (ah u.bT) (ah u.bW) (ah u.aS) u.hh u.port u.bP (ah u.txt) A n c u.aF u.hq u.hf (ah u.bQ) (ah u.dY) w hP.aF.1 hP.aF.2.1 hP.aF.2.2 d a
theorem JR (u:U) {N:Nat} (h:Fit u N) (j:N≤65536) (A:Option Addr) (n c:Nat) (w:World) (a:Pt w u A n c):Calls prog 8 #[.agg #[.string (ah u.au),.string (ah u.bT),.string (ah u.bW),.string (ah u.aS),.bool u.hh,.int .i64 u.port,.bool u.bP,.string (ah u.txt),.slice A n c,.bool u.hq,.bool u.hf,.string (ah u.bQ),.string (ah u.dY)]] w fun e w'=>e=.returned (.tuple #[oV (UL u),.bool (UL u).isSome])∧Below w.heap.size w w':=by
 unfold UL;by_cases hb:u.au=qR
 ·rw [if_neg (by rw [hb]; decide), if_pos hb];have d:=acS u h (by omega);have i:=BO h;obtain⟨T,g⟩:∃T,T=ah (bZ.kG u.bP (ah u.txt) u.aF):=⟨_,rfl⟩;rw[←g]at d⊢;have f:T.size≤65536:=by rw[g,ak];omega
  cases ho:aC.url T.data.toList none with
  |none=>exact GY u U0 T A n c w hb (fun w a=>d w A n c a) (fun w=>rP rfl ho f w) a
  |some v=>
   dsimp only;by_cases hv:v.au=HTTP
   ·rw[if_pos (.inl hv)];exact GX u v T A n c w hb (fun w a=>d w A n c a) (fun w=>mD ho f w) hv a
   by_cases hv2:v.au=KG
   ·rw[if_pos (.inr hv2)];exact FN u v T A n c w hb (fun w a=>d w A n c a) (fun w=>mD ho f w) hv2 a
   rw[if_neg (by rintro(x|x);exact hv x;exact hv2 x)];exact FP u v T A n c w hb (fun w a=>d w A n c a) (fun w=>mD ho f w) ⟨hv,hv2⟩ a
 by_cases h5:five u.au
 ·rw[if_pos h5];have k:=(LK u.au).1 h5;exact Xx u A n c w hb k.1 k.2
 rw[if_neg h5,if_neg hb];cases hs:aj u.au with
 |false=>exact Xy u A n c w hb hs
 |true=>exact Xw u A n c w hb hs (Decidable.byContradiction fun hf=>h5 ((LK u.au).2 ⟨hs,hf⟩))
end aez
namespace Laws
open Go.RowKit Base aV Ee qB aC Ulw YQ RQ
open Go.Proofs.YtmbpmbapelfobaaGreatDoor.kS (pK)
open Go.Proofs.YtmbpmbapelfobaaGreatDoor.vJ (Max)
open Go.Proofs.YtmbpmbapelfobaaGreatDoor.AY (sN)
open Go.Proofs.YtmbpmbapelfobaaGreatDoor.KI (qR)
open Go.Proofs.YtmbpmbapelfobaaGreatDoor.YG (VI)
open Go.Proofs.YtmbpmbapelfobaaGreatDoor.ab3 (oV acK)
open Go.Proofs.YtmbpmbapelfobaaGreatDoor.aez (JR)
open Go.Proofs.YtmbpmbapelfobaaGreatDoor.abQ (mD rP)
theorem afE {u:U} {a b:List UInt8} {c:Int} (h:UL u=some (a,b,c)):a≠[]:=by
 unfold UL at h;by_cases h5:five u.au
 ·rw[if_pos h5]at h;injection h with h
  injection h with e _
  rw[←e];exact VN h5
 rw[if_neg h5]at h;split at h
 ·split at h
  ·cases h
  split at h
  ·rename_i hv;injection h with h
   injection h with e _
   rw[←e];rcases hv with hv|hv<;>(rw[hv];decide)
  cases h
 cases h
theorem Dt (s0:ByteArray) (w:World) (h0:s0.size≤140737488351232) (hT:Tab.Pow w) (hL:pK w) (hM:Max w) (hU:sN w):Calls prog 3 #[.string s0] w fun e w'=>e=.returned (.bool true)∧Below w.heap.size w w':=by
 have HE:=hid (⟨hT,hL,hM,hU⟩:Env w);have W:Hid (∀w:World,Env w→Calls prog 4 #[] w fun e w'=>e=.returned (.bool true)∧Below w.heap.size w w'):=fun w E=>RP.Sl w E;clear hT hL hM hU;obtain⟨L,rfl⟩:∃L,s0=ah L:=⟨s0.data.toList,(bF s0).symm⟩;rw[ak]at h0;by_cases hl:L.length≤2000
 ·have b7:¬(2000:Int)<((ah L).size:Int):=by rw[ak];omega
  cases ho:aC.url L none with
  |none=>
   obtain⟨u,a2⟩:∃u,u=U0:=⟨_,rfl⟩;have a0:Hid (∀w:World,Env w→Calls prog 5 #[.string (ah L),.pointer none] w fun e w'=>∃A' n' c',e=.returned (.tuple #[.agg #[.string (ah u.au),.string (ah u.bT),.string (ah u.bW),.string (ah u.aS),.bool u.hh,.int .i64 u.port,.bool u.bP,.string (ah u.txt),.slice A' n' c',.bool u.hq,.bool u.hf,.string (ah u.bQ),.string (ah u.dY)],.int .i64 2])∧Pt w' u A' n' c'∧Below w.heap.size w w'):=fun w E=>yL (T:=ah L) a2 ho (by rw[ak];omega) w E;have Z:Hid (∀w:World,Env w→Calls prog 6 #[.string (ah L),.pointer none] w fun e w'=>∃A' n' c',e=.returned (.tuple #[.agg #[.string (ah u.au),.string (ah u.bT),.string (ah u.bW),.string (ah u.aS),.bool u.hh,.int .i64 u.port,.bool u.bP,.string (ah u.txt),.slice A' n' c',.bool u.hq,.bool u.hf,.string (ah u.bQ),.string (ah u.dY)],.int .i64 2])∧Pt w' u A' n' c'∧Below w.heap.size w w'):=fun w E=>rP (T:=ah L) a2 ho (by rw[ak];omega) w;clear ho hl h0 a2;go_enter func3,ntmps3;go_wp2_with fail
   refine(W _ HE).mono ?_;rintro e w1 ⟨rfl,d⟩;have s:=hid d;have i:=hid (HE.below d);clear d;go_wp2_with fail
   refine(a0 _ i).mono ?_;rintro e v ⟨A1,n1,c1,rfl,g,d⟩;have r:=hid (bD s d);have Y:=hid (i.below d);clear d;clear g;go_upto_region 4 with(fail)
   generalize hwa:World.alloc _ _=v3;have f:UB v3 (v.heap.size) u (.slice A1 n1 c1):=by rw[←hwa];exact heap_alloc_new _ _
   have d:Below v.heap.size v v3:=by rw[←hwa];exact(Below.refl _ _).alloc (Nat.le_refl _) _
   clear hwa f;have V:=hid (bD r d);have t:=hid (Y.below d);clear d;go_wp2_with fail
   refine(Z _ t).mono ?_;rintro e x ⟨A2,n2,c2,rfl,g,d⟩;have Q:=hid (bD V d);clear d;clear g;go_upto_region 5 with(fail)
   generalize hwa:World.alloc _ _=v5;have f:UB v5 (x.heap.size) u (.slice A2 n2 c2):=by rw[←hwa];exact heap_alloc_new _ _
   have d:Below x.heap.size x v5:=by rw[←hwa];exact(Below.refl _ _).alloc (Nat.le_refl _) _
   clear hwa f;have P:=hid (bD Q d);clear d;go_wp2;go_ret;exact⟨rfl,P⟩
  | some u=>
   have j:=nO.RG (M:=0) ho (fun _ e=>by cases e);have a0:Hid (∀w:World,Env w→Calls prog 5 #[.string (ah L),.pointer none] w fun e w'=>∃A' n' c',e=.returned (.tuple #[.agg #[.string (ah u.au),.string (ah u.bT),.string (ah u.bW),.string (ah u.aS),.bool u.hh,.int .i64 u.port,.bool u.bP,.string (ah u.txt),.slice A' n' c',.bool u.hq,.bool u.hf,.string (ah u.bQ),.string (ah u.dY)],.int .i64 0])∧Pt w' u A' n' c'∧Below w.heap.size w w'):=fun w E=>jg (T:=ah L) ho (by rw[ak];omega) w E;have Z:Hid (∀w:World,Env w→Calls prog 6 #[.string (ah L),.pointer none] w fun e w'=>∃A' n' c',e=.returned (.tuple #[.agg #[.string (ah u.au),.string (ah u.bT),.string (ah u.bW),.string (ah u.aS),.bool u.hh,.int .i64 u.port,.bool u.bP,.string (ah u.txt),.slice A' n' c',.bool u.hq,.bool u.hf,.string (ah u.bQ),.string (ah u.dY)],.int .i64 0])∧Pt w' u A' n' c'∧Below w.heap.size w w'):=fun w E=>mD (T:=ah L) ho (by rw[ak];omega) w;cases hof:UL u with
   |none=>
    have a6:Hid (∀(A:Option Addr) (n c:Nat) (w:World),Pt w u A n c→Env w→Calls prog 7 #[.agg #[.string (ah u.au),.string (ah u.bT),.string (ah u.bW),.string (ah u.aS),.bool u.hh,.int .i64 u.port,.bool u.bP,.string (ah u.txt),.slice A n c,.bool u.hq,.bool u.hf,.string (ah u.bQ),.string (ah u.dY)]] w fun e w'=>e=.returned (.tuple #[.agg #[.string ⟨#[]⟩,.string ⟨#[]⟩,.int .i64 0,.int .i64 0],.bool false])∧Below w.heap.size w w'):=fun A n c w hP E=>by
     have q:=acK u j (by omega) A n c w hP E;rw[hof]at q;exact q
    have a5:Hid (∀(A:Option Addr) (n c:Nat) (w:World),Pt w u A n c→Env w→Calls prog 8 #[.agg #[.string (ah u.au),.string (ah u.bT),.string (ah u.bW),.string (ah u.aS),.bool u.hh,.int .i64 u.port,.bool u.bP,.string (ah u.txt),.slice A n c,.bool u.hq,.bool u.hf,.string (ah u.bQ),.string (ah u.dY)]] w fun e w'=>e=.returned (.tuple #[.agg #[.string ⟨#[]⟩,.string ⟨#[]⟩,.int .i64 0,.int .i64 0],.bool false])∧Below w.heap.size w w'):=fun A n c w hP E=>by
     have q:=JR u j (by omega) A n c w hP;rw[hof]at q;exact q
    have a4:Hid (∀w:World,Calls prog 9 #[.agg #[.string ⟨#[]⟩,.string ⟨#[]⟩,.int .i64 0,.int .i64 0]] w fun e w'=>e=.returned (.bool false)∧Below w.heap.size w w'):=fun w=>by
     have q:=nY ⟨#[]⟩ ⟨#[]⟩ 0 0 w;rw[decide_eq_false (show ¬(⟨#[]⟩:ByteArray).data.toList≠[]from fun h=>h rfl)]at q;exact q
    have a3:=VI ⟨#[]⟩ ⟨#[]⟩ 0 0;clear ho hl h0 j hof;go_enter func3,ntmps3;go_wp2_with fail
    refine(W _ HE).mono ?_;rintro e w1 ⟨rfl,d⟩;have s:=hid d;have i:=hid (HE.below d);clear d;go_wp2_with fail
    refine(a0 _ i).mono ?_;rintro e v ⟨A1,n1,c1,rfl,g,d⟩;have r:=hid (bD s d);have Y:=hid (i.below d);clear d;have PT:=hid (g);clear g;go_upto_region 4 with(fail)
    generalize hwa:World.alloc _ _=v3;have f:UB v3 (v.heap.size) u (.slice A1 n1 c1):=by rw[←hwa];exact heap_alloc_new _ _
    have d:Below v.heap.size v v3:=by rw[←hwa];exact(Below.refl _ _).alloc (Nat.le_refl _) _
    have XU:=hid f;clear hwa f;have V:=hid (bD r d);have t:=hid (Y.below d);have O:=hid (PT.below d);clear d;go_wp2_with fail
    refine(Z _ t).mono ?_;rintro e x ⟨A2,n2,c2,rfl,g,d⟩;have Q:=hid (bD V d);have b6:=hid (t.below d);have N:=hid (O.below d);have C:=hid (XU.below d);clear d;have PV:=hid (g);clear g;go_upto_region 5 with(fail)
    generalize hwa:World.alloc _ _=v5;have f:UB v5 (x.heap.size) u (.slice A2 n2 c2):=by rw[←hwa];exact heap_alloc_new _ _
    have d:Below x.heap.size x v5:=by rw[←hwa];exact(Below.refl _ _).alloc (Nat.le_refl _) _
    have XV:=hid f;clear hwa f;have P:=hid (bD Q d);have X:=hid (b6.below d);have J:=hid (N.below d);have B:=hid (C.below d);have I:=hid (PV.below d);clear d;obtain⟨k0,k1,k2,k3,k4,k5,k6,k7,k8,k9,m,l,k⟩:=B.facts;go_wp2_with fail
    clear k0 k1 k2 k3 k4 k5 k6 k7 k8 k9 m l k;refine(a6 _ _ _ _ J X).mono ?_;rintro e w6 ⟨rfl,d⟩;have b0:=hid (bD P d);have b5:=hid (X.below d);have H:=hid (I.below d);have z:=hid (XV.below d);clear d;go_upto_region 8 with(fail)
    generalize hwa:World.alloc _ _=v7;have f:OB v7 (w6.heap.size) ⟨#[]⟩ ⟨#[]⟩ 0 0:=by rw[←hwa];exact heap_alloc_new _ _
    have d:Below w6.heap.size w6 v7:=by rw[←hwa];exact(Below.refl _ _).alloc (Nat.le_refl _) _
    have XO:=hid f;clear hwa f;have a9:=hid (bD b0 d);have b3:=hid (b5.below d);have G:=hid (H.below d);have y:=hid (z.below d);clear d;obtain⟨k0,k1,k2,k3,k4,k5,k6,k7,k8,k9,m,l,k⟩:=y.facts;go_wp2_with fail
    clear k0 k1 k2 k3 k4 k5 k6 k7 k8 k9 m l k;refine(a5 _ _ _ _ G b3).mono ?_;rintro e w8 ⟨rfl,d⟩;have a8:=hid (bD a9 d);have F:=hid (XO.below d);clear d;go_upto_region 9 with(fail)
    generalize hwa:World.alloc _ _=v9;have f:OB v9 (w8.heap.size) ⟨#[]⟩ ⟨#[]⟩ 0 0:=by rw[←hwa];exact heap_alloc_new _ _
    have d:Below w8.heap.size w8 v9:=by rw[←hwa];exact(Below.refl _ _).alloc (Nat.le_refl _) _
    have XQ:=hid f;clear hwa f;have a7:=hid (bD a8 d);have D:=hid (F.below d);clear d;obtain⟨o0,o1,o2,o3⟩:=D.facts;obtain⟨q0,q1,q2,q3⟩:=XQ.facts;go_wp2_with fail
    clear o0 o1 o2 o3 q0 q1 q2 q3 a3;refine qV a7 (a4 _) fun w10 HB10=>?_;go_wp2;go_ret;exact⟨rfl,HB10⟩
   |some o=>
    obtain⟨a,b2,p2⟩:=o;have a1:=afE hof;have a6:Hid (∀(A:Option Addr) (n c:Nat) (w:World),Pt w u A n c→Env w→Calls prog 7 #[.agg #[.string (ah u.au),.string (ah u.bT),.string (ah u.bW),.string (ah u.aS),.bool u.hh,.int .i64 u.port,.bool u.bP,.string (ah u.txt),.slice A n c,.bool u.hq,.bool u.hf,.string (ah u.bQ),.string (ah u.dY)]] w fun e w'=>e=.returned (.tuple #[.agg #[.string (ah a),.string (ah b2),.int .i64 p2,.int .i64 0],.bool true])∧Below w.heap.size w w'):=fun A n c w hP E=>by
     have q:=acK u j (by omega) A n c w hP E;rw[hof]at q;exact q
    have a5:Hid (∀(A:Option Addr) (n c:Nat) (w:World),Pt w u A n c→Env w→Calls prog 8 #[.agg #[.string (ah u.au),.string (ah u.bT),.string (ah u.bW),.string (ah u.aS),.bool u.hh,.int .i64 u.port,.bool u.bP,.string (ah u.txt),.slice A n c,.bool u.hq,.bool u.hf,.string (ah u.bQ),.string (ah u.dY)]] w fun e w'=>e=.returned (.tuple #[.agg #[.string (ah a),.string (ah b2),.int .i64 p2,.int .i64 0],.bool true])∧Below w.heap.size w w'):=fun A n c w hP E=>by
     have q:=JR u j (by omega) A n c w hP;rw[hof]at q;exact q
    have a4:Hid (∀w:World,Calls prog 9 #[.agg #[.string (ah a),.string (ah b2),.int .i64 p2,.int .i64 0]] w fun e w'=>e=.returned (.bool true)∧Below w.heap.size w w'):=fun w=>by
     have q:=nY (ah a) (ah b2) p2 0 w;rw[decide_eq_true (show(ah a).data.toList≠[]from a1)]at q;exact q
    have a3:=VI (ah a) (ah b2) p2 0;clear ho hl h0 j hof a1;go_enter func3,ntmps3;go_wp2_with fail
    refine(W _ HE).mono ?_;rintro e w1 ⟨rfl,d⟩;have s:=hid d;have i:=hid (HE.below d);clear d;go_wp2_with fail
    refine(a0 _ i).mono ?_;rintro e v ⟨A1,n1,c1,rfl,g,d⟩;have r:=hid (bD s d);have Y:=hid (i.below d);clear d;have PT:=hid (g);clear g;go_upto_region 4 with(fail)
    generalize hwa:World.alloc _ _=v3;have f:UB v3 (v.heap.size) u (.slice A1 n1 c1):=by rw[←hwa];exact heap_alloc_new _ _
    have d:Below v.heap.size v v3:=by rw[←hwa];exact(Below.refl _ _).alloc (Nat.le_refl _) _
    have XU:=hid f;clear hwa f;have V:=hid (bD r d);have t:=hid (Y.below d);have O:=hid (PT.below d);clear d;go_wp2_with fail
    refine(Z _ t).mono ?_;rintro e x ⟨A2,n2,c2,rfl,g,d⟩;have Q:=hid (bD V d);have b6:=hid (t.below d);have N:=hid (O.below d);have C:=hid (XU.below d);clear d;have PV:=hid (g);clear g;go_upto_region 5 with(fail)
    generalize hwa:World.alloc _ _=v5;have f:UB v5 (x.heap.size) u (.slice A2 n2 c2):=by rw[←hwa];exact heap_alloc_new _ _
    have d:Below x.heap.size x v5:=by rw[←hwa];exact(Below.refl _ _).alloc (Nat.le_refl _) _
    have XV:=hid f;clear hwa f;have P:=hid (bD Q d);have X:=hid (b6.below d);have J:=hid (N.below d);have B:=hid (C.below d);have I:=hid (PV.below d);clear d;obtain⟨k0,k1,k2,k3,k4,k5,k6,k7,k8,k9,m,l,k⟩:=B.facts;go_wp2_with fail
    clear k0 k1 k2 k3 k4 k5 k6 k7 k8 k9 m l k;refine(a6 _ _ _ _ J X).mono ?_;rintro e w6 ⟨rfl,d⟩;have b0:=hid (bD P d);have b5:=hid (X.below d);have H:=hid (I.below d);have z:=hid (XV.below d);clear d;go_upto_region 8 with(fail)
    generalize hwa:World.alloc _ _=v7;have f:OB v7 (w6.heap.size) (ah a) (ah b2) p2 0:=by rw[←hwa];exact heap_alloc_new _ _
    have d:Below w6.heap.size w6 v7:=by rw[←hwa];exact(Below.refl _ _).alloc (Nat.le_refl _) _
    have XO:=hid f;clear hwa f;have a9:=hid (bD b0 d);have b3:=hid (b5.below d);have G:=hid (H.below d);have y:=hid (z.below d);clear d;obtain⟨k0,k1,k2,k3,k4,k5,k6,k7,k8,k9,m,l,k⟩:=y.facts;go_wp2_with fail
    clear k0 k1 k2 k3 k4 k5 k6 k7 k8 k9 m l k;refine(a5 _ _ _ _ G b3).mono ?_;rintro e w8 ⟨rfl,d⟩;have a8:=hid (bD a9 d);have F:=hid (XO.below d);clear d;go_upto_region 9 with(fail)
    generalize hwa:World.alloc _ _=v9;have f:OB v9 (w8.heap.size) (ah a) (ah b2) p2 0:=by rw[←hwa];exact heap_alloc_new _ _
    have d:Below w8.heap.size w8 v9:=by rw[←hwa];exact(Below.refl _ _).alloc (Nat.le_refl _) _
    have XQ:=hid f;clear hwa f;have a7:=hid (bD a8 d);have D:=hid (F.below d);clear d;obtain⟨o0,o1,o2,o3⟩:=D.facts;obtain⟨q0,q1,q2,q3⟩:=XQ.facts;go_wp2_with fail
    clear o0 o1 o2 o3 q0 q1 q2 q3 a3;refine qV a7 (a4 _) fun w10 HB10=>?_;go_wp2;go_ret;exact⟨rfl,HB10⟩
 have b7:(2000:Int)<((ah L).size:Int):=by rw[ak];omega
 clear hl h0;go_enter func3,ntmps3;go_wp2_with fail
 refine(W _ HE).mono ?_;rintro e w1 ⟨rfl,d⟩;have s:=hid d;have i:=hid (HE.below d);clear d;go_wp2_with fail
 refine qV s (W _ i) fun v r=>?_;go_wp2;go_ret;exact⟨rfl,r⟩
end Laws
namespace Shs
open Go.RowKit
variable {H:Type} {enc:TypeId×Value→H}
theorem wrap {a:Assume} {C:Checked} {os:Os} {f:FuncId} {l:Func} {s:ChangeSpec} {h:List PathCond} {apart q g r:Bool} {X:World→Array Value→Prop}
  (Q:∀(w w':World) (args:Array Value),w.heap=w'.heap→X w args→X w' args)
  (own:ownKnob C.prog.godebug=none) (n:os.Started) (x:C.prog.inits.idxOf? f=none) (J:C.prog.funcs[f]?=some l)
  (m:∃(w:World) (c:Tape) (i:Input),w.os=os∧(w.forCall c i).Shaped C.prog∧i.vars=[]∧Input.okWide C.prog (w.forCall c i) .any w.heap.size f i∧
   ((s.pre enc C.prog l h apart (w.forCall c i).memory i.args∧X (w.forCall c i).memory i.args)∧sizedMet enc C.prog l (OpenSpec.ofChange s) apart (w.forCall c i).memory i.args)∧a.holds C.prog (lone (Frame.enter C.prog f i.args .normal) [] (w.forCall c i)))
  (k:∀(W:World) (base:Nat) (args:Array Value) (E D:List (DataW H)) (d:List MemPlace),
   (∀(j:Nat) t v,l.params[j]?=some t→args[j]?=some v→Value.okWide C.prog W .any base t v)→
   DataW.Whole enc C.prog l.params.toList s.vars apart W args.toList E D d→
   h.all (PathCond.test C.prog ⟨l.params.toList,E,s.plain.varTypes C.prog,D⟩)=true→
   (DataW.weightsEach C.prog (l.params.toList++s.plain.varTypes C.prog) (E++D)).all (·≤reachBytes)=true→X W args→W.ShapedOpen C.prog→
   a.holds C.prog (lone (Frame.enter C.prog f args .normal) [] W)→
   Calls C.prog f args W fun e W'=>∃v,e=.returned v∧s.post enc C.prog l apart q g r W args v W'):
  ReturnsInHanded a C os f .any (fun w args=>(s.pre enc C.prog l h apart w args∧X w args)∧sizedMet enc C.prog l (OpenSpec.ofChange s) apart w args) (s.post enc C.prog l apart q g r):=by
 refine returnsInHanded_of_calls own n x m ?_;intro w c i _ G _ I A y;obtain⟨_,_,_,L,B,_,_,_,_,z⟩:=I;have e:L=l:=Option.some.inj (B.symm.trans J);subst e;obtain⟨⟨⟨E,D,d,N,P⟩,hx⟩,O⟩:=A;have F:=DataW.Whole.of_heap (w':=w.forCall c i) (by rfl) N;refine(k (w.forCall c i) w.heap.size i.args E D d z F P (O.weights N) (Q _ _ _ (by rfl) hx) G y).mono fun e W' ⟨v,he,hp⟩=>?_;subst he;exact ChangeSpec.post_blind hp
theorem acC {w:World} (h:w.ShapedOpen prog):vJ.Max w:=Go.Proofs.cell_of_shapedOpen_int (zero:=#[.int .i64 0]) (t:=3) h (of_decide_eq_true (by kernel_rfl)) (by kernel_rfl) rfl (by kernel_rfl) (by kernel_rfl) underlying3
end Shs
namespace sN
open Go.RowKit Go.Lib
theorem aaV {W:World} {l:List (String×DataW Unit)} (h:laidMet prog l W) (c:("unicode/utf8.first",firstData) ∈ l) (a:("unicode/utf8.acceptRanges",acceptData) ∈ l):AY.sN W:=
 utf8Tabs_of_reads (ρ:=l237_ren) {l237 with} ⟨by kernel_rfl,by kernel_rfl,by kernel_rfl,by kernel_rfl,by kernel_rfl,by kernel_rfl,by kernel_rfl⟩ (Lib.laidMet.reads h c) (Lib.laidMet.reads h a)
end sN
namespace aaZ
open Go.ChangeShapes Go.WideShapes Go.ChangeAt Go.RowKit
variable {P:Program} {w:World} {H:Type} {enc:TypeId×Value→H} {base:Nat} {held:Bool}
theorem Ld {t e:TypeId} {k:IntKind} {g:Nat} {a:Option Addr} {len f:Nat} {x:DataW H×List MemPlace} (m:P.underlying t=some (.slice e)) (n:P.underlying e=some (.int k)) (q:P.cellsOf e=1)
  (h:DataW.trod enc P w base (fun _=>true) held g t (Value.slice a len f).cells.toList=some x):
  f=0∨∃es sp,x.1=.slice es sp∧es.length+sp.length=f:=by
 rcases open_ints m n q h with⟨d,_⟩|⟨_,l,c,zs,d,_,s,r,j,rfl,_,_⟩
 ·simp[Value.cells]at d;exact .inl d.2.2
 ·simp[Value.cells]at d;obtain⟨rfl,rfl,rfl⟩:=d;have i:zs.length=f:=by simpa using j
  refine .inr ⟨_,_,rfl,?_⟩;simp only[lits,List.length_map,List.length_take,List.length_drop];omega
theorem reach {l:List TypeId} {n:List (DataW H)} (g:(DataW.weightsEach P l n).all (·≤reachBytes)=true) {j:Nat} {t e:TypeId} {k:IntKind} {b c:Nat} {a:Option Addr} {len d:Nat} {x:DataW H×List MemPlace}
  (f:l[j]?=some t) (i:n[j]?=some x.1) (m:P.underlying t=some (.slice e)) (q:P.underlying e=some (.int k)) (r:P.cellsOf e=1) (s:P.bytesOf e=b)
  (h:DataW.trod enc P w base (fun _=>true) held c t (Value.slice a len d).cells.toList=some x):d*b≤140737488351232:=by
 rcases Ld m q r h with rfl|⟨es,sp,e1,hl⟩
 ·simp
 ·have:=sized_slice g f (i.trans (congrArg some e1)) m;rw[hl,s]at this;exact this
theorem Zj {g:List TypeId} {k:List (DataW H)} (e:(DataW.weightsEach P g k).all (·≤reachBytes)=true) {i:Nat} {t:TypeId} {h:Array Field} {c:List (DataW H)} (d:g[i]?=some t) (f:k[i]?=some (.agg c)) (l:P.underlying t=some (.struct h))
  {j:Nat} {n:TypeId} {a:List UInt8} (hf:(h.toList.map (·.type))[j]?=some n) (m:c[j]?=some (.lit (.string a))):a.length≤reachBytes:=by
 have:=List.all_eq_true.1 e _ (DataW.weights_mem_each d f a.length (by
  simp only[DataW.weights,l];exact DataW.weights_mem_each hf m _ (by simp[DataW.weights])))
 simpa using this
end aaZ
