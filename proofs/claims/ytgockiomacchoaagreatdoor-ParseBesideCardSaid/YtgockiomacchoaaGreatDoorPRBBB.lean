/- Lemmas. -/
import Derived.Test.YtgockiomacchoaaGreatDoorPRBBA
import Derived.Handed
import Derived.HandedShaped
import Derived.Shelf.Vars
import Derived.ProofKit
import Derived.OpenShut
import Derived.ShutString
import Derived.ChangeOld
import Derived.Below
import Derived.SliceStrings
import Derived.SizedLaws
set_option linter.unusedSimpArgs false
set_option linter.unusedVariables false
set_option maxRecDepth 100000
set_option maxHeartbeats 64000000
namespace Go.Proofs.YtgockiomacchoaaGreatDoor
open Tryz
namespace Laws
open Go.RowKit Base bf aJ vP mY zf JL o8 Ulw acE
theorem H8 (u:U) (A i:Option Addr) (n c a g:Nat) (w:World) (f:Pt w u A n c) (d:Pt w u i a g):Calls prog 8 #[.agg #[.string (ah u.au),.string (ah u.bY),.string (ah u.bZ),.string (ah u.aU),.bool u.hh,.int .i64 u.port,.bool u.dK,.string (ah u.txt),.slice A n c,.bool u.hq,.bool u.hf,.string (ah u.bT),.string (ah u.eY)],.agg #[.string (ah u.au),.string (ah u.bY),.string (ah u.bZ),.string (ah u.aU),.bool u.hh,.int .i64 u.port,.bool u.dK,.string (ah u.txt),.slice i a g,.bool u.hq,.bool u.hf,.string (ah u.bT),.string (ah u.eY)]] w fun e w'=>e=.returned (.bool true)∧Below w.heap.size w w':=by
 have h:=aao.CS (ah u.au) (ah u.bY) (ah u.bZ) (ah u.aU) u.hh u.port u.dK (ah u.txt) A n c u.aF u.hq u.hf (ah u.bT) (ah u.eY) (ah u.au) (ah u.bY) (ah u.bZ) (ah u.aU) u.hh u.port u.dK (ah u.txt) i a g u.aF u.hq u.hf (ah u.bT) (ah u.eY) w f.aF.1 f.aF.2.1 f.aF.2.2 d.aF.1 d.aF.2.1 d.aF.2.2;rw[decide_eq_true rfl]at h;exact h
theorem TU (u:U) (A g:Option Addr) (n c d f:Nat) (w:World) (Z:Pt w u A n c) (Y:Pt w u g d f):Calls prog 7 #[.agg #[.string (ah u.au),.string (ah u.bY),.string (ah u.bZ),.string (ah u.aU),.bool u.hh,.int .i64 u.port,.bool u.dK,.string (ah u.txt),.slice A n c,.bool u.hq,.bool u.hf,.string (ah u.bT),.string (ah u.eY)],.int .i64 0,.agg #[.string (ah u.au),.string (ah u.bY),.string (ah u.bZ),.string (ah u.aU),.bool u.hh,.int .i64 u.port,.bool u.dK,.string (ah u.txt),.slice g d f,.bool u.hq,.bool u.hf,.string (ah u.bT),.string (ah u.eY)],.int .i64 0] w fun e w'=>e=.returned (.bool true)∧Below w.heap.size w w':=by
 have T:Hid (∀(A g:Option Addr) (n c d f:Nat) (w:World),Pt w u A n c→Pt w u g d f→Calls prog 8 #[.agg #[.string (ah u.au),.string (ah u.bY),.string (ah u.bZ),.string (ah u.aU),.bool u.hh,.int .i64 u.port,.bool u.dK,.string (ah u.txt),.slice A n c,.bool u.hq,.bool u.hf,.string (ah u.bT),.string (ah u.eY)],.agg #[.string (ah u.au),.string (ah u.bY),.string (ah u.bZ),.string (ah u.aU),.bool u.hh,.int .i64 u.port,.bool u.dK,.string (ah u.txt),.slice g d f,.bool u.hq,.bool u.hf,.string (ah u.bT),.string (ah u.eY)]] w fun e w'=>e=.returned (.bool true)∧Below w.heap.size w w'):=fun A g n c d f w h k=>H8 u A g n c d f w h k;have W:=hid Z;have V:=hid Y;clear Z Y;go_enter func7,ntmps7;go_upto_region 1 with(fail)
 generalize hwa:World.alloc (World.alloc w _) _=v1;have a:UB v1 w.heap.size u (.slice A n c)∧UB v1 (w.heap.size+1) u (.slice g d f)∧Below w.heap.size w v1:=by
  subst hwa;exact EH w _ _ _ _
 clear hwa;have X1:=hid a.1;have X2:=hid a.2.1;have X:=hid a.2.2;have Q1:=hid (W.below a.2.2);have Q2:=hid (V.below a.2.2);clear a;obtain⟨Q,P,O,N,L,J,I,H,G,F,r,q,m⟩:=X1.facts;obtain⟨E,D,C,B,z,y,x,v,t,s,l,j,i⟩:=X2.facts;go_wp2_with fail
 clear Q P O N L J I H G F r q m E D C B z y x v t s l j i;refine qy X (T _ _ _ _ _ _ _ Q1 Q2) fun w2 HB2=>?_;go_wp2;go_ret;exact⟨rfl,HB2⟩
theorem TR (u:U) (W:u=U0) (A V:Option Addr) (n c l O:Nat) (w:World) (X:Pt w u A n c) (Y:Pt w u V l O):Calls prog 7 #[.agg #[.string (ah u.au),.string (ah u.bY),.string (ah u.bZ),.string (ah u.aU),.bool u.hh,.int .i64 u.port,.bool u.dK,.string (ah u.txt),.slice A n c,.bool u.hq,.bool u.hf,.string (ah u.bT),.string (ah u.eY)],.int .i64 2,.agg #[.string (ah u.au),.string (ah u.bY),.string (ah u.bZ),.string (ah u.aU),.bool u.hh,.int .i64 u.port,.bool u.dK,.string (ah u.txt),.slice V l O,.bool u.hq,.bool u.hf,.string (ah u.bT),.string (ah u.eY)],.int .i64 2] w fun e w'=>e=.returned (.bool true)∧Below w.heap.size w w':=by
 have P:Hid (∀(A:Option Addr) (n c:Nat) (w:World),Pt w u A n c→Calls prog 8 #[.agg #[.string (ah u.au),.string (ah u.bY),.string (ah u.bZ),.string (ah u.aU),.bool u.hh,.int .i64 u.port,.bool u.dK,.string (ah u.txt),.slice A n c,.bool u.hq,.bool u.hf,.string (ah u.bT),.string (ah u.eY)],.agg #[.string ⟨#[]⟩,.string ⟨#[]⟩,.string ⟨#[]⟩,.string ⟨#[]⟩,.bool false,.int .i64 0,.bool false,.string ⟨#[]⟩,.slice none 0 0,.bool false,.bool false,.string ⟨#[]⟩,.string ⟨#[]⟩]] w fun e w'=>e=.returned (.bool true)∧Below w.heap.size w w'):=fun A n c w h=>Smz.Sr W A n c w h;clear W;have Q:=hid X;clear X Y;go_enter func7,ntmps7;go_upto_region 1 with(fail)
 generalize hwa:World.alloc (World.alloc w _) _=v1;have a:UB v1 w.heap.size u (.slice A n c)∧UB v1 (w.heap.size+1) u (.slice V l O)∧Below w.heap.size w v1:=by
  subst hwa;exact EH w _ _ _ _
 clear hwa;have X1:=hid a.1;have Z:=hid a.2.1;have T:=hid a.2.2;have Q1:=hid (Q.below a.2.2);clear a;obtain⟨N,L,J,I,H,G,F,E,D,C,k,j,i⟩:=X1.facts;obtain⟨B,z,y,x,v,t,s,r,q,m,g,f,d⟩:=Z.facts;go_wp2_with fail
 clear N L J I H G F E D C k j i B z y x v t s r q m g f d;refine qy T (P _ _ _ _ Q1) fun w2 HB2=>?_;go_wp2;go_ret;exact⟨rfl,HB2⟩
theorem Dh (s0 s1:ByteArray) (w:World) (h0:s0.size≤140737488351232) (h1:s1.size≤140737488351232) (hT:Tab.Pow w) (hL:oZ w) (hM:Max w) (hU:yg w):Calls prog 3 #[.string s0,.string s1] w fun e w'=>e=.returned (.bool true)∧Below w.heap.size w w':=by
 have HE:=hid (⟨hT,hL,hM,hU⟩:Env w);have f0:Hid (∀w:World,Env w→Calls prog 4 #[] w fun e w'=>e=.returned (.bool true)∧Below w.heap.size w w'):=fun w E=>QK w E;clear hT hL hM hU;by_cases hl:s0.size+s1.size≤2000
 ·have h4:¬(2000:Int)<(s1.size:Int)+(s0.size:Int):=by omega
  obtain⟨d,f4⟩:∃d,d=U0:=⟨_,rfl⟩;have e5:=hid f4;have f7:s0.data.toList.length≤2000:=by rw[dl];omega
  cases e1:aJ.url s0.data.toList none with
  |none=>
   have f6:Hid (∀w,Env w→Calls prog 5 #[.string s0,.pointer none] w fun e w'=>∃A' n' c',e=.returned (.tuple #[.agg #[.string (ah d.au),.string (ah d.bY),.string (ah d.bZ),.string (ah d.aU),.bool d.hh,.int .i64 d.port,.bool d.dK,.string (ah d.txt),.slice A' n' c',.bool d.hq,.bool d.hf,.string (ah d.bT),.string (ah d.eY)],.int .i64 2])∧Pt w' d A' n' c'∧Below w.heap.size w w'):=fun w E=>Og e5 e1 (by omega) w E;have f5:Hid (∀w,Env w→Calls prog 6 #[.string s0,.pointer none] w fun e w'=>∃A' n' c',e=.returned (.tuple #[.agg #[.string (ah d.au),.string (ah d.bY),.string (ah d.bZ),.string (ah d.aU),.bool d.hh,.int .i64 d.port,.bool d.dK,.string (ah d.txt),.slice A' n' c',.bool d.hq,.bool d.hf,.string (ah d.bT),.string (ah d.eY)],.int .i64 2])∧Pt w' d A' n' c'∧Below w.heap.size w w'):=fun w E=>Tv.LM e5 e1 (by omega) w;clear e1 f4 hl h0 h1 f7;go_enter func3,ntmps3;go_wp2_with fail
   refine(f0 _ HE).mono ?_;rintro e w1 ⟨rfl,a⟩;have a9:=hid a;have x:=hid (HE.below a);clear a;go_wp2_with fail
   refine(f6 _ x).mono ?_;rintro e w2 ⟨A1,n1,c1,rfl,g,a⟩;have a8:=hid (bD a9 a);have f3:=hid (x.below a);clear a;clear g;go_upto_region 4 with(fail)
   generalize hwa:World.alloc _ _=v3;have f:UB v3 (w2.heap.size) d (.slice A1 n1 c1):=by rw[←hwa];exact heap_alloc_new _ _
   have a:Below w2.heap.size w2 v3:=by rw[←hwa];exact(Below.refl _ _).alloc (Nat.le_refl _) _
   clear hwa f;have e8:=hid (bD a8 a);have b0:=hid (f3.below a);clear a;go_wp2_with fail
   refine(f5 _ b0).mono ?_;rintro e w4 ⟨B,y,z,rfl,g,a⟩;have e7:=hid (bD e8 a);clear a;clear g;go_upto_region 5 with(fail)
   generalize hwa:World.alloc _ _=v5;have f:UB v5 (w4.heap.size) d (.slice B y z):=by rw[←hwa];exact heap_alloc_new _ _
   have a:Below w4.heap.size w4 v5:=by rw[←hwa];exact(Below.refl _ _).alloc (Nat.le_refl _) _
   clear hwa f;have e6:=hid (bD e7 a);clear a;go_wp2;go_ret;exact⟨rfl,e6⟩
  |some b=>
   have f6:Hid (∀w,Env w→Calls prog 5 #[.string s0,.pointer none] w fun e w'=>∃A' n' c',e=.returned (.tuple #[.agg #[.string (ah b.au),.string (ah b.bY),.string (ah b.bZ),.string (ah b.aU),.bool b.hh,.int .i64 b.port,.bool b.dK,.string (ah b.txt),.slice A' n' c',.bool b.hq,.bool b.hf,.string (ah b.bT),.string (ah b.eY)],.int .i64 0])∧Pt w' b A' n' c'∧Below w.heap.size w w'):=fun w E=>ER e1 (by omega) w E;have f5:Hid (∀w,Env w→Calls prog 6 #[.string s0,.pointer none] w fun e w'=>∃A' n' c',e=.returned (.tuple #[.agg #[.string (ah b.au),.string (ah b.bY),.string (ah b.bZ),.string (ah b.aU),.bool b.hh,.int .i64 b.port,.bool b.dK,.string (ah b.txt),.slice A' n' c',.bool b.hq,.bool b.hf,.string (ah b.bT),.string (ah b.eY)],.int .i64 0])∧Pt w' b A' n' c'∧Below w.heap.size w w'):=fun w E=>Tv.LP e1 (by omega) w;have f1:=(JC (M:=0) e1 (fun _ e=>by cases e)).mono (show 0+15*s0.data.toList.length+300≤30300 by omega);have h2:=hid f1;have g9:=hid f1;have b3:Di.Ok b:=Di.abA e1 (fun _ e=>by cases e);have g8:Hid (∀(A B:Option Addr) (n c y z:Nat) (w:World),Pt w b A n c→Pt w b B y z→Calls prog 8 #[.agg #[.string (ah b.au),.string (ah b.bY),.string (ah b.bZ),.string (ah b.aU),.bool b.hh,.int .i64 b.port,.bool b.dK,.string (ah b.txt),.slice A n c,.bool b.hq,.bool b.hf,.string (ah b.bT),.string (ah b.eY)],.agg #[.string (ah b.au),.string (ah b.bY),.string (ah b.bZ),.string (ah b.aU),.bool b.hh,.int .i64 b.port,.bool b.dK,.string (ah b.txt),.slice B y z,.bool b.hq,.bool b.hf,.string (ah b.bT),.string (ah b.eY)]] w fun e w'=>e=.returned (.bool true)∧Below w.heap.size w w'):=fun A B n c y z w h k=>H8 b A B n c y z w h k;cases e2:aJ.url s1.data.toList (some b)with
   |none=>
    have f9:Hid (∀(gb:Nat) (A:Option Addr) (n c:Nat),n≤100000→∀w,UB w gb b (.slice A n c)→Pt w b A n c→Env w→Calls prog 5 #[.string s1,.pointer (some ⟨gb,0,none⟩)] w fun e w'=>∃A' n' c',e=.returned (.tuple #[.agg #[.string (ah d.au),.string (ah d.bY),.string (ah d.bZ),.string (ah d.aU),.bool d.hh,.int .i64 d.port,.bool d.dK,.string (ah d.txt),.slice A' n' c',.bool d.hq,.bool d.hf,.string (ah d.bT),.string (ah d.eY)],.int .i64 2])∧Pt w' d A' n' c'∧Below w.heap.size w w'):=fun gb A n c hn w hB hP E=>KY e5 e2 (by omega) gb A n c hn w hB hP E;have f8:Hid (∀(gb:Nat) (A:Option Addr) (n c:Nat),n≤100000→∀w,UB w gb b (.slice A n c)→Pt w b A n c→Env w→Calls prog 6 #[.string s1,.pointer (some ⟨gb,0,none⟩)] w fun e w'=>∃A' n' c',e=.returned (.tuple #[.agg #[.string (ah d.au),.string (ah d.bY),.string (ah d.bZ),.string (ah d.aU),.bool d.hh,.int .i64 d.port,.bool d.dK,.string (ah d.txt),.slice A' n' c',.bool d.hq,.bool d.hf,.string (ah d.bT),.string (ah d.eY)],.int .i64 2])∧Pt w' d A' n' c'∧Below w.heap.size w w'):=fun gb A n c hn w hB hP E=>Tv.Jl b3 f1 (by omega) e5 e2 (by omega) gb A n c hn w hB hP;have g4:Hid (∀(A B:Option Addr) (n c y z:Nat) (w:World),Pt w d A n c→Pt w d B y z→Calls prog 7 #[.agg #[.string (ah d.au),.string (ah d.bY),.string (ah d.bZ),.string (ah d.aU),.bool d.hh,.int .i64 d.port,.bool d.dK,.string (ah d.txt),.slice A n c,.bool d.hq,.bool d.hf,.string (ah d.bT),.string (ah d.eY)],.int .i64 2,.agg #[.string (ah d.au),.string (ah d.bY),.string (ah d.bZ),.string (ah d.aU),.bool d.hh,.int .i64 d.port,.bool d.dK,.string (ah d.txt),.slice B y z,.bool d.hq,.bool d.hf,.string (ah d.bT),.string (ah d.eY)],.int .i64 2] w fun e w'=>e=.returned (.bool true)∧Below w.heap.size w w'):=fun A B n c y z w h k=>TR d e5 A B n c y z w h k;clear e1 e2 f1 b3 f4 hl h0 h1 f7;go_enter func3,ntmps3;go_wp2_with fail
    refine(f0 _ HE).mono ?_;rintro e w1 ⟨rfl,a⟩;have a9:=hid a;have x:=hid (HE.below a);clear a;go_wp2_with fail
    refine(f6 _ x).mono ?_;rintro e w2 ⟨A1,n1,c1,rfl,g,a⟩;have a8:=hid (bD a9 a);have f3:=hid (x.below a);clear a;have T1:=hid (g);clear g;go_upto_region 4 with(fail)
    generalize hwa:World.alloc _ _=v3;have f:UB v3 (w2.heap.size) b (.slice A1 n1 c1):=by rw[←hwa];exact heap_alloc_new _ _
    have a:Below w2.heap.size w2 v3:=by rw[←hwa];exact(Below.refl _ _).alloc (Nat.le_refl _) _
    have X1:=hid f;clear hwa f;have e8:=hid (bD a8 a);have b0:=hid (f3.below a);have e4:=hid (T1.below a);clear a;go_wp2_with fail
    refine(f5 _ b0).mono ?_;rintro e w4 ⟨B,y,z,rfl,g,a⟩;have e7:=hid (bD e8 a);have g7:=hid (b0.below a);have e3:=hid (e4.below a);have c8:=hid (X1.below a);clear a;have T2:=hid (g);clear g;go_upto_region 5 with(fail)
    generalize hwa:World.alloc _ _=v5;have f:UB v5 (w4.heap.size) b (.slice B y z):=by rw[←hwa];exact heap_alloc_new _ _
    have a:Below w4.heap.size w4 v5:=by rw[←hwa];exact(Below.refl _ _).alloc (Nat.le_refl _) _
    have X2:=hid f;clear hwa f;have e6:=hid (bD e7 a);have f2:=hid (g7.below a);have t:=hid (e3.below a);have D:=hid (c8.below a);have d6:=hid (T2.below a);clear a;go_wp2_with fail
    refine(f9 _ _ _ _ (Nat.le_trans (t.len h2) (by decide)) _ D t f2).mono ?_;rintro e w6 ⟨A3,n3,c3,rfl,g,a⟩;have g3:=hid (bD e6 a);have g6:=hid (f2.below a);have e0:=hid (t.below a);have c7:=hid (D.below a);have d5:=hid (d6.below a);have b9:=hid (X2.below a);clear a;have T3:=hid (g);clear g;go_upto_region 8 with(fail)
    generalize hwa:World.alloc _ _=v7;have f:UB v7 (w6.heap.size) d (.slice A3 n3 c3):=by rw[←hwa];exact heap_alloc_new _ _
    have a:Below w6.heap.size w6 v7:=by rw[←hwa];exact(Below.refl _ _).alloc (Nat.le_refl _) _
    have X3:=hid f;clear hwa f;have g2:=hid (bD g3 a);have g5:=hid (g6.below a);have d9:=hid (e0.below a);have c6:=hid (c7.below a);have s:=hid (d5.below a);have C:=hid (b9.below a);have d2:=hid (T3.below a);clear a;go_wp2_with fail
    refine(f8 _ _ _ _ (Nat.le_trans (s.len g9) (by decide)) _ C s g5).mono ?_;rintro e w8 ⟨A4,n4,c4,rfl,g,a⟩;have g1:=hid (bD g2 a);have d8:=hid (d9.below a);have c5:=hid (c6.below a);have d4:=hid (s.below a);have b8:=hid (C.below a);have d1:=hid (d2.below a);have b6:=hid (X3.below a);clear a;have T4:=hid (g);clear g;go_upto_region 9 with(fail)
    generalize hwa:World.alloc _ _=v9;have f:UB v9 (w8.heap.size) d (.slice A4 n4 c4):=by rw[←hwa];exact heap_alloc_new _ _
    have a:Below w8.heap.size w8 v9:=by rw[←hwa];exact(Below.refl _ _).alloc (Nat.le_refl _) _
    have X4:=hid f;clear hwa f;have g0:=hid (bD g1 a);have d7:=hid (d8.below a);have c0:=hid (c5.below a);have d3:=hid (d4.below a);have b7:=hid (b8.below a);have d0:=hid (d1.below a);have b5:=hid (b6.below a);have c9:=hid (T4.below a);clear a;obtain⟨a3,a2,a1,a0,Z,Y,X,W,V,T,r,q,m⟩:=b5.facts;obtain⟨Q,P,O,N,L,J,I,H,G,F,l,j,i⟩:=X4.facts;go_wp2_with fail
    clear a3 a2 a1 a0 Z Y X W V T r q m Q P O N L J I H G F l j i;refine(g4 _ _ _ _ _ _ _ d0 c9).mono ?_;rintro e h3 ⟨rfl,a⟩;have e9:=hid (bD g0 a);have a7:=hid (d7.below a);have a5:=hid (c0.below a);have a6:=hid (d3.below a);have a4:=hid (b7.below a);clear a;obtain⟨a3,a2,a1,a0,Z,Y,X,W,V,T,r,q,m⟩:=a5.facts;obtain⟨Q,P,O,N,L,J,I,H,G,F,l,j,i⟩:=a4.facts;go_wp2_with fail
    clear a3 a2 a1 a0 Z Y X W V T r q m Q P O N L J I H G F l j i;refine qy e9 (g8 _ _ _ _ _ _ _ a7 a6) fun w11 HB11=>?_;go_wp2;go_ret;exact⟨rfl,HB11⟩
   |some v=>
    have f9:Hid (∀(gb:Nat) (A:Option Addr) (n c:Nat),n≤100000→∀w,UB w gb b (.slice A n c)→Pt w b A n c→Env w→Calls prog 5 #[.string s1,.pointer (some ⟨gb,0,none⟩)] w fun e w'=>∃A' n' c',e=.returned (.tuple #[.agg #[.string (ah v.au),.string (ah v.bY),.string (ah v.bZ),.string (ah v.aU),.bool v.hh,.int .i64 v.port,.bool v.dK,.string (ah v.txt),.slice A' n' c',.bool v.hq,.bool v.hf,.string (ah v.bT),.string (ah v.eY)],.int .i64 0])∧Pt w' v A' n' c'∧Below w.heap.size w w'):=fun gb A n c hn w hB hP E=>CP e2 (by omega) gb A n c hn w hB hP E;have f8:Hid (∀(gb:Nat) (A:Option Addr) (n c:Nat),n≤100000→∀w,UB w gb b (.slice A n c)→Pt w b A n c→Env w→Calls prog 6 #[.string s1,.pointer (some ⟨gb,0,none⟩)] w fun e w'=>∃A' n' c',e=.returned (.tuple #[.agg #[.string (ah v.au),.string (ah v.bY),.string (ah v.bZ),.string (ah v.aU),.bool v.hh,.int .i64 v.port,.bool v.dK,.string (ah v.txt),.slice A' n' c',.bool v.hq,.bool v.hf,.string (ah v.bT),.string (ah v.eY)],.int .i64 0])∧Pt w' v A' n' c'∧Below w.heap.size w w'):=fun gb A n c hn w hB hP E=>Tv.Jm b3 f1 (by omega) e2 (by omega) gb A n c hn w hB hP;have g4:Hid (∀(A B:Option Addr) (n c y z:Nat) (w:World),Pt w v A n c→Pt w v B y z→Calls prog 7 #[.agg #[.string (ah v.au),.string (ah v.bY),.string (ah v.bZ),.string (ah v.aU),.bool v.hh,.int .i64 v.port,.bool v.dK,.string (ah v.txt),.slice A n c,.bool v.hq,.bool v.hf,.string (ah v.bT),.string (ah v.eY)],.int .i64 0,.agg #[.string (ah v.au),.string (ah v.bY),.string (ah v.bZ),.string (ah v.aU),.bool v.hh,.int .i64 v.port,.bool v.dK,.string (ah v.txt),.slice B y z,.bool v.hq,.bool v.hf,.string (ah v.bT),.string (ah v.eY)],.int .i64 0] w fun e w'=>e=.returned (.bool true)∧Below w.heap.size w w'):=fun A B n c y z w h k=>TU v A B n c y z w h k;clear e1 e2 f1 b3 f4 hl h0 h1 f7;go_enter func3,ntmps3;go_wp2_with fail
    refine(f0 _ HE).mono ?_;rintro e w1 ⟨rfl,a⟩;have a9:=hid a;have x:=hid (HE.below a);clear a;go_wp2_with fail
    refine(f6 _ x).mono ?_;rintro e w2 ⟨A1,n1,c1,rfl,g,a⟩;have a8:=hid (bD a9 a);have f3:=hid (x.below a);clear a;have T1:=hid (g);clear g;go_upto_region 4 with(fail)
    generalize hwa:World.alloc _ _=v3;have f:UB v3 (w2.heap.size) b (.slice A1 n1 c1):=by rw[←hwa];exact heap_alloc_new _ _
    have a:Below w2.heap.size w2 v3:=by rw[←hwa];exact(Below.refl _ _).alloc (Nat.le_refl _) _
    have X1:=hid f;clear hwa f;have e8:=hid (bD a8 a);have b0:=hid (f3.below a);have e4:=hid (T1.below a);clear a;go_wp2_with fail
    refine(f5 _ b0).mono ?_;rintro e w4 ⟨B,y,z,rfl,g,a⟩;have e7:=hid (bD e8 a);have g7:=hid (b0.below a);have e3:=hid (e4.below a);have c8:=hid (X1.below a);clear a;have T2:=hid (g);clear g;go_upto_region 5 with(fail)
    generalize hwa:World.alloc _ _=v5;have f:UB v5 (w4.heap.size) b (.slice B y z):=by rw[←hwa];exact heap_alloc_new _ _
    have a:Below w4.heap.size w4 v5:=by rw[←hwa];exact(Below.refl _ _).alloc (Nat.le_refl _) _
    have X2:=hid f;clear hwa f;have e6:=hid (bD e7 a);have f2:=hid (g7.below a);have t:=hid (e3.below a);have D:=hid (c8.below a);have d6:=hid (T2.below a);clear a;go_wp2_with fail
    refine(f9 _ _ _ _ (Nat.le_trans (t.len h2) (by decide)) _ D t f2).mono ?_;rintro e w6 ⟨A3,n3,c3,rfl,g,a⟩;have g3:=hid (bD e6 a);have g6:=hid (f2.below a);have e0:=hid (t.below a);have c7:=hid (D.below a);have d5:=hid (d6.below a);have b9:=hid (X2.below a);clear a;have T3:=hid (g);clear g;go_upto_region 8 with(fail)
    generalize hwa:World.alloc _ _=v7;have f:UB v7 (w6.heap.size) v (.slice A3 n3 c3):=by rw[←hwa];exact heap_alloc_new _ _
    have a:Below w6.heap.size w6 v7:=by rw[←hwa];exact(Below.refl _ _).alloc (Nat.le_refl _) _
    have X3:=hid f;clear hwa f;have g2:=hid (bD g3 a);have g5:=hid (g6.below a);have d9:=hid (e0.below a);have c6:=hid (c7.below a);have s:=hid (d5.below a);have C:=hid (b9.below a);have d2:=hid (T3.below a);clear a;go_wp2_with fail
    refine(f8 _ _ _ _ (Nat.le_trans (s.len g9) (by decide)) _ C s g5).mono ?_;rintro e w8 ⟨A4,n4,c4,rfl,g,a⟩;have g1:=hid (bD g2 a);have d8:=hid (d9.below a);have c5:=hid (c6.below a);have d4:=hid (s.below a);have b8:=hid (C.below a);have d1:=hid (d2.below a);have b6:=hid (X3.below a);clear a;have T4:=hid (g);clear g;go_upto_region 9 with(fail)
    generalize hwa:World.alloc _ _=v9;have f:UB v9 (w8.heap.size) v (.slice A4 n4 c4):=by rw[←hwa];exact heap_alloc_new _ _
    have a:Below w8.heap.size w8 v9:=by rw[←hwa];exact(Below.refl _ _).alloc (Nat.le_refl _) _
    have X4:=hid f;clear hwa f;have g0:=hid (bD g1 a);have d7:=hid (d8.below a);have c0:=hid (c5.below a);have d3:=hid (d4.below a);have b7:=hid (b8.below a);have d0:=hid (d1.below a);have b5:=hid (b6.below a);have c9:=hid (T4.below a);clear a;obtain⟨a3,a2,a1,a0,Z,Y,X,W,V,T,r,q,m⟩:=b5.facts;obtain⟨Q,P,O,N,L,J,I,H,G,F,l,j,i⟩:=X4.facts;go_wp2_with fail
    clear a3 a2 a1 a0 Z Y X W V T r q m Q P O N L J I H G F l j i;refine(g4 _ _ _ _ _ _ _ d0 c9).mono ?_;rintro e h3 ⟨rfl,a⟩;have e9:=hid (bD g0 a);have a7:=hid (d7.below a);have a5:=hid (c0.below a);have a6:=hid (d3.below a);have a4:=hid (b7.below a);clear a;obtain⟨a3,a2,a1,a0,Z,Y,X,W,V,T,r,q,m⟩:=a5.facts;obtain⟨Q,P,O,N,L,J,I,H,G,F,l,j,i⟩:=a4.facts;go_wp2_with fail
    clear a3 a2 a1 a0 Z Y X W V T r q m Q P O N L J I H G F l j i;refine qy e9 (g8 _ _ _ _ _ _ _ a7 a6) fun w11 HB11=>?_;go_wp2;go_ret;exact⟨rfl,HB11⟩
 have h4:(2000:Int)<(s1.size:Int)+(s0.size:Int):=by omega
 clear hl;go_enter func3,ntmps3;go_wp2_with fail
 refine(f0 _ HE).mono ?_;rintro e w1 ⟨rfl,a⟩;have a9:=hid a;have x:=hid (HE.below a);clear a;go_wp2_with fail
 refine qy a9 (f0 _ x) fun w2 a8=>?_;go_wp2;go_ret;exact⟨rfl,a8⟩
end Laws
namespace Shs
open Go.RowKit
variable {H:Type} {enc:TypeId×Value→H}
theorem wrap {a:Assume} {C:Checked} {os:Os} {f:FuncId} {l:Func} {s:ChangeSpec} {h:List PathCond} {apart q g r:Bool} {X:World→Array Value→Prop}
  (T:∀(w w':World) (args:Array Value),w.heap=w'.heap→X w args→X w' args)
  (F:ownKnob C.prog.godebug=none) (n:os.Started) (x:C.prog.inits.idxOf? f=none) (L:C.prog.funcs[f]?=some l)
  (m:∃(w:World) (c:Tape) (i:Input),w.os=os∧(w.forCall c i).Shaped C.prog∧i.vars=[]∧Input.okWide C.prog (w.forCall c i) .any w.heap.size f i∧
   ((s.pre enc C.prog l h apart (w.forCall c i).memory i.args∧X (w.forCall c i).memory i.args)∧sizedMet enc C.prog l (OpenSpec.ofChange s) apart (w.forCall c i).memory i.args)∧a.holds C.prog (lone (Frame.enter C.prog f i.args .normal) [] (w.forCall c i)))
  (k:∀(W:World) (base:Nat) (args:Array Value) (E D:List (DataW H)) (d:List MemPlace),
   (∀(j:Nat) t v,l.params[j]?=some t→args[j]?=some v→Value.okWide C.prog W .any base t v)→
   DataW.Whole enc C.prog l.params.toList s.vars apart W args.toList E D d→
   h.all (PathCond.test C.prog ⟨l.params.toList,E,s.plain.varTypes C.prog,D⟩)=true→
   (DataW.weightsEach C.prog (l.params.toList++s.plain.varTypes C.prog) (E++D)).all (·≤reachBytes)=true→X W args→W.ShapedOpen C.prog→
   a.holds C.prog (lone (Frame.enter C.prog f args .normal) [] W)→
   Calls C.prog f args W fun e W'=>∃v,e=.returned v∧s.post enc C.prog l apart q g r W args v W'):
  ReturnsInHanded a C os f .any (fun w args=>(s.pre enc C.prog l h apart w args∧X w args)∧sizedMet enc C.prog l (OpenSpec.ofChange s) apart w args) (s.post enc C.prog l apart q g r):=by
 refine returnsInHanded_of_calls F n x m ?_;intro w c i _ I _ J A y;obtain⟨_,_,_,N,B,_,_,_,_,z⟩:=J;have e:N=l:=Option.some.inj (B.symm.trans L);subst e;obtain⟨⟨⟨E,D,d,O,Q⟩,hx⟩,P⟩:=A;have G:=DataW.Whole.of_heap (w':=w.forCall c i) (by rfl) O;refine(k (w.forCall c i) w.heap.size i.args E D d z G Q (P.weights O) (T _ _ _ (by rfl) hx) I y).mono fun e W' ⟨v,he,hp⟩=>?_;subst he;exact ChangeSpec.post_blind hp
theorem aaJ {w:World} (h:w.ShapedOpen prog):zf.Max w:=Go.Proofs.cell_of_shapedOpen_int (zero:=#[.int .i64 0]) (t:=3) h (of_decide_eq_true (by kernel_rfl)) (by kernel_rfl) rfl (by kernel_rfl) (by kernel_rfl) underlying3
end Shs
namespace yg
open Go.RowKit Go.Lib
theorem Zh {W:World} {l:List (String×DataW Unit)} (h:laidMet prog l W) (c:("unicode/utf8.first",firstData) ∈ l) (a:("unicode/utf8.acceptRanges",acceptData) ∈ l):JL.yg W:=
 utf8Tabs_of_reads (ρ:=l237_ren) {l237 with} ⟨by kernel_rfl,by kernel_rfl,by kernel_rfl,by kernel_rfl,by kernel_rfl,by kernel_rfl,by kernel_rfl⟩ (Lib.laidMet.reads h c) (Lib.laidMet.reads h a)
end yg
namespace Zk
open Go.ChangeShapes Go.WideShapes Go.ChangeAt Go.RowKit
variable {P:Program} {w:World} {H:Type} {enc:TypeId×Value→H} {base:Nat} {held:Bool}
theorem J8 {t e:TypeId} {k:IntKind} {g:Nat} {a:Option Addr} {len f:Nat} {x:DataW H×List MemPlace} (m:P.underlying t=some (.slice e)) (n:P.underlying e=some (.int k)) (q:P.cellsOf e=1)
  (h:DataW.trod enc P w base (fun _=>true) held g t (Value.slice a len f).cells.toList=some x):
  f=0∨∃es sp,x.1=.slice es sp∧es.length+sp.length=f:=by
 rcases open_ints m n q h with⟨d,_⟩|⟨_,l,c,zs,d,_,s,r,j,rfl,_,_⟩
 ·simp[Value.cells]at d;exact .inl d.2.2
 ·simp[Value.cells]at d;obtain⟨rfl,rfl,rfl⟩:=d;have i:zs.length=f:=by simpa using j
  refine .inr ⟨_,_,rfl,?_⟩;simp only[lits,List.length_map,List.length_take,List.length_drop];omega
theorem reach {l:List TypeId} {n:List (DataW H)} (g:(DataW.weightsEach P l n).all (·≤reachBytes)=true) {j:Nat} {t e:TypeId} {k:IntKind} {b c:Nat} {a:Option Addr} {len d:Nat} {x:DataW H×List MemPlace}
  (f:l[j]?=some t) (i:n[j]?=some x.1) (m:P.underlying t=some (.slice e)) (q:P.underlying e=some (.int k)) (r:P.cellsOf e=1) (s:P.bytesOf e=b)
  (h:DataW.trod enc P w base (fun _=>true) held c t (Value.slice a len d).cells.toList=some x):d*b≤140737488351232:=by
 rcases J8 m q r h with rfl|⟨es,sp,e1,hl⟩
 ·simp
 ·have:=sized_slice g f (i.trans (congrArg some e1)) m;rw[hl,s]at this;exact this
theorem XP {g:List TypeId} {k:List (DataW H)} (e:(DataW.weightsEach P g k).all (·≤reachBytes)=true) {i:Nat} {t:TypeId} {h:Array Field} {c:List (DataW H)} (d:g[i]?=some t) (f:k[i]?=some (.agg c)) (l:P.underlying t=some (.struct h))
  {j:Nat} {n:TypeId} {a:List UInt8} (hf:(h.toList.map (·.type))[j]?=some n) (m:c[j]?=some (.lit (.string a))):a.length≤reachBytes:=by
 have:=List.all_eq_true.1 e _ (DataW.weights_mem_each d f a.length (by
  simp only[DataW.weights,l];exact DataW.weights_mem_each hf m _ (by simp[DataW.weights])))
 simpa using this
end Zk
