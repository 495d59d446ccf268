/- Lemmas. -/
import Derived.Test.YtaeohdlnidnofaaGreatDoorPRAAQ
set_option linter.unusedSimpArgs false
set_option linter.unusedVariables false
set_option maxRecDepth 100000
set_option maxHeartbeats 64000000
namespace Go.Proofs.YtaeohdlnidnofaaGreatDoor
open Tryz
namespace Ulw
open Go.RowKit Base Q8 um aJ vU ni zu IV IW Ua pI Ub
structure Env (w:World):Prop where
 pow:Tab.Pow w
 lad:pq w
 max:Max w
 Pj:vZ w
theorem Env.below {w w':World} (h:Env w) (a:Below w.heap.size w w'):Env w':=⟨cZ h.pow a,h.lad.below a,h.max.below a,h.Pj.below a⟩
structure Pt (w:World) (u:U) (A:Option Addr) (n c:Nat):Prop where
 aF:iF w u A n c
theorem Pt.below {w w':World} {u:U} {A:Option Addr} {n c:Nat} (h:Pt w u A n c) (a:Below w.heap.size w w'):Pt w' u A n c:=⟨vU.iF.below h.aF a⟩
theorem Pt.len {w:World} {u:U} {A:Option Addr} {n c N:Nat} (h:Pt w u A n c) (hf:Fit u N):n≤N:=by
 have d:(u.aF.map Value.string).length=n:=h.aF.1.1;rw[List.length_map]at d;have a:=hf.all;have e:=dL.kD u.aF;unfold pI.pl at a;omega
theorem dl (s:ByteArray):s.data.toList.length=s.size:=Array.length_toList
theorem yY {T:ByteArray} {u:U} (d:aJ.url T.data.toList none=some u) (a:T.size≤65536) (w:World) (E:Env w):Calls prog 8 #[.string T,.pointer none] w fun e w'=>∃A' n' c',e=.returned (.tuple #[.agg #[.string (ah u.au),.string (ah u.bU),.string (ah u.bW),.string (ah u.aU),.bool u.hh,.int .i64 u.port,.bool u.dF,.string (ah u.txt),.slice A' n' c',.bool u.hq,.bool u.hf,.string (ah u.bQ),.string (ah u.eX)],.int .i64 0])∧Pt w' u A' n' c'∧Below w.heap.size w w':=by
 have h:=Fe T.data.toList w (by rw[dl];exact a) E.lad E.pow E.max E.Pj;rw[bD,d]at h;exact h.mono fun e w' ⟨h1,A,n,c,h2,h3⟩=>⟨A,n,c,h2,⟨h3.aF⟩,h1⟩
theorem Fg {T:ByteArray} {u:U} (a:u=U0) (f:aJ.url T.data.toList none=none) (d:T.size≤65536) (w:World) (E:Env w):Calls prog 8 #[.string T,.pointer none] w fun e w'=>∃A' n' c',e=.returned (.tuple #[.agg #[.string (ah u.au),.string (ah u.bU),.string (ah u.bW),.string (ah u.aU),.bool u.hh,.int .i64 u.port,.bool u.dF,.string (ah u.txt),.slice A' n' c',.bool u.hq,.bool u.hf,.string (ah u.bQ),.string (ah u.eX)],.int .i64 2])∧Pt w' u A' n' c'∧Below w.heap.size w w':=by
 subst a;have h:=Fe T.data.toList w (by rw[dl];exact d) E.lad E.pow E.max E.Pj;rw[bD,f]at h;exact h.mono fun e w' ⟨h1,A,n,c,h2,h3⟩=>⟨A,n,c,h2,⟨h3.aF⟩,h1⟩
theorem CZ {T:ByteArray} {b u:U} (d:aJ.url T.data.toList (some b)=some u) (a:T.size≤65536) (gb:Nat) (A:Option Addr) (n c:Nat) (f:n≤100000) (w:World) (i:UB w gb b (.slice A n c)) (g:Pt w b A n c) (E:Env w):Calls prog 8 #[.string T,.pointer (some ⟨gb,0,none⟩)] w fun e w'=>∃A' n' c',e=.returned (.tuple #[.agg #[.string (ah u.au),.string (ah u.bU),.string (ah u.bW),.string (ah u.aU),.bool u.hh,.int .i64 u.port,.bool u.dF,.string (ah u.txt),.slice A' n' c',.bool u.hq,.bool u.hf,.string (ah u.bQ),.string (ah u.eX)],.int .i64 0])∧Pt w' u A' n' c'∧Below w.heap.size w w':=by
 have h:=yX T.data.toList b gb A n c w (by rw[dl];exact a) f i g.aF E.lad E.pow E.max E.Pj;rw[bD,d]at h;exact h.mono fun e w' ⟨h1,A,n,c,h2,h3⟩=>⟨A,n,c,h2,⟨h3.aF⟩,h1⟩
theorem Hz {u:U} {N:Nat} (h:Fit u N) (c:N≤1073741824):(ah u.au).size≤1073741824∧(ah u.bU).size≤1073741824∧(ah u.bW).size≤1073741824∧(ah u.aU).size≤1073741824∧(ah u.txt).size≤1073741824∧(ah u.bQ).size≤1073741824∧(ah u.eX).size≤1073741824∧(dL.aF u.aF).length≤1073741824:=by
 have a:=h.all;unfold pI.pl at a;simp only[ak];omega
theorem YF {u:U} {N:Nat} (d:Fit u N) (f:N≤1073741824) (A:Option Addr) (n c:Nat) (w:World) (a:Pt w u A n c) (E:Env w):Calls prog 24 #[.agg #[.string (ah u.au),.string (ah u.bU),.string (ah u.bW),.string (ah u.aU),.bool u.hh,.int .i64 u.port,.bool u.dF,.string (ah u.txt),.slice A n c,.bool u.hq,.bool u.hf,.string (ah u.bQ),.string (ah u.eX)]] w fun e w'=>e=.returned (.string (ah (nP u)))∧Below w.heap.size w w':=by
 obtain⟨q,m,l,k,j,i,h,g⟩:=Hz d f;exact nR _ _ _ _ _ _ _ _ A n c u.aF _ _ _ _ w a.aF.1 a.aF.2.1 a.aF.2.2 q m l k j i h (by have:=d.lo;omega) (by have:=d.hi;omega) g E.pow
end Ulw
namespace acR
open Go.RowKit Base bC aJ vU yM pI Ub Ulw
def T1:List UInt8:=[102,105,108,101,58,47,47,47,68,58,47,121]
def T2:List UInt8:=[67,124,47,120]
def ZJ:Option U:=aJ.url T1 none
def ZK:Option U:=ZJ.bind fun b=>aJ.url T2 (some b)
theorem ac9:ZK.map nP=some [102,105,108,101,58,47,47,47,67,58,47,120]:=by decide+kernel
theorem ada:∃b u,aJ.url T1 none=some b∧aJ.url T2 (some b)=some u∧nP u=[102,105,108,101,58,47,47,47,67,58,47,120]:=by
 have h:=ac9;unfold ZK ZJ at h;cases e1:aJ.url T1 none with
 |none=>rw[e1]at h;cases h
 |some b=>
  rw[e1]at h;have a:(aJ.url T2 (some b)).map nP=some [102,105,108,101,58,47,47,47,67,58,47,120]:=h;cases e2:aJ.url T2 (some b)with
  |none=>rw[e2]at a;cases a
  |some u=>
   rw[e2]at a;exact⟨b,u,rfl,e2,by simpa using a⟩
theorem GZ (w:World) (hE:Env w):Calls prog 7 #[] w fun e w'=>e=.returned (.bool true)∧Below w.heap.size w w':=by
 obtain⟨b,u,H,G,h3⟩:=ada;have I:=JW (M:=0) H (fun _ e=>by cases e);have f2:=JW (M:=0+15*T1.length+300) G (fun _ e=>by cases e;exact I);have O:=hid I;have N:Hid (∀w,Env w→Calls prog 8 #[.string ⟨#[102,105,108,101,58,47,47,47,68,58,47,121]⟩,.pointer none] w fun e w'=>∃A' n' c',e=.returned (.tuple #[.agg #[.string (ah b.au),.string (ah b.bU),.string (ah b.bW),.string (ah b.aU),.bool b.hh,.int .i64 b.port,.bool b.dF,.string (ah b.txt),.slice A' n' c',.bool b.hq,.bool b.hf,.string (ah b.bQ),.string (ah b.eX)],.int .i64 0])∧Pt w' b A' n' c'∧Below w.heap.size w w'):=fun w E=>yY (T:=⟨#[102,105,108,101,58,47,47,47,68,58,47,121]⟩) H (by decide) w E;have L:Hid (∀(gb:Nat) (A:Option Addr) (n c:Nat),n≤100000→∀w,UB w gb b (.slice A n c)→Pt w b A n c→Env w→Calls prog 8 #[.string ⟨#[67,124,47,120]⟩,.pointer (some ⟨gb,0,none⟩)] w fun e w'=>∃A' n' c',e=.returned (.tuple #[.agg #[.string (ah u.au),.string (ah u.bU),.string (ah u.bW),.string (ah u.aU),.bool u.hh,.int .i64 u.port,.bool u.dF,.string (ah u.txt),.slice A' n' c',.bool u.hq,.bool u.hf,.string (ah u.bQ),.string (ah u.eX)],.int .i64 0])∧Pt w' u A' n' c'∧Below w.heap.size w w'):=fun gb A n c hn w hB hP E=>CZ (T:=⟨#[67,124,47,120]⟩) G (by decide) gb A n c hn w hB hP E;have J:Hid (∀(A:Option Addr) (n c:Nat) (w:World),Pt w u A n c→Env w→Calls prog 24 #[.agg #[.string (ah u.au),.string (ah u.bU),.string (ah u.bW),.string (ah u.aU),.bool u.hh,.int .i64 u.port,.bool u.dF,.string (ah u.txt),.slice A n c,.bool u.hq,.bool u.hf,.string (ah u.bQ),.string (ah u.eX)]] w fun e w'=>e=.returned (.string (ah [102,105,108,101,58,47,47,47,67,58,47,120]))∧Below w.heap.size w w'):=fun A n c w hP E=>by
  have h:=YF f2 (by decide) A n c w hP E;rw[h3]at h;exact h
 have q1:(ah [102,105,108,101,58,47,47,47,67,58,47,120]).toList=[102,105,108,101,58,47,47,47,67,58,47,120]:=bH _;have HE:=hid hE;clear H G h3 I f2 hE;go_enter func7,ntmps7;go_wp2_with fail
 refine(N _ HE).mono ?_;rintro e r ⟨A1,n1,c1,rfl,f,a⟩;have W:=hid a;have Z:=hid (HE.below a);clear a;have T1:=hid (f);clear f;go_upto_region 2 with(fail)
 generalize hwa:World.alloc _ _=v2;have d:UB v2 (r.heap.size) b (.slice A1 n1 c1):=by rw[←hwa];exact heap_alloc_new _ _
 have a:Below r.heap.size r v2:=by rw[←hwa];exact(Below.refl _ _).alloc (Nat.le_refl _) _
 have X1:=hid d;clear hwa d;have V:=hid (bF W a);have m:=hid (Z.below a);have g:=hid (T1.below a);clear a;go_wp2_with fail
 refine(L _ _ _ _ (g.len O|>fun h=>Nat.le_trans h (by decide)) _ X1 g m).mono ?_;rintro e q ⟨A2,n2,c2,rfl,f,a⟩;have Q:=hid (bF V a);have Y:=hid (m.below a);clear a;have T2:=hid (f);clear f;go_upto_region 3 with(fail)
 generalize hwa:World.alloc _ _=v4;have d:UB v4 (q.heap.size) u (.slice A2 n2 c2):=by rw[←hwa];exact heap_alloc_new _ _
 have a:Below q.heap.size q v4:=by rw[←hwa];exact(Below.refl _ _).alloc (Nat.le_refl _) _
 have X2:=hid d;clear hwa d;have P:=hid (bF Q a);have X:=hid (Y.below a);have l:=hid (T2.below a);clear a;obtain⟨F,D,C,B,z,y,x,v,t,s,k,j,i⟩:=X2.facts;go_wp2_with fail
 clear F D C B z y x v t s k j i;refine pz P (J _ _ _ _ l X) fun w5 HB5=>?_;go_wp2;go_ret;exact⟨rfl,HB5⟩
end acR
namespace aaG
open Go.RowKit Base bC dL aaF Q9 eU
theorem JQ (a b:Bool) (s t:ByteArray):txt a s=txt b t↔a=b∧(a=true→s.data.toList=t.data.toList):=by
 cases a<;>cases b<;>simp[txt]
theorem abA (a c:Bool) (e d:ByteArray) (l m:List ByteArray):spB a c e d l m=true↔a=c∧(if a then decide (e.data.toList=d.data.toList)else decide (l=m))=true:=by
 cases a<;>cases c<;>simp[spB]
theorem Wp (G F E D:ByteArray) (k:Bool) (B:Int) (l:Bool) (C:ByteArray) (aA:Option Addr) (an L:Nat) (X:List ByteArray) (j a:Bool) (i g x w v t:ByteArray) (A:Bool) (r:Int) (z:Bool) (s:ByteArray) (Z:Option Addr) (Y J:Nat) (bl:List ByteArray) (y f:Bool) (d c:ByteArray):decide (tN G F E D k B l C X j a i g=tN x w v t A r z s bl y f d c)=((decide (G.data.toList=x.data.toList)&&decide (F.data.toList=w.data.toList)&&decide (E.data.toList=v.data.toList)&&(k==A)&&(B==r)&&(l==z)&&(j==y)&&(a==f))&&((!k||decide (D.data.toList=t.data.toList))&&(!j||decide (i.data.toList=d.data.toList))&&(!a||decide (g.data.toList=c.data.toList)))&&(if l then decide (C.data.toList=s.data.toList)else decide (X=bl))):=by
 rw[Bool.eq_iff_iff,decide_eq_true_iff,same_iff G F E D k B l C aA an L X j a i g x w v t A r z s Z Y J bl y f d c,JQ,JQ,JQ,abA];simp only[Bool.and_eq_true,Bool.or_eq_true,Bool.not_eq_true',decide_eq_true_iff,beq_iff_eq];constructor
 ·rintro⟨W,V,T,P,⟨Q,I⟩,⟨O,n⟩,⟨N,H⟩,q,m⟩;refine⟨⟨⟨⟨⟨⟨⟨⟨⟨W,V⟩,T⟩,Q⟩,P⟩,O⟩,N⟩,q⟩,⟨?_,?_⟩,?_⟩,n⟩
  ·cases k<;>simp_all
  ·cases j<;>simp_all
  cases a<;>simp_all
 rintro⟨⟨⟨⟨⟨⟨⟨⟨⟨W,V⟩,T⟩,Q⟩,P⟩,O⟩,N⟩,q⟩,⟨I,H⟩,m⟩,n⟩;refine⟨W,V,T,P,⟨Q,fun h=>?_⟩,⟨O,n⟩,⟨N,fun h=>?_⟩,q,fun h=>?_⟩
 ·rcases I with e|e
  ·rw[e]at h;cases h
  exact e
 ·rcases H with e|e
  ·rw[e]at h;cases h
  exact e
 rcases m with e|e
 ·rw[e]at h;cases h
 exact e
theorem Dc (G F D I:ByteArray) (f:Bool) (C:Int) (r:Bool) (L:ByteArray) (aA:Option Addr) (an q:Nat) (al:List ByteArray) (d c:Bool) (m l y x v H:ByteArray) (B:Bool) (s:Int) (A:Bool) (J:ByteArray) (bA:Option Addr) (bn n:Nat) (bl:List ByteArray) (z g:Bool) (k j:ByteArray) (w:World) (e5:dP w aA an (al.map Value.string)) (e3:an≤q) (e4:q≤maxLen) (e2:dP w bA bn (bl.map Value.string)) (e0:bn≤n) (e1:n≤maxLen):
  Calls prog 13 #[.agg #[.string G,.string F,.string D,.string I,.bool f,.int .i64 C,.bool r,.string L,.slice aA an q,.bool d,.bool c,.string m,.string l],.agg #[.string y,.string x,.string v,.string H,.bool B,.int .i64 s,.bool A,.string J,.slice bA bn n,.bool z,.bool g,.string k,.string j]] w fun e w'=>e=.returned (.bool (decide (tN G F D I f C r L al d c m l=tN y x v H B s A J bl z g k j)))∧Below w.heap.size w w':=by
 obtain⟨E,hE⟩:∃E,E=decide (tN G F D I f C r L al d c m l=tN y x v H B s A J bl z g k j):=⟨_,rfl⟩;rw[←hE];rw[Wp G F D I f C r L aA an q al d c m l y x v H B s A J bA bn n bl z g k j]at hE;have HR:=hid e5;have f3:=hid e2;clear e5 e2;obtain⟨T,b8⟩:∃o,(!(G.toList==y.toList))=o:=⟨_,rfl⟩;obtain⟨n1,b7⟩:∃o,(!(F.toList==x.toList))=o:=⟨_,rfl⟩;obtain⟨n2,b6⟩:∃o,(!(D.toList==v.toList))=o:=⟨_,rfl⟩;obtain⟨n3,b5⟩:∃o,(!(f==B))=o:=⟨_,rfl⟩;obtain⟨n4,b3⟩:∃o,(!(C==s))=o:=⟨_,rfl⟩;obtain⟨n5,b0⟩:∃o,(!(r==A))=o:=⟨_,rfl⟩;obtain⟨n6,a9⟩:∃o,(!(d==z))=o:=⟨_,rfl⟩;obtain⟨n7,a8⟩:∃o,(!(c==g))=o:=⟨_,rfl⟩;obtain⟨d1,c8⟩:∃o,o=(T||n1):=⟨_,rfl⟩;obtain⟨d2,c7⟩:∃o,o=(d1||n2):=⟨_,rfl⟩;obtain⟨d3,c6⟩:∃o,o=(d2||n3):=⟨_,rfl⟩;obtain⟨Z,c5⟩:∃o,o=(d3||n4):=⟨_,rfl⟩;obtain⟨Y,c4⟩:∃o,o=(Z||n5):=⟨_,rfl⟩;obtain⟨X,c3⟩:∃o,o=(Y||n6):=⟨_,rfl⟩;obtain⟨d7,c0⟩:∃o,o=(X||n7):=⟨_,rfl⟩;obtain⟨m3,b9⟩:∃o,(!(I.toList==H.toList))=o:=⟨_,rfl⟩;obtain⟨d8,O⟩:∃o,(!(m.toList==k.toList))=o:=⟨_,rfl⟩;obtain⟨d0,N⟩:∃o,(!(l.toList==j.toList))=o:=⟨_,rfl⟩;obtain⟨x1,a6⟩:∃o,o=(f&&m3):=⟨_,rfl⟩;obtain⟨y1,a5⟩:∃o,o=(d&&d8):=⟨_,rfl⟩;obtain⟨x2,a4⟩:∃o,o=(x1||y1):=⟨_,rfl⟩;obtain⟨z1,a3⟩:∃o,o=(c&&d0):=⟨_,rfl⟩;obtain⟨x3,a2⟩:∃o,o=(x2||z1):=⟨_,rfl⟩;obtain⟨o7,a7⟩:∃o,o=(L.toList==J.toList):=⟨_,rfl⟩;have a0:Hid (E=(!d7&& !x3&&(if r then o7 else decide (al=bl)))):=by
  show _=_;rw[hE,a2,a3,a4,a5,a6,c0,c3,c4,c5,c6,c7,c8,←b9,←O,←N,←b8,←b7,←b6,←b5,←b3,←b0,←a9,←a8,a7,qR,qR,qR,qR,qR,qR,qR];simp only[Bool.not_or,Bool.not_and,Bool.not_not]
 have g7:=hid b8;have g6:=hid b7;have g5:=hid b6;have g4:=hid b5;have g3:=hid b3;have g2:=hid b0;have g1:=hid a9;have g0:=hid a8;have h5:=hid c8;have h4:=hid c7;have h3:=hid c6;have h2:=hid c5;have h1:=hid c4;have h0:=hid c3;have g9:=hid c0;have g8:=hid b9;have f1:=hid O;have f0:=hid N;have f8:=hid a6;have f7:=hid a5;have f6:=hid a4;have f5:=hid a3;have f4:=hid a2;have f9:=hid a7.symm;clear hE a7 b8 b7 b6 b5 b3 b0 a9 a8 c8 c7 c6 c5 c4 c3 c0 b9 O N a6 a5 a4 a3 a2;have h6:Hid (Below w.heap.size w ((w.alloc (.cells #[.string G,.string F,.string D,.string I,.bool f,.int .i64 C,.bool r,.string L,.slice aA an q,.bool d,.bool c,.string m,.string l] 25)).alloc (.cells #[.string y,.string x,.string v,.string H,.bool B,.int .i64 s,.bool A,.string J,.slice bA bn n,.bool z,.bool g,.string k,.string j] 25))):=(((Below.refl _ _).alloc (Nat.le_refl _) _).alloc (by simp) _);go_enter func13,ntmps13;go_upto_region 1 with(fail)
 generalize hw0:(w.alloc _).alloc _=w0;have f2:Hid (Below w.heap.size w w0):=by rw[←hw0];exact h6
 have e9:Hid (Bx w0 w.heap.size #[.string G,.string F,.string D,.string I,.bool f,.int .i64 C,.bool r,.string L,.slice aA an q,.bool d,.bool c,.string m,.string l]):=by show _=_;rw[←hw0];exact(Below.block ((Below.refl (w.heap.size+1) _).alloc (by simp) _) w.heap.size (by omega)).trans (heap_alloc_new w _)
 have e8:Hid (Bx w0 (w.heap.size+1) #[.string y,.string x,.string v,.string H,.bool B,.int .i64 s,.bool A,.string J,.slice bA bn n,.bool z,.bool g,.string k,.string j]):=by show _=_;rw[←hw0];have:=heap_alloc_new (w.alloc (.cells #[.string G,.string F,.string D,.string I,.bool f,.int .i64 C,.bool r,.string L,.slice aA an q,.bool d,.bool c,.string m,.string l] 25)) (.cells #[.string y,.string x,.string v,.string H,.bool B,.int .i64 s,.bool A,.string J,.slice bA bn n,.bool z,.bool g,.string k,.string j] 25);simpa using this
 have P:w.heap.size+1<w0.heap.size:=by rw[←hw0];simp
 clear hw0;refine yJ [pg w.heap.size 0,is (.string G),pg (w.heap.size+1) 0,is (.string y),is (.bool T),is (.bool T),ng (!T) (pg w.heap.size 1),ng (!T) (is (.string F)),ng (!T) (pg (w.heap.size+1) 1),ng (!T) (is (.string x)),ng (!T) (is (.bool n1)),is (.bool d1),is (.bool d1),ng (!d1) (pg w.heap.size 2),ng (!d1) (is (.string D)),ng (!d1) (pg (w.heap.size+1) 2),ng (!d1) (is (.string v)),ng (!d1) (is (.bool n2)),is (.bool d2),is (.bool d2),ng (!d2) (pg w.heap.size 4),ng (!d2) (is (.bool f)),ng (!d2) (pg (w.heap.size+1) 4),ng (!d2) (is (.bool B)),ng (!d2) (is (.bool n3)),is (.bool d3),is (.bool d3),ng (!d3) (pg w.heap.size 5),ng (!d3) (is (.int .i64 C)),ng (!d3) (pg (w.heap.size+1) 5),ng (!d3) (is (.int .i64 s)),ng (!d3) (is (.bool n4)),is (.bool Z),is (.bool Z),ng (!Z) (pg w.heap.size 6),ng (!Z) (is (.bool r)),ng (!Z) (pg (w.heap.size+1) 6),ng (!Z) (is (.bool A)),ng (!Z) (is (.bool n5)),is (.bool Y),is (.bool Y),ng (!Y) (pg w.heap.size 9),ng (!Y) (is (.bool d)),ng (!Y) (pg (w.heap.size+1) 9),ng (!Y) (is (.bool z)),ng (!Y) (is (.bool n6)),is (.bool X),is (.bool X),ng (!X) (pg w.heap.size 10),ng (!X) (is (.bool c)),ng (!X) (pg (w.heap.size+1) 10),ng (!X) (is (.bool g)),ng (!X) (is (.bool n7)),is (.bool d7)] [[],[0],[],[2],[1,3],[4],[5],[5,6],[5],[5,8],[5,7,9],[5,10],[11],[12],[12,13],[12],[12,15],[12,14,16],[12,17],[18],[19],[19,20],[19],[19,22],[19,21,23],[19,24],[25],[26],[26,27],[26],[26,29],[26,28,30],[26,31],[32],[33],[33,34],[33],[33,36],[33,35,37],[33,38],[39],[40],[40,41],[40],[40,43],[40,42,44],[40,45],[46],[47],[47,48],[47],[47,50],[47,49,51],[47,52]] (by kernel_rfl) ?_ ?_
 ·refine⟨?_,?_,?_,?_,?_,?_,?_,?_,?_,?_,?_,?_,?_,?_,?_,?_,?_,?_,?_,?_,?_,?_,?_,?_,?_,?_,?_,?_,?_,?_,?_,?_,?_,?_,?_,?_,?_,?_,?_,?_,?_,?_,?_,?_,?_,?_,?_,?_,?_,?_,?_,?_,?_,?_,trivial⟩;all_goals(intro t wq h hh K a;have c1:=fun i=>Bx.cell ((h.block _ (by omega)).trans e9) i;have c2:=fun i=>Bx.cell ((h.block _ P).trans e8) i;simp only[iG,oV,rgW,Act.put,Nat.reduceAdd,Nat.reduceEqDiff,reduceIte]at hh a⊢)
  iterate 6 · (try simp only[hh]at a⊢);clear hh;go_simp;exact a _ _ aV (by first|rfl|(show _=_;rw[←g7.out];try cases G<;>cases y<;>rfl))
  iterate 6 · cases T<;>(simp only[QH]at hh a⊢;(try simp only[hh]at a⊢);clear hh;go_simp;exact a _ _ aV (by first|rfl|(show _=_;rw[h5.out];simp)|(show _=_;rw[←g6.out];try cases F<;>cases x<;>rfl)))
  ·(try simp only[hh]at a⊢);clear hh;go_simp;exact a _ _ aV rfl
  iterate 6 · cases d1<;>(simp only[QH]at hh a⊢;(try simp only[hh]at a⊢);clear hh;go_simp;exact a _ _ aV (by first|rfl|(show _=_;rw[h4.out];simp)|(show _=_;rw[←g5.out];try cases D<;>cases v<;>rfl)))
  ·(try simp only[hh]at a⊢);clear hh;go_simp;exact a _ _ aV rfl
  iterate 6 · cases d2<;>(simp only[QH]at hh a⊢;(try simp only[hh]at a⊢);clear hh;go_simp;exact a _ _ aV (by first|rfl|(show _=_;rw[h3.out];simp)|(show _=_;rw[←g4.out];try cases f<;>cases B<;>rfl)))
  ·(try simp only[hh]at a⊢);clear hh;go_simp;exact a _ _ aV rfl
  iterate 6 · cases d3<;>(simp only[QH]at hh a⊢;(try simp only[hh]at a⊢);clear hh;go_simp;exact a _ _ aV (by first|rfl|(show _=_;rw[h2.out];simp)|(show _=_;rw[←g3.out];try cases C<;>cases s<;>rfl)))
  ·(try simp only[hh]at a⊢);clear hh;go_simp;exact a _ _ aV rfl
  iterate 6 · cases Z<;>(simp only[QH]at hh a⊢;(try simp only[hh]at a⊢);clear hh;go_simp;exact a _ _ aV (by first|rfl|(show _=_;rw[h1.out];simp)|(show _=_;rw[←g2.out];try cases r<;>cases A<;>rfl)))
  ·(try simp only[hh]at a⊢);clear hh;go_simp;exact a _ _ aV rfl
  iterate 6 · cases Y<;>(simp only[QH]at hh a⊢;(try simp only[hh]at a⊢);clear hh;go_simp;exact a _ _ aV (by first|rfl|(show _=_;rw[h0.out];simp)|(show _=_;rw[←g1.out];try cases d<;>cases z<;>rfl)))
  ·(try simp only[hh]at a⊢);clear hh;go_simp;exact a _ _ aV rfl
  iterate 6 · cases X<;>(simp only[QH]at hh a⊢;(try simp only[hh]at a⊢);clear hh;go_simp;exact a _ _ aV (by first|rfl|(show _=_;rw[g9.out];simp)|(show _=_;rw[←g0.out];try cases c<;>cases g<;>rfl)))
 ·intro t wq h hh;have V:=aO hh 53 (by decide);simp only[pick]at V;replace V:t 53=(.bool d7):=V;clear hh;simp only[List.length_cons,List.length_nil,iG,oV,rgW,Act.put,Nat.reduceAdd,Nat.reduceEqDiff,reduceIte];simp only[V];have c9:=hid (f2.trans (h.mono f2.size));have e7:=hid ((h.block _ (by omega)).trans e9);have e6:=hid ((h.block _ P).trans e8);have a1:w.heap.size+1<wq.heap.size:=Nat.lt_of_lt_of_le P h.size;cases d7 with
  |true=>
   have HE:Hid (E=false):=by show _=_;rw[a0.out];simp
   go_wp2;go_ret;exact⟨aC HE.symm,c9⟩
  | false=>
   clear h;go_upto_region 3 with(fail)
   refine yJ [pg w.heap.size 4,is (.bool f),is (.bool f),ng (f) (pg w.heap.size 3),ng (f) (is (.string I)),ng (f) (pg (w.heap.size+1) 3),ng (f) (is (.string H)),ng (f) (is (.bool m3)),is (.bool x1),is (.bool x1),ng (!x1) (pg w.heap.size 9),ng (!x1) (is (.bool d)),ng (!x1) (is (.bool d)),ng (!x1&&d) (pg w.heap.size 11),ng (!x1&&d) (is (.string m)),ng (!x1&&d) (pg (w.heap.size+1) 11),ng (!x1&&d) (is (.string k)),ng (!x1&&d) (is (.bool d8)),ng (!x1) (is (.bool y1)),is (.bool x2),is (.bool x2),ng (!x2) (pg w.heap.size 10),ng (!x2) (is (.bool c)),ng (!x2) (is (.bool c)),ng (!x2&&c) (pg w.heap.size 12),ng (!x2&&c) (is (.string l)),ng (!x2&&c) (pg (w.heap.size+1) 12),ng (!x2&&c) (is (.string j)),ng (!x2&&c) (is (.bool d0)),ng (!x2) (is (.bool z1)),is (.bool x3)] [[],[0],[1],[2],[2,3],[2],[2,5],[2,4,6],[2,7],[8],[9],[9,10],[9,11],[12],[12,13],[12],[12,15],[12,14,16],[9,12,17],[9,18],[19],[20],[20,21],[20,22],[23],[23,24],[23],[23,26],[23,25,27],[20,23,28],[20,29]] (by kernel_rfl) ?_ ?_
   ·refine⟨?_,?_,?_,?_,?_,?_,?_,?_,?_,?_,?_,?_,?_,?_,?_,?_,?_,?_,?_,?_,?_,?_,?_,?_,?_,?_,?_,?_,?_,?_,?_,trivial⟩;all_goals(intro t wq h hh K a;have c1:=fun i=>Bx.cell ((h.block _ (by omega)).trans e7) i;have c2:=fun i=>Bx.cell ((h.block _ a1).trans e6) i;simp only[iG,oV,rgW,Act.put,Nat.reduceAdd,Nat.reduceEqDiff,reduceIte]at hh a⊢)
    iterate 3 · (try simp only[hh]at a⊢);clear hh;go_simp;exact a _ _ aV rfl
    iterate 6 · cases f<;>(simp only[QH]at hh a⊢;(try simp only[hh]at a⊢);clear hh;go_simp;exact a _ _ aV (by first|rfl|(show _=_;rw[f8.out];simp)|exact congrArg Value.bool g8.out))
    ·(try simp only[hh]at a⊢);clear hh;go_simp;exact a _ _ aV rfl
    iterate 3 · cases x1<;>(simp only[QH]at hh a⊢;(try simp only[hh]at a⊢);clear hh;go_simp;exact a _ _ aV rfl)
    iterate 6 · cases x1<;>cases d<;>(simp only[QH]at hh a⊢;(try simp only[hh]at a⊢);clear hh;go_simp;exact a _ _ aV (by first|rfl|(show _=_;rw[f7.out];simp)|exact congrArg Value.bool f1.out))
    ·cases x1<;>(simp only[QH]at hh a⊢;(try simp only[hh]at a⊢);clear hh;go_simp;exact a _ _ aV (by first|rfl|(show _=_;rw[f6.out];simp)))
    ·(try simp only[hh]at a⊢);clear hh;go_simp;exact a _ _ aV rfl
    iterate 3 · cases x2<;>(simp only[QH]at hh a⊢;(try simp only[hh]at a⊢);clear hh;go_simp;exact a _ _ aV rfl)
    iterate 6 · cases x2<;>cases c<;>(simp only[QH]at hh a⊢;(try simp only[hh]at a⊢);clear hh;go_simp;exact a _ _ aV (by first|rfl|(show _=_;rw[f5.out];simp)|exact congrArg Value.bool f0.out))
    ·cases x2<;>(simp only[QH]at hh a⊢;(try simp only[hh]at a⊢);clear hh;go_simp;exact a _ _ aV (by first|rfl|(show _=_;rw[f4.out];simp)))
   ·intro t wq h hh;have W:=aO hh 30 (by decide);simp only[pick]at W;replace W:t 30=(.bool x3):=W;clear hh;simp only[List.length_cons,List.length_nil,iG,oV,rgW,Act.put,Nat.reduceAdd,Nat.reduceEqDiff,reduceIte];simp only[W];have Q:=hid (c9.trans (h.mono c9.size));cases x3 with
    |true=>
     have HE:Hid (E=false):=by show _=_;rw[a0.out];simp
     go_wp2;go_ret;exact⟨aC HE.symm,Q⟩
    |false=>
     have hx:=(h.block _ (by omega)).trans e7;have d9:=(h.block _ a1).trans e6;obtain⟨k2,k1,k0,j9,j8,j7,j6,j5,j4,j3,i2,i1,i0⟩:=jF hx;obtain⟨j2,j1,j0,i9,i8,i7,i6,i5,i4,i3,h9,h8,h7⟩:=jF d9;clear hx d9;cases r with
     |true=>
      have HE:Hid (E=o7):=by show _=_;rw[a0.out];simp
      go_wp2;go_ret;exact⟨aC (f9.trans HE.symm),Q⟩
     |false=>
      have HE:Hid (E=decide (al=bl)):=by show _=_;rw[a0.out];simp
      go_wp2_with fail
      refine(SX aA bA an bn q n al bl _ (HR.below Q) (f3.below Q) e3 e4 e0 e1).mono ?_;rintro e w8 ⟨rfl,hb8⟩;go_wp2;go_ret;exact⟨aC HE.symm,bF Q hb8⟩
end aaG
namespace Smz
open Go.RowKit Base aJ Ulw
theorem Td {u:U} (d:u=U0) (A:Option Addr) (n c:Nat) (w:World) (a:Pt w u A n c):Calls prog 13 #[.agg #[.string (ah u.au),.string (ah u.bU),.string (ah u.bW),.string (ah u.aU),.bool u.hh,.int .i64 u.port,.bool u.dF,.string (ah u.txt),.slice A n c,.bool u.hq,.bool u.hf,.string (ah u.bQ),.string (ah u.eX)],.agg #[.string ⟨#[]⟩,.string ⟨#[]⟩,.string ⟨#[]⟩,.string ⟨#[]⟩,.bool false,.int .i64 0,.bool false,.string ⟨#[]⟩,.slice none 0 0,.bool false,.bool false,.string ⟨#[]⟩,.string ⟨#[]⟩]] w fun e w'=>e=.returned (.bool true)∧Below w.heap.size w w':=by
 subst d;have h:=aaG.Dc (ah U0.au) (ah U0.bU) (ah U0.bW) (ah U0.aU) U0.hh U0.port U0.dF (ah U0.txt) A n c U0.aF U0.hq U0.hf (ah U0.bQ) (ah U0.eX) ⟨#[]⟩ ⟨#[]⟩ ⟨#[]⟩ ⟨#[]⟩ false 0 false ⟨#[]⟩ none 0 0 [] false false ⟨#[]⟩ ⟨#[]⟩ w a.aF.1 a.aF.2.1 a.aF.2.2 (dP.nil _) (Nat.le_refl _) (Nat.zero_le _);rw[decide_eq_true (show dL.tN (ah U0.au) (ah U0.bU) (ah U0.bW) (ah U0.aU) U0.hh U0.port U0.dF (ah U0.txt) U0.aF U0.hq U0.hf (ah U0.bQ) (ah U0.eX)=dL.tN ⟨#[]⟩ ⟨#[]⟩ ⟨#[]⟩ ⟨#[]⟩ false 0 false ⟨#[]⟩ [] false false ⟨#[]⟩ ⟨#[]⟩from rfl)]at h;exact h
end Smz
namespace jX
open Go.RowKit gJ dJ iK mG jT iJ gV jy aJ
structure M where
 p:Int
 st:Nat
 buf:List UInt8
 u:U
 sign:Bool
 inn:Bool
 pass:Bool
def cc:List UInt8→UInt8
 |[]=>0
 |c::_=>c
def kM (sp:Bool):List UInt8→Bool
 |[]=>false
 |c::_=>bZ sp c
def bV:List UInt8→Bool
 |[]=>true
 |c::_=>decide (c=63)||decide (c=35)
def two (R:List UInt8):Bool:=Lib.hasPrefix R [47,47]
def mv (m:M) (s:Nat) (b:Bool):M:={m with st:=s,p:=if b=true then m.p - 1 else m.p}
def fail (m:M):M:={m with st:=19}
def tail (m:M):List UInt8→M
 |[]=>m
 |c::_=>if c=63 then mv {m with u:={m.u with hq:=true,bQ:=[]}} 17 false else if c=35 then mv {m with u:={m.u with hf:=true,eX:=[]}} 18 false else m
def begin' (m:M):M:={mv m 8 false with buf:=[]}
def lJ (b:U) (m:M):M:={m with u:={m.u with bU:=b.bU,bW:=b.bW,hh:=b.hh,aU:=b.aU,port:=b.port}}
def sp (m:M):Bool:=aj m.u.au
def fD (base:Option U) (m:M) (R:List UInt8):M:=
 if R≠[]∧ny (cc R)=true then {m with buf:=m.buf++lower [cc R]}
 else if R=[]∨cc R≠58 then {m with buf:=[],p:= -1,st:=2}
 else
  let n:M:={m with u:={m.u with au:=m.buf},buf:=[]}
  if m.buf=ay then mv n 11 false
  else if aj m.buf=true∧(base.elim false fun b=>decide (b.au=m.buf))=true then mv n 3 false
  else if aj m.buf=true then mv n 7 false
  else if (R.drop 1).head?=some 47 then mv {n with p:=n.p+1} 4 false
  else mv {n with u:={n.u with dF:=true}} 16 false
def wY (base:Option U) (m:M) (R:List UInt8):M:=
 match base with
 |none=>fail m
 |some b=>if b.dF=true∧(R=[]∨cc R≠35)then fail m
  else if b.dF=true then tail {m with u:={m.u with au:=b.au,dF:=true,txt:=b.txt,hq:=b.hq,bQ:=b.bQ}} R
  else if b.au≠ay then mv m 5 true else mv m 11 true
def lH (b:U) (m:M) (R:List UInt8):M:=
 let n:M:={m with u:={m.u with au:=b.au}}
 if kM (aj b.au) R=true then mv n 6 false
 else
  let v:=lJ b n
  let k:M:={v with u:={v.u with aF:=b.aF,hq:=b.hq,bQ:=b.bQ}}
  if bV R=true then tail k R else mv {k with u:={k.u with hq:=false,bQ:=[],aF:=jc false b.aF}} 15 true
def iZ (b:U) (m:M) (R:List UInt8):M:=
 if sp m=true∧kM (sp m) R=true then mv m 7 false
 else if kM (sp m) R=true then begin' m
 else mv (lJ b m) 15 true
def DI (m:M) (R:List UInt8):M:=if kM (sp m) R=false∨sp m=false then {begin' m with p:=m.p - 1}else m
def iw:List UInt8→M→M
 |[],m=>m
 |c::L,m=>if c=58∧m.pass=false then iw L {m with pass:=true}else if m.pass=true then iw L {m with u:={m.u with bW:=m.u.bW++aG.enc 5 [c]}}else iw L {m with u:={m.u with bU:=m.u.bU++aG.enc 5 [c]}}
def kG (m:M) (R:List UInt8):M:=
 if bV R=false∧cc R=64 then
  {iw (if m.sign=true then[37,52,48]++m.buf else m.buf) {m with sign:=true}with buf:=[]}
 else if bV R=true∨kM (sp m) R=true then
  if m.sign=true∧m.buf=[]then fail m else {m with p:=m.p - m.buf.length - 1,buf:=[],st:=9}
 else {m with buf:=m.buf++[cc R]}
def meet (m:M):M:={m with u:={m.u with hh:=true,aU:=(aU m.buf (sp m)).getD []},buf:=[]}
def met (m:M):Bool:=(aU m.buf (sp m)).isSome
def kH (m:M) (R:List UInt8):M:=
 if bV R=false∧cc R=58∧m.inn=false then
  if m.buf=[]then fail m else if met m=false then fail (meet m)else mv (meet m) 10 false
 else if bV R=true∨kM (sp m) R=true then
  if sp m=true∧m.buf=[]then fail m else if met m=false then fail (meet m)else mv (meet m) 14 true
 else {m with inn:=if cc R=93 then false else if cc R=91 then true else m.inn,buf:=m.buf++[cc R]}
def gZ (m:M) (R:List UInt8):M:=
 if bV R=false∧nZ (cc R)=true then {m with buf:=m.buf++[cc R]}
 else if bV R=false∧kM (sp m) R=false then fail m
 else if m.buf=[]then mv m 14 true
 else if 65535<jU m.buf then fail m
 else mv {m with u:={m.u with port:=if (jU m.buf:Int)=jo m.u.au then -1 else jU m.buf},buf:=[]} 14 true
def je (base:Option U) (m:M) (R:List UInt8):M:=
 let n:M:={m with u:={m.u with au:=ay,hh:=true,aU:=[]}}
 if kM true R=true then mv n 12 false
 else match base.filter fun b=>b.au=ay with
 |none=>mv n 15 true
 |some b=>
  let k:M:={n with u:={n.u with aU:=b.aU,aF:=b.aF,hq:=b.hq,bQ:=b.bQ}}
  if bV R=true then tail k R else mv {k with u:={k.u with hq:=false,bQ:=[],aF:=if pK R=true then[]else jc true b.aF}} 15 true
def dV (base:Option U) (m:M) (R:List UInt8):M:=
 if kM (sp m) R=true then mv m 13 false
 else match base.filter fun b=>b.au=ay with
 |none=>mv m 15 true
 |some b=>mv {m with u:={m.u with aU:=b.aU,aF:=if pK R=false∧wO (b.aF.head?.elim [] fun x=>x.data.toList)=true then m.u.aF++b.aF.take 1 else m.u.aF}} 15 true
def dA (m:M) (R:List UInt8):M:=
 if bV R=false∧kM (sp m) R=false then {m with buf:=m.buf++[cc R]}
 else if lu m.buf=true then mv m 15 true
 else if m.buf=[]then mv m 14 true
 else if met m=false then fail (meet m)
 else mv {meet m with u:={(meet m).u with aU:=if (meet m).u.aU=LOCAL then[]else(meet m).u.aU}} 14 true
def eH (m:M) (R:List UInt8):M:=
 if sp m=true then mv m 15 (!kM true R)else if bV R=true then tail m R else mv m 15 (!kM false R)
def iE (m:M) (R:List UInt8):M:=
 if bV R=false∧kM (sp m) R=false then {m with buf:=m.buf++[cc R]}
 else tail {m with u:={m.u with aF:=rY (decide (m.u.au=ay)) (!kM (sp m) R) m.u.aF m.buf},buf:=[]} R
def qH (m:M) (R:List UInt8):M:=
 if bV R=true then tail m R
 else if cc R=32∧(R.drop 1).head?.elim false (fun c=>decide (c=63)||decide (c=35))=true then {m with u:={m.u with txt:=m.u.txt++[37,50,48]}}
 else {m with u:={m.u with txt:=m.u.txt++aG.enc 0 [cc R]}}
def pG (m:M) (R:List UInt8):M:=
 if R≠[]∧cc R≠35 then {m with buf:=m.buf++[cc R]}
 else tail {m with u:={m.u with bQ:=aG.enc (if sp m=true then 3 else 2) m.buf},buf:=[]} R
def wW (m:M) (R:List UInt8):M:=
 if R≠[]then {m with buf:=m.buf++[cc R]}else {m with u:={m.u with eX:=aG.enc 1 m.buf},buf:=[]}
def kS (m:M) (R:List UInt8):M:=
 if letter (cc R).toNat=true∧R≠[]then mv {m with buf:=lower [cc R]} 1 false else mv m 2 true
def jq (m:M) (R:List UInt8):M:=if two R=true then mv {m with p:=m.p+1} 7 false else mv m 5 true
def kR (m:M) (R:List UInt8):M:=if cc R=47∧R≠[]then begin' m else mv m 15 true
def aY (base:Option U) (m:M) (R:List UInt8):M:=
 match m.st with
 |0=>kS m R
 |1=>fD base m R
 |2=>wY base m R
 |3=>jq m R
 |4=>kR m R
 |5=>lH (base.getD U0) m R
 |6=>iZ (base.getD U0) m R
 |7=>DI m R
 |8=>kG m R
 |9=>kH m R
 |10=>gZ m R
 |11=>je base m R
 |12=>dV base m R
 |13=>dA m R
 |14=>eH m R
 |15=>iE m R
 |16=>qH m R
 |17=>pG m R
 |18=>wW m R
 |_=>m
theorem ms0 {base:Option U} {m:M} {R:List UInt8} (h:m.st=0):aY base m R=kS m R:=by unfold aY;rw[h];rfl
theorem ms1 {base:Option U} {m:M} {R:List UInt8} (h:m.st=1):aY base m R=fD base m R:=by unfold aY;rw[h];rfl
theorem ms2 {base:Option U} {m:M} {R:List UInt8} (h:m.st=2):aY base m R=wY base m R:=by unfold aY;rw[h];rfl
theorem ms3 {base:Option U} {m:M} {R:List UInt8} (h:m.st=3):aY base m R=jq m R:=by unfold aY;rw[h];rfl
theorem ms4 {base:Option U} {m:M} {R:List UInt8} (h:m.st=4):aY base m R=kR m R:=by unfold aY;rw[h];rfl
theorem ms5 {base:Option U} {m:M} {R:List UInt8} (h:m.st=5):aY base m R=lH (base.getD U0) m R:=by unfold aY;rw[h];rfl
theorem ms6 {base:Option U} {m:M} {R:List UInt8} (h:m.st=6):aY base m R=iZ (base.getD U0) m R:=by unfold aY;rw[h];rfl
theorem ms7 {base:Option U} {m:M} {R:List UInt8} (h:m.st=7):aY base m R=DI m R:=by unfold aY;rw[h];rfl
theorem ms8 {base:Option U} {m:M} {R:List UInt8} (h:m.st=8):aY base m R=kG m R:=by unfold aY;rw[h];rfl
theorem ms9 {base:Option U} {m:M} {R:List UInt8} (h:m.st=9):aY base m R=kH m R:=by unfold aY;rw[h];rfl
theorem Yn {base:Option U} {m:M} {R:List UInt8} (h:m.st=10):aY base m R=gZ m R:=by unfold aY;rw[h];rfl
theorem Vo {base:Option U} {m:M} {R:List UInt8} (h:m.st=11):aY base m R=je base m R:=by unfold aY;rw[h];rfl
theorem Yo {base:Option U} {m:M} {R:List UInt8} (h:m.st=12):aY base m R=dV base m R:=by unfold aY;rw[h];rfl
theorem aa2 {base:Option U} {m:M} {R:List UInt8} (h:m.st=13):aY base m R=dA m R:=by unfold aY;rw[h];rfl
theorem adG {base:Option U} {m:M} {R:List UInt8} (h:m.st=14):aY base m R=eH m R:=by unfold aY;rw[h];rfl
theorem Yp {base:Option U} {m:M} {R:List UInt8} (h:m.st=15):aY base m R=iE m R:=by unfold aY;rw[h];rfl
theorem aa3 {base:Option U} {m:M} {R:List UInt8} (h:m.st=16):aY base m R=qH m R:=by unfold aY;rw[h];rfl
theorem Yq {base:Option U} {m:M} {R:List UInt8} (h:m.st=17):aY base m R=pG m R:=by unfold aY;rw[h];rfl
theorem Yr {base:Option U} {m:M} {R:List UInt8} (h:m.st=18):aY base m R=wW m R:=by unfold aY;rw[h];rfl
inductive Out
 |stop (o:Option U)
 |go (m:M)
def ans (m:M):Option U:=if m.st=19 then none else some m.u
def out (S:List UInt8) (e:Bool) (m:M):Out:=if e=true∧(S.length:Int)≤m.p then .stop (ans m)else .go {m with p:=m.p+1}
def Ij (S:List UInt8) (base:Option U) (m:M):Out:=
 if m.st=19 then .stop none
 else if m.p<0 then .go {m with p:=m.p+1}
 else out S (decide ((S.length:Int)≤m.p)) (aY base m (S.drop m.p.toNat))
inductive Run (S:List UInt8) (base:Option U):M→Option U→Prop
 |stop {m:M} {o:Option U} (h:Ij S base m=.stop o):Run S base m o
 |go {m n:M} {o:Option U} (h:Ij S base m=.go n) (r:Run S base n o):Run S base m o
def lT (S:List UInt8) (base:Option U):Out→Option U→Prop
 | .stop x,o=>x=o
 | .go m,o=>Run S base m o
theorem Run.of {S:List UInt8} {base:Option U} {m:M} {o:Option U} (h:lT S base (Ij S base m) o):Run S base m o:=by
 match e:Ij S base m,h with
 | .stop x,h=>exact .stop (by rw[e];exact congrArg _ h)
 | .go n,h=>exact .go e h
theorem bG {S:List UInt8} {base:Option U} {m:M} {o:Option U} {k:Nat} {R:List UInt8} (a:m.p=k) (f:k≤S.length) (c:S.drop k=R) (d:m.st≠19) (h:lT S base (out S (decide (R=[])) (aY base m R)) o):Run S base m o:=by
 refine .of ?_;have e:decide ((S.length:Int)≤m.p)=decide (R=[]):=by
  rw[←c,a,Bool.eq_iff_iff];simp only[decide_eq_true_eq,List.drop_eq_nil_iff];omega
 unfold Ij;rw[if_neg d,if_neg (by omega),e,a,Int.toNat_natCast,c];exact h
theorem mW {S:List UInt8} {e:Bool} {m:M} (h:e=false∨m.p<S.length):out S e m=.go {m with p:=m.p+1}:=by
 unfold out;rw[if_neg];rintro⟨a,c⟩;rcases h with h|h
 ·rw[h]at a;cases a
 omega
theorem out_stop {S:List UInt8} {m:M} (h:(S.length:Int)≤m.p):out S true m=.stop (ans m):=by
 unfold out;rw[if_pos ⟨rfl,h⟩]
theorem lG (S:List UInt8) (base:Option U) (e:Bool) (m:M) (h:m.st=19):lT S base (out S e m) none:=by
 unfold out;split
 ·show ans m=none;unfold ans;rw[if_pos h]
 refine Run.stop ?_;unfold Ij;rw[if_pos (by exact h)]
end jX
namespace fJ
open Go.RowKit Base bC aJ vU jX
structure K where
 g:Nat
 B:Nat
 T:List UInt8
 base:Option U
 A:Option Addr
 n:Nat
 c:Nat
 w0:World
def K.b (k:K):U:=k.base.getD {U0 with port:=0}
def K.has (k:K):Bool:=k.base.isSome
def K.qb (k:K):Value:=.slice k.A k.n k.c
def Ou (k:K) (m:M) (q:Value):Array Value:=#[.string (ah k.T),.int .i64 m.p,.int .i64 (m.st:Int),.string (ah m.buf),.string (ah m.u.au),.string (ah m.u.bU),.string (ah m.u.bW),.string (ah m.u.aU),.bool m.u.hh,.int .i64 m.u.port,.bool m.u.dF,.string (ah m.u.txt),q,.bool m.u.hq,.bool m.u.hf,.string (ah m.u.bQ),.string (ah m.u.eX),.string (ah k.b.au),.string (ah k.b.bU),.string (ah k.b.bW),.string (ah k.b.aU),.bool k.b.hh,.int .i64 k.b.port,.bool k.b.dF,.string (ah k.b.txt),k.qb,.bool k.b.hq,.bool k.b.hf,.string (ah k.b.bQ),.string (ah k.b.eX),.bool k.has,.bool m.sign,.bool m.inn,.bool m.pass,.int .i64 0]
structure MX (k:K) (m:M) (q:Value) (w:World):Prop where
 row:w.heap[k.g]?=some (.cells (Ou k m q) 61 (0,0))
 own:w.ownsRow k.B 9 1 q m.u.aF.length (m.u.aF.map Value.string)
 bF:Below k.B k.w0 w
 le:k.B≤k.g
structure KB (k:K):Prop where
 SQ:dP k.w0 k.A k.n (k.b.aF.map Value.string)
 nc:k.n≤k.c
 cm:k.c≤maxLen
 lo:k.w0.heap.size≤k.B
variable {k:K} {m:M} {q:Value} {w w':World}
theorem MX.lt (h:MX k m q w):k.g<w.heap.size:=(Array.getElem?_eq_some_iff.1 h.row).1
theorem MX.size (h:MX k m q w):k.B≤w.heap.size:=Nat.le_trans h.le (Nat.le_of_lt h.lt)
theorem MX.below (h:MX k m q w) (a:Below w.heap.size w w'):MX k m q w':=⟨(a.block _ h.lt).trans h.row,bf h.own a,h.bF.trans (a.mono h.size),h.le⟩
theorem dQ {f:FuncId} {a:Array Value} {E:Ending} {Q:Ending→World→Prop} (h:Hid (MX k m q w)) (c:Calls prog f a w fun e w'=>e=E∧Below w.heap.size w w') (g:∀w',Hid (MX k m q w')→Q E w'):Calls prog f a w Q:=c.mono fun _ w' ⟨he,hb⟩=>he▸g w' (hid (h.below hb))
theorem jw {f:FuncId} {a:Array Value} {E:Ending} {Q:Ending→World→Prop} {d T:World→Prop} (c:Calls prog f a w fun e w'=>e=E∧d w'∧T w') (g:∀w',Hid (d w')→Q E w'):Calls prog f a w Q:=c.mono fun _ w' ⟨he,hm,_⟩=>he▸g w' (hid hm)
theorem MX.SQ (h:MX k m q w) (a:KB k):dP w k.A k.n (k.b.aF.map Value.string):=(a.SQ.below (w':=k.w0) (Below.refl _ _)).below (h.bF.mono a.lo)
theorem iP {v:Value} {n:Nat} {c:List Value} {C:Array Value} {x:Nat×Nat} (h:w.heap[k.g]?=some (.cells C 61 x)) (d:w.ownsRow k.B 9 1 v n c):v.ownBlock≠some k.g:=by
 rcases d.2 with⟨rfl,_⟩|⟨b,j,i,rfl,_,a,_⟩
 ·intro h;cases h
 intro e;injection e with e
 have f:b=k.g:=e;rw[f,h]at a;injection a with a
 injection a with h1 h2
 exact absurd h2 (by decide)
theorem gQ {v x:Value} {n i:Nat} {c:List Value} (d:w.ownsRow k.B 9 1 v n c) (a:v.ownBlock≠some k.g):(w.setCell ⟨k.g,i,none⟩ x).ownsRow k.B 9 1 v n c:=by
 refine⟨d.1,?_⟩;rcases d.2 with h|⟨b,cap,cur,rfl,hB,hb,r⟩
 ·exact .inl h
 exact .inr ⟨b,cap,cur,rfl,hB,(heap_setCell_other w _ _ _ (fun e=>a (congrArg some e))).trans hb,r⟩
theorem MX.facts (h:MX k m q w):w.cell? ⟨k.g,0,none⟩=some (.string (ah k.T))∧w.cell? ⟨k.g,1,none⟩=some (.int .i64 m.p)∧w.cell? ⟨k.g,2,none⟩=some (.int .i64 (m.st:Int))∧w.cell? ⟨k.g,3,none⟩=some (.string (ah m.buf))∧w.cell? ⟨k.g,4,none⟩=some (.string (ah m.u.au))∧w.cell? ⟨k.g,5,none⟩=some (.string (ah m.u.bU))∧w.cell? ⟨k.g,6,none⟩=some (.string (ah m.u.bW))∧w.cell? ⟨k.g,7,none⟩=some (.string (ah m.u.aU))∧w.cell? ⟨k.g,8,none⟩=some (.bool m.u.hh)∧w.cell? ⟨k.g,9,none⟩=some (.int .i64 m.u.port)∧w.cell? ⟨k.g,10,none⟩=some (.bool m.u.dF)∧w.cell? ⟨k.g,11,none⟩=some (.string (ah m.u.txt))∧w.cell? ⟨k.g,12,none⟩=some (q)∧w.cell? ⟨k.g,13,none⟩=some (.bool m.u.hq)∧w.cell? ⟨k.g,14,none⟩=some (.bool m.u.hf)∧w.cell? ⟨k.g,15,none⟩=some (.string (ah m.u.bQ))∧w.cell? ⟨k.g,16,none⟩=some (.string (ah m.u.eX))∧w.cell? ⟨k.g,17,none⟩=some (.string (ah k.b.au))∧w.cell? ⟨k.g,18,none⟩=some (.string (ah k.b.bU))∧w.cell? ⟨k.g,19,none⟩=some (.string (ah k.b.bW))∧w.cell? ⟨k.g,20,none⟩=some (.string (ah k.b.aU))∧w.cell? ⟨k.g,21,none⟩=some (.bool k.b.hh)∧w.cell? ⟨k.g,22,none⟩=some (.int .i64 k.b.port)∧w.cell? ⟨k.g,23,none⟩=some (.bool k.b.dF)∧w.cell? ⟨k.g,24,none⟩=some (.string (ah k.b.txt))∧w.cell? ⟨k.g,25,none⟩=some (k.qb)∧w.cell? ⟨k.g,26,none⟩=some (.bool k.b.hq)∧w.cell? ⟨k.g,27,none⟩=some (.bool k.b.hf)∧w.cell? ⟨k.g,28,none⟩=some (.string (ah k.b.bQ))∧w.cell? ⟨k.g,29,none⟩=some (.string (ah k.b.eX))∧w.cell? ⟨k.g,30,none⟩=some (.bool k.has)∧w.cell? ⟨k.g,31,none⟩=some (.bool m.sign)∧w.cell? ⟨k.g,32,none⟩=some (.bool m.inn)∧w.cell? ⟨k.g,33,none⟩=some (.bool m.pass)∧w.cell? ⟨k.g,34,none⟩=some (.int .i64 0):=
 ⟨cell_of_row w k.g 0 _ _ _ h.row,cell_of_row w k.g 1 _ _ _ h.row,cell_of_row w k.g 2 _ _ _ h.row,cell_of_row w k.g 3 _ _ _ h.row,cell_of_row w k.g 4 _ _ _ h.row,cell_of_row w k.g 5 _ _ _ h.row,cell_of_row w k.g 6 _ _ _ h.row,cell_of_row w k.g 7 _ _ _ h.row,cell_of_row w k.g 8 _ _ _ h.row,cell_of_row w k.g 9 _ _ _ h.row,cell_of_row w k.g 10 _ _ _ h.row,cell_of_row w k.g 11 _ _ _ h.row,cell_of_row w k.g 12 _ _ _ h.row,cell_of_row w k.g 13 _ _ _ h.row,cell_of_row w k.g 14 _ _ _ h.row,cell_of_row w k.g 15 _ _ _ h.row,cell_of_row w k.g 16 _ _ _ h.row,cell_of_row w k.g 17 _ _ _ h.row,cell_of_row w k.g 18 _ _ _ h.row,cell_of_row w k.g 19 _ _ _ h.row,cell_of_row w k.g 20 _ _ _ h.row,cell_of_row w k.g 21 _ _ _ h.row,cell_of_row w k.g 22 _ _ _ h.row,cell_of_row w k.g 23 _ _ _ h.row,cell_of_row w k.g 24 _ _ _ h.row,cell_of_row w k.g 25 _ _ _ h.row,cell_of_row w k.g 26 _ _ _ h.row,cell_of_row w k.g 27 _ _ _ h.row,cell_of_row w k.g 28 _ _ _ h.row,cell_of_row w k.g 29 _ _ _ h.row,cell_of_row w k.g 30 _ _ _ h.row,cell_of_row w k.g 31 _ _ _ h.row,cell_of_row w k.g 32 _ _ _ h.row,cell_of_row w k.g 33 _ _ _ h.row,cell_of_row w k.g 34 _ _ _ h.row⟩
theorem MX.thaw (h:MX k m q w) (i:Nat):w.frozen? ⟨k.g,i,none⟩=false:=frozen_of_row w k.g i _ _ h.row
theorem MX.p (h:MX k m q w) (z:Int):MX k {m with p:=z} q (w.setCell ⟨k.g,1,none⟩ (.int .i64 z)):=⟨heap_setCell_same w k.g 1 _ _ _ h.row,gQ h.own (iP h.row h.own),h.bF.setCell h.le _,h.le⟩
theorem MX.st (h:MX k m q w) (z:Nat):MX k {m with st:=z} q (w.setCell ⟨k.g,2,none⟩ (.int .i64 (z:Int))):=⟨heap_setCell_same w k.g 2 _ _ _ h.row,gQ h.own (iP h.row h.own),h.bF.setCell h.le _,h.le⟩
theorem MX.buf (h:MX k m q w) (z:List UInt8):MX k {m with buf:=z} q (w.setCell ⟨k.g,3,none⟩ (.string (ah z))):=⟨heap_setCell_same w k.g 3 _ _ _ h.row,gQ h.own (iP h.row h.own),h.bF.setCell h.le _,h.le⟩
theorem MX.sign (h:MX k m q w) (z:Bool):MX k {m with sign:=z} q (w.setCell ⟨k.g,31,none⟩ (.bool z)):=⟨heap_setCell_same w k.g 31 _ _ _ h.row,gQ h.own (iP h.row h.own),h.bF.setCell h.le _,h.le⟩
theorem MX.inn (h:MX k m q w) (z:Bool):MX k {m with inn:=z} q (w.setCell ⟨k.g,32,none⟩ (.bool z)):=⟨heap_setCell_same w k.g 32 _ _ _ h.row,gQ h.own (iP h.row h.own),h.bF.setCell h.le _,h.le⟩
theorem MX.pass (h:MX k m q w) (z:Bool):MX k {m with pass:=z} q (w.setCell ⟨k.g,33,none⟩ (.bool z)):=⟨heap_setCell_same w k.g 33 _ _ _ h.row,gQ h.own (iP h.row h.own),h.bF.setCell h.le _,h.le⟩
theorem MX.Bc (h:MX k m q w) (z:List UInt8):MX k {m with u:={m.u with au:=z}} q (w.setCell ⟨k.g,4,none⟩ (.string (ah z))):=⟨heap_setCell_same w k.g 4 _ _ _ h.row,gQ h.own (iP h.row h.own),h.bF.setCell h.le _,h.le⟩
theorem MX.aai (h:MX k m q w) (z:List UInt8):MX k {m with u:={m.u with bU:=z}} q (w.setCell ⟨k.g,5,none⟩ (.string (ah z))):=⟨heap_setCell_same w k.g 5 _ _ _ h.row,gQ h.own (iP h.row h.own),h.bF.setCell h.le _,h.le⟩
theorem MX.aah (h:MX k m q w) (z:List UInt8):MX k {m with u:={m.u with bW:=z}} q (w.setCell ⟨k.g,6,none⟩ (.string (ah z))):=⟨heap_setCell_same w k.g 6 _ _ _ h.row,gQ h.own (iP h.row h.own),h.bF.setCell h.le _,h.le⟩
theorem MX.rJ (h:MX k m q w) (z:List UInt8):MX k {m with u:={m.u with aU:=z}} q (w.setCell ⟨k.g,7,none⟩ (.string (ah z))):=⟨heap_setCell_same w k.g 7 _ _ _ h.row,gQ h.own (iP h.row h.own),h.bF.setCell h.le _,h.le⟩
theorem MX.TF (h:MX k m q w) (z:Bool):MX k {m with u:={m.u with hh:=z}} q (w.setCell ⟨k.g,8,none⟩ (.bool z)):=⟨heap_setCell_same w k.g 8 _ _ _ h.row,gQ h.own (iP h.row h.own),h.bF.setCell h.le _,h.le⟩
theorem MX.JR (h:MX k m q w) (z:Int):MX k {m with u:={m.u with port:=z}} q (w.setCell ⟨k.g,9,none⟩ (.int .i64 z)):=⟨heap_setCell_same w k.g 9 _ _ _ h.row,gQ h.own (iP h.row h.own),h.bF.setCell h.le _,h.le⟩
theorem MX.Xa (h:MX k m q w) (z:Bool):MX k {m with u:={m.u with dF:=z}} q (w.setCell ⟨k.g,10,none⟩ (.bool z)):=⟨heap_setCell_same w k.g 10 _ _ _ h.row,gQ h.own (iP h.row h.own),h.bF.setCell h.le _,h.le⟩
theorem MX.Xb (h:MX k m q w) (z:List UInt8):MX k {m with u:={m.u with txt:=z}} q (w.setCell ⟨k.g,11,none⟩ (.string (ah z))):=⟨heap_setCell_same w k.g 11 _ _ _ h.row,gQ h.own (iP h.row h.own),h.bF.setCell h.le _,h.le⟩
theorem MX.Nl (h:MX k m q w) (z:Bool):MX k {m with u:={m.u with hq:=z}} q (w.setCell ⟨k.g,13,none⟩ (.bool z)):=⟨heap_setCell_same w k.g 13 _ _ _ h.row,gQ h.own (iP h.row h.own),h.bF.setCell h.le _,h.le⟩
theorem MX.afa (h:MX k m q w) (z:Bool):MX k {m with u:={m.u with hf:=z}} q (w.setCell ⟨k.g,14,none⟩ (.bool z)):=⟨heap_setCell_same w k.g 14 _ _ _ h.row,gQ h.own (iP h.row h.own),h.bF.setCell h.le _,h.le⟩
theorem MX.vM (h:MX k m q w) (z:List UInt8):MX k {m with u:={m.u with bQ:=z}} q (w.setCell ⟨k.g,15,none⟩ (.string (ah z))):=⟨heap_setCell_same w k.g 15 _ _ _ h.row,gQ h.own (iP h.row h.own),h.bF.setCell h.le _,h.le⟩
theorem MX.aag (h:MX k m q w) (z:List UInt8):MX k {m with u:={m.u with eX:=z}} q (w.setCell ⟨k.g,16,none⟩ (.string (ah z))):=⟨heap_setCell_same w k.g 16 _ _ _ h.row,gQ h.own (iP h.row h.own),h.bF.setCell h.le _,h.le⟩
end fJ
namespace ac4
open Go.RowKit Base bC
theorem one_row (c:UInt8) (w:World):dP (w.alloc (.cells #[.int .u8 (c.toNat:Int)] 5)) (some ⟨w.heap.size,0,none⟩) 1 (aQ [c]):=iR w [c] 5 (0,0)
end ac4
namespace vN
open Go.RowKit Base jX
theorem adi (g:Nat) (T:List UInt8) (j:Nat) (w:World) (c:w.cell? ⟨g,0,none⟩=some (.string (ah T))) (a:w.cell? ⟨g,1,none⟩=some (.int .i64 (j:Int))):
  Calls prog 28 #[.pointer (some ⟨g,0,none⟩)] w fun e w'=>e=.returned (.bool (decide ((T.length:Int)≤(j:Int))))∧Below w.heap.size w w':=by
 have z:(ah T).size=T.length:=ak T;go_enter func28,ntmps28;go_wp2
 go_quiet (fail)
 go_wp2;go_ret;exact⟨by first|rfl|simp,Base.below_drewN (Below.refl _ _) _⟩
theorem c_g (g:Nat) (T:List UInt8) (j:Nat) (w:World) (i:w.cell? ⟨g,0,none⟩=some (.string (ah T))) (q:w.cell? ⟨g,1,none⟩=some (.int .i64 (j:Int))):
  Calls prog 72 #[.pointer (some ⟨g,0,none⟩)] w fun e w'=>e=.returned (.int .u8 ((cc (T.drop j)).toNat:Int))∧Below w.heap.size w w':=by
 have z:(ah T).size=T.length:=ak T;by_cases h:T.length≤j
 ·have hi:(T.length:Int)≤(j:Int):=by omega
  have HC:Hid (cc (T.drop j)=0):=by show _=_;rw[List.drop_eq_nil_of_le h];rfl
  clear h;go_enter func72,ntmps72;go_wp2
  go_quiet (fail)
  go_wp2;go_ret;exact⟨by rw[HC.out];rfl,Base.below_drewN (Below.refl _ _) _⟩
 ·have d:j<T.length:=by omega
  have hi:¬(T.length:Int)≤(j:Int):=by omega
  have c:(j:Int)<(T.length:Int):=by omega
  obtain⟨x,hx⟩:∃x,x=T[j]:=⟨_,rfl⟩;have HC:Hid (cc (T.drop j)=x):=by show _=_;rw[List.drop_eq_getElem_cons d,hx];rfl
  obtain⟨X,a⟩:∃X,X=ah T:=⟨_,rfl⟩;have l:j<X.size:=by rw[a,z];exact d
  have f:(j:Int)<(X.size:Int):=by omega
  have sN:¬(X.size:Int)≤(j:Int):=by omega
  have k:X[j]=x:=by subst a;rw[hx];rfl
  rw[←a]at i;clear h a hx hi c z d;go_enter func72,ntmps72;go_wp2
  go_quiet (fail)
  have r:∀n,(w.drewN n).cell? ⟨g,0,none⟩=some (.string X):=fun n=>i;have m:∀n,(w.drewN n).cell? ⟨g,1,none⟩=some (.int .i64 (j:Int)):=fun n=>q;go_wp2
  go_quiet (fail)
  go_wp2;go_ret;exact⟨by rw[HC.out];first|rfl|simp,by first|exact Base.below_drewN (Base.below_drewN (Below.refl _ _) _) _|exact Base.below_drewN (Below.refl _ _) _⟩
end vN
namespace vW
open Go.RowKit Base bC gV jX fJ vN
variable {k:K} {m:M} {q:Value} {w:World} {j:Nat} {R:List UInt8}
theorem zB (c:UInt8) (n:Nat) (h:n<256:=by decide):decide (c=UInt8.ofNat n)=decide (c.toNat=n):=by
 rw[Bool.eq_iff_iff];simp only[decide_eq_true_eq];constructor
 ·rintro rfl;exact UInt8.toNat_ofNat_of_lt h
 intro e;exact UInt8.toNat_inj.1 (e.trans (UInt8.toNat_ofNat_of_lt h).symm)
theorem UO (h:MX k m q w) (a:m.p=(j:Int)) (d:k.T.drop j=R):Calls prog 28 #[.pointer (some ⟨k.g,0,none⟩)] w fun e w'=>e=.returned (.bool (decide (R=[])))∧Below w.heap.size w w':=by
 obtain⟨i,f,_⟩:=h.facts;refine(adi k.g k.T j w i (a▸f)).mono ?_;rintro e w' ⟨rfl,c⟩;refine⟨?_,c⟩;have e:decide ((k.T.length:Int)≤(j:Int))=decide (R=[]):=by
  rw[←d,Bool.eq_iff_iff];simp only[decide_eq_true_eq,List.drop_eq_nil_iff];omega
 rw[e]
theorem ZG (h:MX k m q w) (a:m.p=(j:Int)) (c:k.T.drop j=R):Calls prog 72 #[.pointer (some ⟨k.g,0,none⟩)] w fun e w'=>e=.returned (.int .u8 ((cc R).toNat:Int))∧Below w.heap.size w w':=by
 obtain⟨f,d,_⟩:=h.facts;exact c▸c_g k.g k.T j w f (a▸d)
theorem Cc (h:MX k m q w):Calls prog 80 #[.pointer (some ⟨k.g,0,none⟩)] w fun e w'=>e=.returned (.bool (sp m))∧Below w.heap.size w w':=by
 obtain⟨_,_,_,_,d,_⟩:=h.facts;obtain⟨S,c⟩:∃S,S=ah m.u.au:=⟨_,rfl⟩;have f:Hid (aj S.data.toList=sp m):=by show _=_;rw[c];rfl
 obtain⟨g,a⟩:∃g,g=k.g:=⟨_,rfl⟩;rw[←c,←a]at d;rw[←a];rename_i x0 x1 x2 x3 x4;clear h c a x0 x1 x2 x3 x4;go_enter func80,ntmps80;go_wp2_with fail
 refine(Df S w).mono ?_;rintro e i ⟨rfl,rfl⟩;go_wp2;go_ret;exact⟨by rw[f.out];rfl,Below.refl _ _⟩
theorem abE (h:MX k m q w) (r:m.p=(j:Int)) (t:k.T.drop j=R):
  Calls prog 159 #[.pointer (some ⟨k.g,0,none⟩)] w fun e w'=>e=.returned (.bool (bV R))∧Below w.heap.size w w':=by
 have y:Hid (∀w',Below w.heap.size w w'→Calls prog 28 #[.pointer (some ⟨k.g,0,none⟩)] w' fun e i=>e=.returned (.bool (decide (R=[])))∧Below w'.heap.size w' i):=fun w' f=>UO (h.below f) r t;have HC:Hid (∀w',Below w.heap.size w w'→Calls prog 72 #[.pointer (some ⟨k.g,0,none⟩)] w' fun e i=>e=.returned (.int .u8 ((cc R).toNat:Int))∧Below w'.heap.size w' i):=fun w' f=>ZG (h.below f) r t;have E:Hid (∀w',Below w.heap.size w w'→Calls prog 80 #[.pointer (some ⟨k.g,0,none⟩)] w' fun e i=>e=.returned (.bool (sp m))∧Below w'.heap.size w' i):=fun w' f=>Cc (h.below f);obtain⟨b,f⟩:∃b,b=decide (R=[]):=⟨_,rfl⟩;obtain⟨v,n⟩:∃v,v=(cc R).toNat:=⟨_,rfl⟩;obtain⟨s,x⟩:∃s,s=sp m:=⟨_,rfl⟩;obtain⟨g,l⟩:∃g,g=k.g:=⟨_,rfl⟩;rw[←f,←l]at y;rw[←n,←l]at HC;rw[←x,←l]at E;rw[←l];have z:Hid (bV R=(b||(decide (v=63)||decide (v=35)))):=by
  show _=_;rw[f,n]
  match R with
  |[]=>rfl
  |c::L=>show(decide (c=63)||decide (c=35))=(decide (c.toNat=63)||decide (c.toNat=35));rw[←zB c 63,←zB c 35];rfl
 rcases b with _|_
 ·by_cases h63:v=63
  ·subst h63;rw[show bV R=true from z.out];clear f n x l h r t;go_enter func159,ntmps159;go_wp2_with fail
   refine(y _ (Below.refl _ _)).mono ?_;rintro A i ⟨rfl,a⟩;have d:=hid a;clear a;go_wp2_with fail
   refine pz d (HC _ d) fun w3 HB3=>?_;go_wp2;go_ret;exact⟨aC (by first|rfl|simp[*]),HB3⟩
  ·by_cases h35:v=35
   ·subst h35;rw[show bV R=true from z.out];clear f n x l h r t;go_enter func159,ntmps159;go_wp2_with fail
    refine(y _ (Below.refl _ _)).mono ?_;rintro A i ⟨rfl,a⟩;have d:=hid a;clear a;go_wp2_with fail
    refine pz d (HC _ d) fun w3 HB3=>?_;go_wp2_with fail
    refine pz HB3 (HC _ HB3) fun w4 HB4=>?_;go_wp2;go_ret;exact⟨aC (by first|rfl|simp[*]),HB4⟩
   ·have B:Hid (bV R=false):=by show _=_;rw[z.out,decide_eq_false h63,decide_eq_false h35];rfl
    rw[B.out];have C:¬(v:Int)=63:=by omega
    have D:¬(v:Int)=35:=by omega
    clear f n x l h r t;go_enter func159,ntmps159;go_wp2_with fail
    refine(y _ (Below.refl _ _)).mono ?_;rintro A i ⟨rfl,a⟩;have d:=hid a;clear a;go_wp2_with fail
    refine pz d (HC _ d) fun w3 HB3=>?_;go_wp2_with fail
    refine pz HB3 (HC _ HB3) fun w4 HB4=>?_;go_wp2;go_ret;exact⟨aC (by first|rfl|simp[*]),HB4⟩
 ·rw[show bV R=true from z.out];clear f n x l h r t;go_enter func159,ntmps159;go_wp2_with fail
  refine(y _ (Below.refl _ _)).mono ?_;rintro A i ⟨rfl,a⟩;have d:=hid a;clear a;go_wp2;go_ret;exact⟨aC (by first|rfl|simp[*]),d⟩
theorem Y3 (h:MX k m q w) (t:m.p=(j:Int)) (x:k.T.drop j=R):
  Calls prog 81 #[.pointer (some ⟨k.g,0,none⟩)] w fun e w'=>e=.returned (.bool (kM (sp m) R))∧Below w.heap.size w w':=by
 have z:Hid (∀w',Below w.heap.size w w'→Calls prog 28 #[.pointer (some ⟨k.g,0,none⟩)] w' fun e i=>e=.returned (.bool (decide (R=[])))∧Below w'.heap.size w' i):=fun w' f=>UO (h.below f) t x;have HC:Hid (∀w',Below w.heap.size w w'→Calls prog 72 #[.pointer (some ⟨k.g,0,none⟩)] w' fun e i=>e=.returned (.int .u8 ((cc R).toNat:Int))∧Below w'.heap.size w' i):=fun w' f=>ZG (h.below f) t x;have C:Hid (∀w',Below w.heap.size w w'→Calls prog 80 #[.pointer (some ⟨k.g,0,none⟩)] w' fun e i=>e=.returned (.bool (sp m))∧Below w'.heap.size w' i):=fun w' f=>Cc (h.below f);obtain⟨b,f⟩:∃b,b=decide (R=[]):=⟨_,rfl⟩;obtain⟨v,n⟩:∃v,v=(cc R).toNat:=⟨_,rfl⟩;obtain⟨s,r⟩:∃s,s=sp m:=⟨_,rfl⟩;obtain⟨g,l⟩:∃g,g=k.g:=⟨_,rfl⟩;rw[←f,←l]at z;rw[←n,←l]at HC;rw[←r,←l]at C;rw[←l];have A:Hid (kM (sp m) R=(!b&&(decide (v=47)||(s&&decide (v=92))))):=by
  show _=_;rw[f,n,r]
  match R with
  |[]=>rfl
  |c::L=>show(decide (c=47)||(sp m&&decide (c=92)))=(decide (c.toNat=47)||(sp m&&decide (c.toNat=92)));rw[←zB c 47,←zB c 92];rfl
 rcases b with _|_
 ·by_cases h47:v=47
  ·subst h47;rw[show kM (sp m) R=true from A.out];clear f n r l h t x;go_enter func81,ntmps81;go_wp2_with fail
   refine(z _ (Below.refl _ _)).mono ?_;rintro B i ⟨rfl,a⟩;have d:=hid a;clear a;go_wp2_with fail
   refine pz d (HC _ d) fun w3 HB3=>?_;go_wp2;go_ret;exact⟨aC (by first|rfl|simp[*]),HB3⟩
  ·have E:¬(v:Int)=47:=by omega
   rcases s with _|_
   ·have y:Hid (kM (sp m) R=false):=by show _=_;rw[A.out,decide_eq_false h47];rfl
    rw[y.out];clear f n r l h t x;go_enter func81,ntmps81;go_wp2_with fail
    refine(z _ (Below.refl _ _)).mono ?_;rintro B i ⟨rfl,a⟩;have d:=hid a;clear a;go_wp2_with fail
    refine pz d (HC _ d) fun w3 HB3=>?_;go_wp2_with fail
    refine pz HB3 (C _ HB3) fun w4 HB4=>?_;go_wp2;go_ret;exact⟨aC (by first|rfl|simp[*]),HB4⟩
   ·by_cases h92:v=92
    ·subst h92;rw[show kM (sp m) R=true from A.out];clear f n r l h t x;go_enter func81,ntmps81;go_wp2_with fail
     refine(z _ (Below.refl _ _)).mono ?_;rintro B i ⟨rfl,a⟩;have d:=hid a;clear a;go_wp2_with fail
     refine pz d (HC _ d) fun w3 HB3=>?_;go_wp2_with fail
     refine pz HB3 (C _ HB3) fun w4 HB4=>?_;go_wp2_with fail
     refine pz HB4 (HC _ HB4) fun w5 HB5=>?_;go_wp2;go_ret;exact⟨aC (by first|rfl|simp[*]),HB5⟩
    ·have y:Hid (kM (sp m) R=false):=by show _=_;rw[A.out,decide_eq_false h47,decide_eq_false h92];rfl
     rw[y.out];have D:¬(v:Int)=92:=by omega
     clear f n r l h t x;go_enter func81,ntmps81;go_wp2_with fail
     refine(z _ (Below.refl _ _)).mono ?_;rintro B i ⟨rfl,a⟩;have d:=hid a;clear a;go_wp2_with fail
     refine pz d (HC _ d) fun w3 HB3=>?_;go_wp2_with fail
     refine pz HB3 (C _ HB3) fun w4 HB4=>?_;go_wp2_with fail
     refine pz HB4 (HC _ HB4) fun w5 HB5=>?_;go_wp2;go_ret;exact⟨aC (by first|rfl|simp[*]),HB5⟩
 ·rw[show kM (sp m) R=false from A.out];clear f n r l h t x;go_enter func81,ntmps81;go_wp2_with fail
  refine(z _ (Below.refl _ _)).mono ?_;rintro B i ⟨rfl,a⟩;have d:=hid a;clear a;go_wp2;go_ret;exact⟨aC (by first|rfl|simp[*]),d⟩
theorem qJ (h:MX k m q w) (i:Nat):Calls prog 157 #[.pointer (some ⟨k.g,0,none⟩),.int .i64 (i:Int)] w fun e w'=>e=.returned (.string (ah (k.T.drop i)))∧Below w.heap.size w w':=by
 obtain⟨j,_⟩:=h.facts;obtain⟨S,a⟩:∃S,S=ah k.T:=⟨_,rfl⟩;have z:S.size=k.T.length:=by rw[a];exact ak _
 obtain⟨g,c⟩:∃g,g=k.g:=⟨_,rfl⟩;rw[←a,←c]at j;rw[←c];by_cases hi:k.T.length≤i
 ·have d:Hid (ah (k.T.drop i)=ah []):=by show _=_;rw[List.drop_eq_nil_of_le hi]
  have f:(S.size:Int)≤(i:Int):=by omega
  clear h a c hi z;go_enter func157,ntmps157;go_wp2;go_ret;exact⟨by rw[d.out];rfl,Below.refl _ _⟩
 have d:Hid (ah (k.T.drop i)=S.extract i S.size):=by show _=_;rw[a,aal.str_rest _ _ (by omega)]
 have f:¬(S.size:Int)≤(i:Int):=by omega
 have l:(i:Int)≤(S.size:Int):=by omega
 have q3:i≤S.size:=by omega
 clear h a c hi z;go_enter func157,ntmps157;go_wp2;go_ret;exact⟨by rw[d.out];first|rfl|simp,Below.refl _ _⟩
theorem iy (h:MX k m q w) (d: -4611686018427387904≤m.p∧m.p≤4611686018427387904) (s:Nat) (b:Bool):Calls prog 74 #[.pointer (some ⟨k.g,0,none⟩),.int .i64 (s:Int),.bool b] w fun e w'=>e=.returned (.tuple #[])∧MX k (mv m s b) q w'∧w.heap.size≤w'.heap.size:=by
 obtain⟨y,x,v,_⟩:=h.facts;have i:=hid h;have n:=h.thaw 1;have l:=h.thaw 2;obtain⟨g,c⟩:∃g,g=k.g:=⟨_,rfl⟩;obtain⟨p,a⟩:∃p,p=m.p:=⟨_,rfl⟩;rw[←a,←c]at x;rw[←c]at n l v;rw[←c];have r: -4611686018427387904≤p:=a▸d.1;have t:p≤4611686018427387904:=a▸d.2;have j:=hid c;have f:=hid a;clear c a h y d;rcases b with _|_
 ·go_enter func74,ntmps74;go_wp2
  go_end0
  obtain rfl:=j.out;obtain rfl:=f.out;exact⟨rfl,i.st s,by rw[World.size_setCell];exact Nat.le_refl _⟩
 go_enter func74,ntmps74;go_wp2
 go_end0
 obtain rfl:=j.out;obtain rfl:=f.out;exact⟨rfl,(i.st s).p (m.p - 1),by rw[World.size_setCell,World.size_setCell];exact Nat.le_refl _⟩
end vW
