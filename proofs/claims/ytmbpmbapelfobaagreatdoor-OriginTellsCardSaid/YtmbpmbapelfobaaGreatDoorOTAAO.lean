/- Lemmas. -/
import Derived.Test.YtmbpmbapelfobaaGreatDoorOTAAN
import Derived.Laws.CopyRow
import Derived.Deep.WholeRow
set_option linter.unusedSimpArgs false
set_option linter.unusedVariables false
set_option maxRecDepth 100000
set_option maxHeartbeats 64000000
namespace Go.Proofs.YtmbpmbapelfobaaGreatDoor
open Tryz
namespace Ulw
open Go.RowKit Base pJ aC qB kS vJ AY AZ nO
structure Env (w:World):Prop where
 pow:Tab.Pow w
 lad:pK w
 max:Max w
 G9:sN w
theorem Env.below {w w':World} (h:Env w) (a:Below w.heap.size w w'):Env w':=⟨cO h.pow a,h.lad.below a,h.max.below a,h.G9.below a⟩
structure Pt (w:World) (u:U) (A:Option Addr) (n c:Nat):Prop where
 aF:fK w u A n c
theorem Pt.below {w w':World} {u:U} {A:Option Addr} {n c:Nat} (h:Pt w u A n c) (a:Below w.heap.size w w'):Pt w' u A n c:=⟨qB.fK.below h.aF a⟩
theorem dl (s:ByteArray):s.data.toList.length=s.size:=Array.length_toList
theorem jg {T:ByteArray} {u:U} (d:aC.url T.data.toList none=some u) (a:T.size≤65536) (w:World) (E:Env w):Calls prog 5 #[.string T,.pointer none] w fun e w'=>∃A' n' c',e=.returned (.tuple #[.agg #[.string (ah u.au),.string (ah u.bT),.string (ah u.bW),.string (ah u.aS),.bool u.hh,.int .i64 u.port,.bool u.bP,.string (ah u.txt),.slice A' n' c',.bool u.hq,.bool u.hf,.string (ah u.bQ),.string (ah u.dY)],.int .i64 0])∧Pt w' u A' n' c'∧Below w.heap.size w w':=by
 have h:=Fq T.data.toList w (by rw[dl];exact a) E.lad E.pow E.max E.G9;rw[bF,d]at h;exact h.mono fun e w' ⟨h1,A,n,c,h2,h3⟩=>⟨A,n,c,h2,⟨h3.aF⟩,h1⟩
theorem yL {T:ByteArray} {u:U} (a:u=U0) (f:aC.url T.data.toList none=none) (d:T.size≤65536) (w:World) (E:Env w):Calls prog 5 #[.string T,.pointer none] w fun e w'=>∃A' n' c',e=.returned (.tuple #[.agg #[.string (ah u.au),.string (ah u.bT),.string (ah u.bW),.string (ah u.aS),.bool u.hh,.int .i64 u.port,.bool u.bP,.string (ah u.txt),.slice A' n' c',.bool u.hq,.bool u.hf,.string (ah u.bQ),.string (ah u.dY)],.int .i64 2])∧Pt w' u A' n' c'∧Below w.heap.size w w':=by
 subst a;have h:=Fq T.data.toList w (by rw[dl];exact d) E.lad E.pow E.max E.G9;rw[bF,f]at h;exact h.mono fun e w' ⟨h1,A,n,c,h2,h3⟩=>⟨A,n,c,h2,⟨h3.aF⟩,h1⟩
theorem BG {u:U} {N:Nat} (h:Fit u N) (c:N≤1073741824):(ah u.au).size≤1073741824∧(ah u.bT).size≤1073741824∧(ah u.bW).size≤1073741824∧(ah u.aS).size≤1073741824∧(ah u.txt).size≤1073741824∧(ah u.bQ).size≤1073741824∧(ah u.dY).size≤1073741824∧(bZ.aF u.aF).length≤1073741824:=by
 have a:=h.all;unfold nO.pl at a;simp only[ak];omega
end Ulw
namespace RP
open Go.RowKit Base aV Bc pJ aC qB rV kS nO Ulw Ee dJ
theorem OB.load {w:World} {g:Nat} {s h:ByteArray} {p n:Int} (x:OB w g s h p n):(loadVar 32 ⟨g,0,none⟩).run prog w=.ok (.agg #[.string s,.string h,.int .i64 p,.int .i64 n]) w:=
 run_loadVar_row w g _ _ #[.string s,.string h,.int .i64 p,.int .i64 n] (0,0) _ x underlying32 rfl (by kernel_rfl)
theorem nG {w:World} {g:Nat} {s h:ByteArray} {p n:Int} {f:Func} {a b:Tmp} (i:f.results=#[.cell a 32,.tmp b]) (j:OB w g s h p n) (ok:Bool) (c:Array Value) (l:c.getD a undef=.pointer (some ⟨g,0,none⟩)) (k:c.getD b undef=.bool ok):
  (results f c).run prog w=.ok (.tuple #[.agg #[.string s,.string h,.int .i64 p,.int .i64 n],.bool ok]) w:=by
 have e:c[a]?.getD undef=.pointer (some ⟨g,0,none⟩):=by simpa using l
 have d:c[b]?.getD undef=.bool ok:=by simpa using k
 simp[results,i,e,d,asAddr,OB.load j]
theorem OB.row {w:World} {g:Nat} {s h:ByteArray} {p n:Int} (x:OB w g s h p n) (a e:ByteArray) (c d:Int):OB (w.setRow g #[.string a,.string e,.int .i64 c,.int .i64 d]) g a e c d:=setRow_heap w g _ _ _ (0,0) x
theorem fP {w:World} {g:Nat} {s h:ByteArray} {p n:Int} {ops:Array Oper} {rest:List Oper} {o:Oper} {a:Act} {Q:Exit→Act→World→Prop} (l:OB w g s h p n) (c i:ByteArray) (d e:Int) (x y:Operand) (k:o.op=.store 32 x y) (f:o.guard=none)
  (hx:a.eval x=.pointer (some ⟨g,0,none⟩)) (j:a.eval y=.agg #[.string c,.string i,.int .i64 d,.int .i64 e])
  (hh:wpList prog ops Q rest (a.put o.dst undef) (w.setRow g #[.string c,.string i,.int .i64 d,.int .i64 e])):wpList prog ops Q (o::rest) a w:=
 wpList_store_row f 32 x y k g #[.string c,.string i,.int .i64 d,.int .i64 e] hx j 32 #[.string s,.string h,.int .i64 p,.int .i64 n] l (by kernel_rfl) rfl (by simp[Value.oneCell']) hh
theorem MB (u:U) (A:Option Addr) (n c:Nat) (w:World) (g:u.au=[104,116,116,112]∨u.au=[104,116,116,112,115]):Calls prog 7 #[.agg #[.string (ah u.au),.string (ah u.bT),.string (ah u.bW),.string (ah u.aS),.bool u.hh,.int .i64 u.port,.bool u.bP,.string (ah u.txt),.slice A n c,.bool u.hq,.bool u.hf,.string (ah u.bQ),.string (ah u.dY)]] w fun e w'=>e=.returned (.tuple #[.agg #[.string (ah u.au),.string (ah u.aS),.int .i64 u.port,.int .i64 0],.bool true])∧Below w.heap.size w w':=by
 rcases g with g|g
 ·
  have a:¬u.au=[102,116,112]:=by rw[g];decide
  have i:((ah u.au).toList==[102,116,112])=false:=by rw[ay,beq_eq_false_iff_ne];exact a
  have h:¬(ah u.au).toList=[102,116,112]:=by rw[ay];exact a
  have r:((ah u.au).toList==[104,116,116,112])=true:=by rw[ay,g];first|done|rfl
  have m:(ah u.au).toList=[104,116,116,112]:=by rw[ay,g];first|done|rfl
  clear g a;go_enter func7,ntmps7;go_upto_region 1 with(fail)
  generalize hwa:World.alloc (World.alloc w _) _=v1;have d:UB v1 w.heap.size u (.slice A n c)∧OB v1 (w.heap.size+1) ⟨#[]⟩ ⟨#[]⟩ 0 0∧Below w.heap.size w v1:=by
   subst hwa;exact jC w _ _ _ _
  clear hwa;have y:=hid d.1;have s:=hid d.2.1;have k:=d.2.2;clear d;have j:=hid k;clear k;obtain⟨J,I,H,G,F,E,D,C,B,z,x,v,t⟩:=y.facts;go_wp2_with (refine fP s (ah u.au) (ah u.aS) u.port 0 (.tmp 2) (.tmp 20) rfl rfl rfl (by first|rfl|(simp[*];done)) ?_)
  exact bodyPost_ret (w:=World.setRow v1 (w.heap.size+1) #[.string (ah u.au),.string (ah u.aS),.int .i64 u.port,.int .i64 0]) (nG rfl (OB.row s _ _ _ _) true _ rfl rfl) rfl ⟨rfl,below_setRow j (Nat.le_succ _) _⟩
 ·
  have a:¬u.au=[102,116,112]:=by rw[g];decide
  have i:((ah u.au).toList==[102,116,112])=false:=by rw[ay,beq_eq_false_iff_ne];exact a
  have h:¬(ah u.au).toList=[102,116,112]:=by rw[ay];exact a
  have f:¬u.au=[104,116,116,112]:=by rw[g];decide
  have q:((ah u.au).toList==[104,116,116,112])=false:=by rw[ay,beq_eq_false_iff_ne];exact f
  have l:¬(ah u.au).toList=[104,116,116,112]:=by rw[ay];exact f
  have r:((ah u.au).toList==[104,116,116,112,115])=true:=by rw[ay,g];first|done|rfl
  have m:(ah u.au).toList=[104,116,116,112,115]:=by rw[ay,g];first|done|rfl
  clear g a f;go_enter func7,ntmps7;go_upto_region 1 with(fail)
  generalize hwa:World.alloc (World.alloc w _) _=v1;have d:UB v1 w.heap.size u (.slice A n c)∧OB v1 (w.heap.size+1) ⟨#[]⟩ ⟨#[]⟩ 0 0∧Below w.heap.size w v1:=by
   subst hwa;exact jC w _ _ _ _
  clear hwa;have y:=hid d.1;have s:=hid d.2.1;have k:=d.2.2;clear d;have j:=hid k;clear k;obtain⟨J,I,H,G,F,E,D,C,B,z,x,v,t⟩:=y.facts;go_wp2_with (refine fP s (ah u.au) (ah u.aS) u.port 0 (.tmp 2) (.tmp 20) rfl rfl rfl (by first|rfl|(simp[*];done)) ?_)
  exact bodyPost_ret (w:=World.setRow v1 (w.heap.size+1) #[.string (ah u.au),.string (ah u.aS),.int .i64 u.port,.int .i64 0]) (nG rfl (OB.row s _ _ _ _) true _ rfl rfl) rfl ⟨rfl,below_setRow j (Nat.le_succ _) _⟩
theorem DY (u v:U) (T:ByteArray) (A:Option Addr) (n c:Nat) (w:World) (j:u.au=[98,108,111,98]) (a1:Hid (∀w:World,Pt w u A n c→Calls prog 18 #[.agg #[.string (ah u.au),.string (ah u.bT),.string (ah u.bW),.string (ah u.aS),.bool u.hh,.int .i64 u.port,.bool u.bP,.string (ah u.txt),.slice A n c,.bool u.hq,.bool u.hf,.string (ah u.bQ),.string (ah u.dY)]] w fun e w'=>e=.returned (.string T)∧Below w.heap.size w w')) (HP:Hid (∀w,Env w→Calls prog 5 #[.string T,.pointer none] w fun e w'=>∃A' n' c',e=.returned (.tuple #[.agg #[.string (ah v.au),.string (ah v.bT),.string (ah v.bW),.string (ah v.aS),.bool v.hh,.int .i64 v.port,.bool v.bP,.string (ah v.txt),.slice A' n' c',.bool v.hq,.bool v.hf,.string (ah v.bQ),.string (ah v.dY)],.int .i64 0])∧Pt w' v A' n' c'∧Below w.heap.size w w')) (z:v.au=[104,116,116,112,115]) (hE:Env w) (hP:Pt w u A n c):Calls prog 7 #[.agg #[.string (ah u.au),.string (ah u.bT),.string (ah u.bW),.string (ah u.aS),.bool u.hh,.int .i64 u.port,.bool u.bP,.string (ah u.txt),.slice A n c,.bool u.hq,.bool u.hf,.string (ah u.bQ),.string (ah u.dY)]] w fun e w'=>e=.returned (.tuple #[.agg #[.string (ah v.au),.string (ah v.aS),.int .i64 v.port,.int .i64 0],.bool true])∧Below w.heap.size w w':=by
 have h:¬u.au=[102,116,112]:=by rw[j];decide
 have N:((ah u.au).toList==[102,116,112])=false:=by rw[ay,beq_eq_false_iff_ne];exact h
 have J:¬(ah u.au).toList=[102,116,112]:=by rw[ay];exact h
 have f:¬u.au=[104,116,116,112]:=by rw[j];decide
 have C:((ah u.au).toList==[104,116,116,112])=false:=by rw[ay,beq_eq_false_iff_ne];exact f
 have B:¬(ah u.au).toList=[104,116,116,112]:=by rw[ay];exact f
 have a:¬u.au=[104,116,116,112,115]:=by rw[j];decide
 have x:((ah u.au).toList==[104,116,116,112,115])=false:=by rw[ay,beq_eq_false_iff_ne];exact a
 have t:¬(ah u.au).toList=[104,116,116,112,115]:=by rw[ay];exact a
 have l:¬u.au=[119,115]:=by rw[j];decide
 have W:((ah u.au).toList==[119,115])=false:=by rw[ay,beq_eq_false_iff_ne];exact l
 have V:¬(ah u.au).toList=[119,115]:=by rw[ay];exact l
 have g:¬u.au=[119,115,115]:=by rw[j];decide
 have L:((ah u.au).toList==[119,115,115])=false:=by rw[ay,beq_eq_false_iff_ne];exact g
 have I:¬(ah u.au).toList=[119,115,115]:=by rw[ay];exact g
 have b6:((ah u.au).toList==[98,108,111,98])=true:=by rw[ay,j];first|done|rfl
 have b0:(ah u.au).toList=[98,108,111,98]:=by rw[ay,j];first|done|rfl
 have P:¬v.au=[104,116,116,112]:=by rw[z];decide
 have b3:((ah v.au).toList==[104,116,116,112])=false:=by rw[ay,beq_eq_false_iff_ne];exact P
 have a8:¬(ah v.au).toList=[104,116,116,112]:=by rw[ay];exact P
 have b5:((ah v.au).toList==[104,116,116,112,115])=true:=by rw[ay,z];first|done|rfl
 have a9:(ah v.au).toList=[104,116,116,112,115]:=by rw[ay,z];first|done|rfl
 have a2:Hid (∀(A:Option Addr) (n c:Nat) (w:World),Calls prog 7 #[.agg #[.string (ah v.au),.string (ah v.bT),.string (ah v.bW),.string (ah v.aS),.bool v.hh,.int .i64 v.port,.bool v.bP,.string (ah v.txt),.slice A n c,.bool v.hq,.bool v.hf,.string (ah v.bQ),.string (ah v.dY)]] w fun e w'=>e=.returned (.tuple #[.agg #[.string (ah v.au),.string (ah v.aS),.int .i64 v.port,.int .i64 0],.bool true])∧Below w.heap.size w w'):=fun A n c w=>MB v A n c w (.inr z);have HE:=hid hE;have a0:=hid hP;clear j z P hE hP h f a l g;go_enter func7,ntmps7;go_upto_region 1 with(fail)
 generalize hwa:World.alloc (World.alloc w _) _=v1;have i:UB v1 w.heap.size u (.slice A n c)∧OB v1 (w.heap.size+1) ⟨#[]⟩ ⟨#[]⟩ 0 0∧Below w.heap.size w v1:=by
  subst hwa;exact jC w _ _ _ _
 clear hwa;have X1:=hid i.1;have X2:=hid i.2.1;have d:=i.2.2;clear i;have s:=hid d;clear d;have H:=hid (HE.below s);have G:=hid (a0.below s);obtain⟨d0,d1,d2,d3,d4,d5,d6,Z,Y,X,r,q,m⟩:=X1.facts;go_wp2_with fail
 clear d0 d1 d2 d3 d4 d5 d6 Z Y X r q m;refine(a1 _ G).mono ?_;rintro e w2 ⟨rfl,d⟩;have a6:=hid (bD s d);have F:=hid (X2.below d);have a7:=hid (H.below d);clear d;go_wp2_with fail
 refine(HP _ a7).mono ?_;rintro e O ⟨A2,n2,c2,rfl,Q,d⟩;have a5:=hid (bD a6 d);have E:=hid (F.below d);clear d;clear Q;go_upto_region 10 with(fail)
 generalize hwa:World.alloc _ _=v4;have y:UB v4 (O.heap.size) v (.slice A2 n2 c2):=by rw[←hwa];exact heap_alloc_new _ _
 have d:Below O.heap.size O v4:=by rw[←hwa];exact(Below.refl _ _).alloc (Nat.le_refl _) _
 have X3:=hid y;clear hwa y;have a4:=hid (bD a5 d);have D:=hid (E.below d);clear d;obtain⟨d0,d1,d2,d3,d4,d5,d6,Z,Y,X,r,q,m⟩:=X3.facts;go_wp2_with fail
 clear d0 d1 d2 d3 d4 d5 d6 Z Y X r q m;refine(a2 _ _ _ _).mono ?_;rintro e w5 ⟨rfl,d⟩;have a3:=hid (bD a4 d);have k:=hid (D.below d);clear d;go_wp2_with (refine fP k (ah v.au) (ah v.aS) v.port 0 (.tmp 2) (.tmp 43) rfl rfl rfl rfl ?_)
 exact bodyPost_ret (w:=World.setRow w5 (w.heap.size+1) #[.string (ah v.au),.string (ah v.aS),.int .i64 v.port,.int .i64 0]) (nG rfl (OB.row k _ _ _ _) true _ rfl rfl) rfl ⟨rfl,below_setRow a3 (Nat.le_succ _) _⟩
theorem ZX (s h:List UInt8) (p n:Int) (w:World) (T:s≠[]) (J:s.length≤1000) (L:h.length≤100000) (h0:0≤p) (h1:p≤65535) (G:Tab.Pow w):Calls prog 10 #[.agg #[.string (ah s),.string (ah h),.int .i64 p,.int .i64 n]] w fun e w'=>e=.returned (.string (ah (s++[58,47,47]++h++[58]++Lib.itoa p)))∧Below w.heap.size w w':=by
 have A:=Bc.EX p (by omega) (by omega);have O:Hid (∀w:World,Calls prog 9 #[.agg #[.string (ah s),.string (ah h),.int .i64 p,.int .i64 n]] w fun e w'=>e=.returned (.bool true)∧Below w.heap.size w w'):=fun w=>by
  have hh:=nY (ah s) (ah h) p n w;rw[show decide ((ah s).data.toList≠[])=true from decide_eq_true T]at hh;exact hh
 obtain⟨I,H⟩:∃I,I=Lib.itoa p:=⟨_,rfl⟩;have P:Hid (∀w:World,Tab.Pow w→Calls prog 21 #[.int .i64 p] w fun e w'=>e=.returned (.string (ah I))∧Below w.heap.size w w'):=fun w G=>by rw[H];exact Bc.L8 p (by omega) (by omega) w G
 rw[←H];rw[←H]at A;obtain⟨E,j⟩:∃M,M=s++[58,47,47]:=⟨_,rfl⟩;obtain⟨D,i⟩:∃M,M=E++h:=⟨_,rfl⟩;obtain⟨C,g⟩:∃M,M=D++[58]:=⟨_,rfl⟩;obtain⟨B,m⟩:∃M,M=C++I:=⟨_,rfl⟩;have l:s++[58,47,47]++h++[58]++I=B:=by rw[m,g,i,j]
 rw[l];have Y:E.length≤1003:=by rw[j,List.length_append];simp only[List.length_cons,List.length_nil];omega
 have X:D.length≤101003:=by rw[i,List.length_append];omega
 have W:C.length≤101004:=by rw[g,List.length_append];simp only[List.length_cons,List.length_nil];omega
 have x1:∀w,(Op.stringOp .add (ah s) ⟨#[58,47,47]⟩).run prog w=.ok (.string (ah E)) w:=fun w=>by rw[j];exact iO _ ⟨#[58,47,47]⟩ w (by rw[ak];show _+3≤_;omega)
 have x2:∀w,(Op.stringOp .add (ah E) (ah h)).run prog w=.ok (.string (ah D)) w:=fun w=>by rw[i];exact iO _ (ah h) w (by rw[ak,ak];omega)
 have x3:∀w,(Op.stringOp .add (ah D) ⟨#[58]⟩).run prog w=.ok (.string (ah C)) w:=fun w=>by rw[g];exact iO _ ⟨#[58]⟩ w (by rw[ak];show _+1≤_;omega)
 have x4:∀w,(Op.stringOp .add (ah C) (ah I)).run prog w=.ok (.string (ah B)) w:=fun w=>by rw[m];exact iO _ (ah I) w (by rw[ak,ak];omega)
 have HT:=hid G;have a0:(p== -1)=false:=beq_eq_false_iff_ne.2 (by omega);have Z:¬p= -1:=by omega
 clear l j i g m H Y X W A T J L h0 h1 G;go_enter func10,ntmps10;go_upto_region 1 with(fail)
 generalize hwa:World.alloc _ _=v1;have z:OB v1 (w.heap.size) (ah s) (ah h) p n:=by rw[←hwa];exact heap_alloc_new _ _
 have x:Below w.heap.size w v1:=by rw[←hwa];exact(Below.refl _ _).alloc (Nat.le_refl _) _
 have V:=hid z;clear hwa z;have Q:=hid x;clear x;obtain⟨v,r,q,o3⟩:=V.facts;go_wp2_with fail
 clear v r q o3;refine(O _).mono ?_;rintro e w2 ⟨rfl,x⟩;have F:=hid (bD Q x);have c:=hid (V.below x);clear x;obtain⟨v,r,q,o3⟩:=c.facts;go_upto_region 5 with(fail)
 clear v r q o3;refine dG (by kernel_rfl) [pg w.heap.size 0,is (.string (ah s)),is (.string (ah E)),pg w.heap.size 1,is (.string (ah h)),is (.string (ah D)),is (.string (ah C)),pg w.heap.size 2,is (.int .i64 p),is (.string (ah I)),is (.string (ah B)),is (.string (ah B))] [[],[0],[1],[],[3],[2,4],[5],[],[7],[8],[6,9],[10]] (by kernel_rfl) ?_ ?_
 ·refine⟨?_,?_,?_,?_,?_,?_,?_,?_,?_,?_,?_,?_,trivial⟩;all_goals(intro t y d hh K a;simp only[iQ,Act.put,Nat.reduceAdd,Nat.reduceEqDiff,reduceIte]at hh a⊢;(try simp only[hh]at a⊢);clear hh)
  ·go_simp;exact a _ _ aZ rfl
  ·obtain⟨v,r,q,o3⟩:=(c.below d).facts;go_simp;exact a _ _ aZ rfl
  ·have f:=x1 y;go_simp;exact a _ _ aZ rfl
  ·go_simp;exact a _ _ aZ rfl
  ·obtain⟨v,r,q,o3⟩:=(c.below d).facts;go_simp;exact a _ _ aZ rfl
  ·have f:=x2 y;go_simp;exact a _ _ aZ rfl
  ·have f:=x3 y;go_simp;exact a _ _ aZ rfl
  ·go_simp;exact a _ _ aZ rfl
  ·obtain⟨v,r,q,o3⟩:=(c.below d).facts;go_simp;exact a _ _ aZ rfl
  ·go_simp;refine(P _ (cO HT (bD F d))).mono ?_;rintro e w5 ⟨rfl,N⟩;exact a _ _ N rfl
  ·have f:=x4 y;go_simp;exact a _ _ aZ rfl
  go_simp;exact a _ _ aZ rfl
 intro t y d hh;have k:=aO hh 11 (by decide);simp only[pick]at k;replace k:t 11=(.string (ah B)):=k;clear hh;simp only[iQ,Act.put,Nat.reduceAdd,Nat.reduceEqDiff,reduceIte];simp only[k];go_wp2;go_ret;exact⟨rfl,bD F d⟩
def T13:List UInt8:=[98,108,111,98,58,104,116,116,112,115,58,47,47,97,58,56,52,52,51,47,120]
def I13:List UInt8:=[104,116,116,112,115,58,47,47,97,58,56,52,52,51,47,120]
theorem acg:((aC.url T13 none).map fun u=>(u.au,u.bP,u.txt))=some ([98,108,111,98],true,I13)∧((aC.url I13 none).map fun v=>(v.au,v.aS,v.port))=some ([104,116,116,112,115],[97],8443):=by decide+kernel
theorem Y5:∃u v,aC.url T13 none=some u∧u.au=[98,108,111,98]∧u.bP=true∧u.txt=I13∧aC.url I13 none=some v∧v.au=[104,116,116,112,115]∧v.aS=[97]∧v.port=8443:=by
 obtain⟨g,f⟩:=acg;obtain⟨u,e,c⟩:=Option.map_eq_some_iff.1 g;obtain⟨v,d,a⟩:=Option.map_eq_some_iff.1 f;simp only[Prod.mk.injEq]at c a;exact⟨u,v,e,c.1,c.2.1,c.2.2,d,a.1,a.2.1,a.2.2⟩
theorem adE:([104,116,116,112,115]:List UInt8)++[58,47,47]++[97]++[58]++Lib.itoa 8443=[104,116,116,112,115,58,47,47,97,58,56,52,52,51]:=by decide+kernel
theorem Sl (w:World) (hE:Env w):Calls prog 4 #[] w fun e w'=>e=.returned (.bool true)∧Below w.heap.size w w':=by
 obtain⟨u,v,N,h2,h3,h4,h5,L,h7,h8⟩:=Y5;have HE:=hid hE;have f1:=RG (M:=0) N (fun _ e=>by cases e);have Q:Hid (∀w,Env w→Calls prog 5 #[.string ⟨#[98,108,111,98,58,104,116,116,112,115,58,47,47,97,58,56,52,52,51,47,120]⟩,.pointer none] w fun e w'=>∃A' n' c',e=.returned (.tuple #[.agg #[.string (ah u.au),.string (ah u.bT),.string (ah u.bW),.string (ah u.aS),.bool u.hh,.int .i64 u.port,.bool u.bP,.string (ah u.txt),.slice A' n' c',.bool u.hq,.bool u.hf,.string (ah u.bQ),.string (ah u.dY)],.int .i64 0])∧Pt w' u A' n' c'∧Below w.heap.size w w'):=fun w E=>jg (T:=⟨#[98,108,111,98,58,104,116,116,112,115,58,47,47,97,58,56,52,52,51,47,120]⟩) N (by decide) w E;have V:Hid (∀(A:Option Addr) (n c:Nat) (w:World),Pt w u A n c→Env w→Calls prog 7 #[.agg #[.string (ah u.au),.string (ah u.bT),.string (ah u.bW),.string (ah u.aS),.bool u.hh,.int .i64 u.port,.bool u.bP,.string (ah u.txt),.slice A n c,.bool u.hq,.bool u.hf,.string (ah u.bQ),.string (ah u.dY)]] w fun e w'=>e=.returned (.tuple #[.agg #[.string (ah [104,116,116,112,115]),.string (ah [97]),.int .i64 8443,.int .i64 0],.bool true])∧Below w.heap.size w w'):=fun A n c w hP E=>by
  have h:=DY u v (ah I13) A n c w h2 (fun w hP=>by
   obtain⟨k1,k2,k3,k4,k5,k6,k7,k8⟩:=BG f1 (by decide);have hh:=YT.MH (ah u.au) (ah u.bT) (ah u.bW) (ah u.aS) u.hh u.port u.bP (ah u.txt) A n c u.aF u.hq u.hf (ah u.bQ) (ah u.dY) w hP.aF.1 hP.aF.2.1 hP.aF.2.2 k5 k8;rw[show bZ.kG u.bP (ah u.txt) u.aF=I13 from by rw[h3,h4];rfl]at hh;exact hh) (fun w E=>jg (T:=ah I13) h5 (by decide) w E) L E hP
  rw[L,h7,h8]at h;exact h
 have P:Hid (∀w:World,Tab.Pow w→Calls prog 10 #[.agg #[.string (ah [104,116,116,112,115]),.string (ah [97]),.int .i64 8443,.int .i64 0]] w fun e w'=>e=.returned (.string (ah [104,116,116,112,115,58,47,47,97,58,56,52,52,51]))∧Below w.heap.size w w'):=fun w hT=>by
  have h:=ZX [104,116,116,112,115] [97] 8443 0 w (by decide) (by decide) (by decide) (by decide) (by decide) hT;rw[adE]at h;exact h
 have O:Hid (∀w:World,Calls prog 9 #[.agg #[.string (ah [104,116,116,112,115]),.string (ah [97]),.int .i64 8443,.int .i64 0]] w fun e w'=>e=.returned (.bool true)∧Below w.heap.size w w'):=fun w=>nY (ah [104,116,116,112,115]) (ah [97]) 8443 0 w;have q1:(ah [104,116,116,112,115,58,47,47,97,58,56,52,52,51]).toList=[104,116,116,112,115,58,47,47,97,58,56,52,52,51]:=ay _;clear N h2 h3 h4 h5 L h7 h8 f1 hE;go_enter func4,ntmps4;go_wp2_with fail
 refine(Q _ HE).mono ?_;rintro e r ⟨A1,n1,c1,rfl,j,a⟩;have a0:=hid a;have a3:=hid (HE.below a);clear a;have T1:=hid (j);clear j;go_upto_region 2 with(fail)
 generalize hwa:World.alloc _ _=v2;have d:UB v2 (r.heap.size) u (.slice A1 n1 c1):=by rw[←hwa];exact heap_alloc_new _ _
 have a:Below r.heap.size r v2:=by rw[←hwa];exact(Below.refl _ _).alloc (Nat.le_refl _) _
 have X1:=hid d;clear hwa d;have Z:=hid (bD a0 a);have m:=hid (a3.below a);have l:=hid (T1.below a);clear a;obtain⟨J,I,H,G,F,D,C,B,z,y,i,g,f⟩:=X1.facts;go_wp2_with fail
 clear J I H G F D C B z y i g f;refine(V _ _ _ _ l m).mono ?_;rintro e q ⟨rfl,a⟩;have Y:=hid (bD Z a);have a2:=hid (m.below a);clear a;go_upto_region 3 with(fail)
 generalize hwa:World.alloc _ _=v4;have d:OB v4 (q.heap.size) (ah [104,116,116,112,115]) (ah [97]) 8443 0:=by rw[←hwa];exact heap_alloc_new _ _
 have a:Below q.heap.size q v4:=by rw[←hwa];exact(Below.refl _ _).alloc (Nat.le_refl _) _
 have X2:=hid d;clear hwa d;have X:=hid (bD Y a);have a1:=hid (a2.below a);clear a;obtain⟨x,t,s,o3⟩:=X2.facts;go_wp2_with fail
 clear x t s o3;refine(P _ a1.pow).mono ?_;rintro e w5 ⟨rfl,a⟩;have W:=hid (bD X a);have k:=hid (X2.below a);clear a;obtain⟨x,t,s,o3⟩:=k.facts;go_wp2_with fail
 clear x t s o3;refine qV W (O _) fun w6 HB6=>?_;go_wp2;go_ret;exact⟨rfl,HB6⟩
end RP
namespace RQ
open Go.RowKit Base aV aC qB rV Ulw Ee RP
def five (s:List UInt8):Prop:=s=[102,116,112]∨s=[104,116,116,112]∨s=[104,116,116,112,115]∨s=[119,115]∨s=[119,115,115]
theorem QZ (u:U) (A:Option Addr) (n c:Nat) (w:World) (h:five u.au):Calls prog 7 #[.agg #[.string (ah u.au),.string (ah u.bT),.string (ah u.bW),.string (ah u.aS),.bool u.hh,.int .i64 u.port,.bool u.bP,.string (ah u.txt),.slice A n c,.bool u.hq,.bool u.hf,.string (ah u.bQ),.string (ah u.dY)]] w fun e w'=>e=.returned (.tuple #[.agg #[.string (ah u.au),.string (ah u.aS),.int .i64 u.port,.int .i64 0],.bool true])∧Below w.heap.size w w':=by
 unfold five at h;rcases h with h|h|h|h|h
 ·
  have s:((ah u.au).toList==[102,116,112])=true:=by rw[ay,h];first|done|rfl
  have r:(ah u.au).toList=[102,116,112]:=by rw[ay,h];first|done|rfl
  clear h;go_enter func7,ntmps7;go_upto_region 1 with(fail)
  generalize hwa:World.alloc (World.alloc w _) _=v1;have a:UB v1 w.heap.size u (.slice A n c)∧OB v1 (w.heap.size+1) ⟨#[]⟩ ⟨#[]⟩ 0 0∧Below w.heap.size w v1:=by
   subst hwa;exact jC w _ _ _ _
  clear hwa;have C:=hid a.1;have t:=hid a.2.1;have q:=a.2.2;clear a;have k:=hid q;clear q;obtain⟨P,O,N,L,J,I,H,G,F,E,B,z,y⟩:=C.facts;go_wp2_with (refine fP t (ah u.au) (ah u.aS) u.port 0 (.tmp 2) (.tmp 20) rfl rfl rfl (by first|rfl|(simp[*];done)) ?_)
  exact bodyPost_ret (w:=World.setRow v1 (w.heap.size+1) #[.string (ah u.au),.string (ah u.aS),.int .i64 u.port,.int .i64 0]) (nG rfl (OB.row t _ _ _ _) true _ rfl rfl) rfl ⟨rfl,below_setRow k (Nat.le_succ _) _⟩
 ·
  have f:¬u.au=[102,116,112]:=by rw[h];decide
  have j:((ah u.au).toList==[102,116,112])=false:=by rw[ay,beq_eq_false_iff_ne];exact f
  have i:¬(ah u.au).toList=[102,116,112]:=by rw[ay];exact f
  have s:((ah u.au).toList==[104,116,116,112])=true:=by rw[ay,h];first|done|rfl
  have r:(ah u.au).toList=[104,116,116,112]:=by rw[ay,h];first|done|rfl
  clear h f;go_enter func7,ntmps7;go_upto_region 1 with(fail)
  generalize hwa:World.alloc (World.alloc w _) _=v1;have a:UB v1 w.heap.size u (.slice A n c)∧OB v1 (w.heap.size+1) ⟨#[]⟩ ⟨#[]⟩ 0 0∧Below w.heap.size w v1:=by
   subst hwa;exact jC w _ _ _ _
  clear hwa;have C:=hid a.1;have t:=hid a.2.1;have q:=a.2.2;clear a;have k:=hid q;clear q;obtain⟨P,O,N,L,J,I,H,G,F,E,B,z,y⟩:=C.facts;go_wp2_with (refine fP t (ah u.au) (ah u.aS) u.port 0 (.tmp 2) (.tmp 20) rfl rfl rfl (by first|rfl|(simp[*];done)) ?_)
  exact bodyPost_ret (w:=World.setRow v1 (w.heap.size+1) #[.string (ah u.au),.string (ah u.aS),.int .i64 u.port,.int .i64 0]) (nG rfl (OB.row t _ _ _ _) true _ rfl rfl) rfl ⟨rfl,below_setRow k (Nat.le_succ _) _⟩
 ·
  have f:¬u.au=[102,116,112]:=by rw[h];decide
  have j:((ah u.au).toList==[102,116,112])=false:=by rw[ay,beq_eq_false_iff_ne];exact f
  have i:¬(ah u.au).toList=[102,116,112]:=by rw[ay];exact f
  have d:¬u.au=[104,116,116,112]:=by rw[h];decide
  have m:((ah u.au).toList==[104,116,116,112])=false:=by rw[ay,beq_eq_false_iff_ne];exact d
  have l:¬(ah u.au).toList=[104,116,116,112]:=by rw[ay];exact d
  have s:((ah u.au).toList==[104,116,116,112,115])=true:=by rw[ay,h];first|done|rfl
  have r:(ah u.au).toList=[104,116,116,112,115]:=by rw[ay,h];first|done|rfl
  clear h f d;go_enter func7,ntmps7;go_upto_region 1 with(fail)
  generalize hwa:World.alloc (World.alloc w _) _=v1;have a:UB v1 w.heap.size u (.slice A n c)∧OB v1 (w.heap.size+1) ⟨#[]⟩ ⟨#[]⟩ 0 0∧Below w.heap.size w v1:=by
   subst hwa;exact jC w _ _ _ _
  clear hwa;have C:=hid a.1;have t:=hid a.2.1;have q:=a.2.2;clear a;have k:=hid q;clear q;obtain⟨P,O,N,L,J,I,H,G,F,E,B,z,y⟩:=C.facts;go_wp2_with (refine fP t (ah u.au) (ah u.aS) u.port 0 (.tmp 2) (.tmp 20) rfl rfl rfl (by first|rfl|(simp[*];done)) ?_)
  exact bodyPost_ret (w:=World.setRow v1 (w.heap.size+1) #[.string (ah u.au),.string (ah u.aS),.int .i64 u.port,.int .i64 0]) (nG rfl (OB.row t _ _ _ _) true _ rfl rfl) rfl ⟨rfl,below_setRow k (Nat.le_succ _) _⟩
 ·
  have f:¬u.au=[102,116,112]:=by rw[h];decide
  have j:((ah u.au).toList==[102,116,112])=false:=by rw[ay,beq_eq_false_iff_ne];exact f
  have i:¬(ah u.au).toList=[102,116,112]:=by rw[ay];exact f
  have d:¬u.au=[104,116,116,112]:=by rw[h];decide
  have m:((ah u.au).toList==[104,116,116,112])=false:=by rw[ay,beq_eq_false_iff_ne];exact d
  have l:¬(ah u.au).toList=[104,116,116,112]:=by rw[ay];exact d
  have g:¬u.au=[104,116,116,112,115]:=by rw[h];decide
  have x:((ah u.au).toList==[104,116,116,112,115])=false:=by rw[ay,beq_eq_false_iff_ne];exact g
  have v:¬(ah u.au).toList=[104,116,116,112,115]:=by rw[ay];exact g
  have s:((ah u.au).toList==[119,115])=true:=by rw[ay,h];first|done|rfl
  have r:(ah u.au).toList=[119,115]:=by rw[ay,h];first|done|rfl
  clear h f d g;go_enter func7,ntmps7;go_upto_region 1 with(fail)
  generalize hwa:World.alloc (World.alloc w _) _=v1;have a:UB v1 w.heap.size u (.slice A n c)∧OB v1 (w.heap.size+1) ⟨#[]⟩ ⟨#[]⟩ 0 0∧Below w.heap.size w v1:=by
   subst hwa;exact jC w _ _ _ _
  clear hwa;have C:=hid a.1;have t:=hid a.2.1;have q:=a.2.2;clear a;have k:=hid q;clear q;obtain⟨P,O,N,L,J,I,H,G,F,E,B,z,y⟩:=C.facts;go_wp2_with (refine fP t (ah u.au) (ah u.aS) u.port 0 (.tmp 2) (.tmp 20) rfl rfl rfl (by first|rfl|(simp[*];done)) ?_)
  exact bodyPost_ret (w:=World.setRow v1 (w.heap.size+1) #[.string (ah u.au),.string (ah u.aS),.int .i64 u.port,.int .i64 0]) (nG rfl (OB.row t _ _ _ _) true _ rfl rfl) rfl ⟨rfl,below_setRow k (Nat.le_succ _) _⟩
 ·
  have f:¬u.au=[102,116,112]:=by rw[h];decide
  have j:((ah u.au).toList==[102,116,112])=false:=by rw[ay,beq_eq_false_iff_ne];exact f
  have i:¬(ah u.au).toList=[102,116,112]:=by rw[ay];exact f
  have d:¬u.au=[104,116,116,112]:=by rw[h];decide
  have m:((ah u.au).toList==[104,116,116,112])=false:=by rw[ay,beq_eq_false_iff_ne];exact d
  have l:¬(ah u.au).toList=[104,116,116,112]:=by rw[ay];exact d
  have g:¬u.au=[104,116,116,112,115]:=by rw[h];decide
  have x:((ah u.au).toList==[104,116,116,112,115])=false:=by rw[ay,beq_eq_false_iff_ne];exact g
  have v:¬(ah u.au).toList=[104,116,116,112,115]:=by rw[ay];exact g
  have D:¬u.au=[119,115]:=by rw[h];decide
  have T:((ah u.au).toList==[119,115])=false:=by rw[ay,beq_eq_false_iff_ne];exact D
  have Q:¬(ah u.au).toList=[119,115]:=by rw[ay];exact D
  have s:((ah u.au).toList==[119,115,115])=true:=by rw[ay,h];first|done|rfl
  have r:(ah u.au).toList=[119,115,115]:=by rw[ay,h];first|done|rfl
  clear h f d g D;go_enter func7,ntmps7;go_upto_region 1 with(fail)
  generalize hwa:World.alloc (World.alloc w _) _=v1;have a:UB v1 w.heap.size u (.slice A n c)∧OB v1 (w.heap.size+1) ⟨#[]⟩ ⟨#[]⟩ 0 0∧Below w.heap.size w v1:=by
   subst hwa;exact jC w _ _ _ _
  clear hwa;have C:=hid a.1;have t:=hid a.2.1;have q:=a.2.2;clear a;have k:=hid q;clear q;obtain⟨P,O,N,L,J,I,H,G,F,E,B,z,y⟩:=C.facts;go_wp2_with (refine fP t (ah u.au) (ah u.aS) u.port 0 (.tmp 2) (.tmp 20) rfl rfl rfl (by first|rfl|(simp[*];done)) ?_)
  exact bodyPost_ret (w:=World.setRow v1 (w.heap.size+1) #[.string (ah u.au),.string (ah u.aS),.int .i64 u.port,.int .i64 0]) (nG rfl (OB.row t _ _ _ _) true _ rfl rfl) rfl ⟨rfl,below_setRow k (Nat.le_succ _) _⟩
theorem of_none (u:U) (A:Option Addr) (n c:Nat) (w:World) (j:¬five u.au) (k:u.au≠[98,108,111,98]):Calls prog 7 #[.agg #[.string (ah u.au),.string (ah u.bT),.string (ah u.bW),.string (ah u.aS),.bool u.hh,.int .i64 u.port,.bool u.bP,.string (ah u.txt),.slice A n c,.bool u.hq,.bool u.hf,.string (ah u.bQ),.string (ah u.dY)]] w fun e w'=>e=.returned (.tuple #[.agg #[.string ⟨#[]⟩,.string ⟨#[]⟩,.int .i64 0,.int .i64 0],.bool false])∧Below w.heap.size w w':=by
 unfold five at j;have g:¬u.au=[102,116,112]:=fun e=>j (.inl e);have x:((ah u.au).toList==[102,116,112])=false:=by rw[ay,beq_eq_false_iff_ne];exact g
 have t:¬(ah u.au).toList=[102,116,112]:=by rw[ay];exact g
 have d:¬u.au=[104,116,116,112]:=fun e=>j (.inr (.inl e));have r:((ah u.au).toList==[104,116,116,112])=false:=by rw[ay,beq_eq_false_iff_ne];exact d
 have q:¬(ah u.au).toList=[104,116,116,112]:=by rw[ay];exact d
 have a:¬u.au=[104,116,116,112,115]:=fun e=>j (.inr (.inr (.inl e)));have m:((ah u.au).toList==[104,116,116,112,115])=false:=by rw[ay,beq_eq_false_iff_ne];exact a
 have l:¬(ah u.au).toList=[104,116,116,112,115]:=by rw[ay];exact a
 have i:¬u.au=[119,115]:=fun e=>j (.inr (.inr (.inr (.inl e))));have z:((ah u.au).toList==[119,115])=false:=by rw[ay,beq_eq_false_iff_ne];exact i
 have y:¬(ah u.au).toList=[119,115]:=by rw[ay];exact i
 have f:¬u.au=[119,115,115]:=fun e=>j (.inr (.inr (.inr (.inr (e)))));have v:((ah u.au).toList==[119,115,115])=false:=by rw[ay,beq_eq_false_iff_ne];exact f
 have s:¬(ah u.au).toList=[119,115,115]:=by rw[ay];exact f
 have D:((ah u.au).toList==[98,108,111,98])=false:=by rw[ay,beq_eq_false_iff_ne];exact k
 have C:¬(ah u.au).toList=[98,108,111,98]:=by rw[ay];exact k
 clear j k g d a i f;go_enter func7,ntmps7;go_upto_region 1 with(fail)
 generalize hwa:World.alloc (World.alloc w _) _=v1;have h:UB v1 w.heap.size u (.slice A n c)∧OB v1 (w.heap.size+1) ⟨#[]⟩ ⟨#[]⟩ 0 0∧Below w.heap.size w v1:=by
  subst hwa;exact jC w _ _ _ _
 clear hwa;have I:=hid h.1;have E:=hid h.2.1;have k:=h.2.2;clear h;have B:=hid k;clear k;obtain⟨X,W,V,T,Q,P,O,N,L,J,H,G,F⟩:=I.facts;go_wp2_with (refine fP E ⟨#[]⟩ ⟨#[]⟩ 0 0 (.tmp 2) (.tmp 45) rfl rfl rfl rfl ?_)
 exact bodyPost_ret (w:=World.setRow v1 (w.heap.size+1) #[.string ⟨#[]⟩,.string ⟨#[]⟩,.int .i64 0,.int .i64 0]) (nG rfl (OB.row E _ _ _ _) false _ rfl rfl) rfl ⟨rfl,below_setRow B (Nat.le_succ _) _⟩
theorem zU (u v:U) (T:ByteArray) (A:Option Addr) (n c:Nat) (w:World) (j:u.au=[98,108,111,98]) (V:Hid (∀w:World,Pt w u A n c→Calls prog 18 #[.agg #[.string (ah u.au),.string (ah u.bT),.string (ah u.bW),.string (ah u.aS),.bool u.hh,.int .i64 u.port,.bool u.bP,.string (ah u.txt),.slice A n c,.bool u.hq,.bool u.hf,.string (ah u.bQ),.string (ah u.dY)]] w fun e w'=>e=.returned (.string T)∧Below w.heap.size w w')) (HP:Hid (∀w,Env w→Calls prog 5 #[.string T,.pointer none] w fun e w'=>∃A' n' c',e=.returned (.tuple #[.agg #[.string (ah v.au),.string (ah v.bT),.string (ah v.bW),.string (ah v.aS),.bool v.hh,.int .i64 v.port,.bool v.bP,.string (ah v.txt),.slice A' n' c',.bool v.hq,.bool v.hf,.string (ah v.bQ),.string (ah v.dY)],.int .i64 2])∧Pt w' v A' n' c'∧Below w.heap.size w w')) (hE:Env w) (hP:Pt w u A n c):Calls prog 7 #[.agg #[.string (ah u.au),.string (ah u.bT),.string (ah u.bW),.string (ah u.aS),.bool u.hh,.int .i64 u.port,.bool u.bP,.string (ah u.txt),.slice A n c,.bool u.hq,.bool u.hf,.string (ah u.bQ),.string (ah u.dY)]] w fun e w'=>e=.returned (.tuple #[.agg #[.string ⟨#[]⟩,.string ⟨#[]⟩,.int .i64 0,.int .i64 0],.bool false])∧Below w.heap.size w w':=by
 have h:¬u.au=[102,116,112]:=by rw[j];decide
 have F:((ah u.au).toList==[102,116,112])=false:=by rw[ay,beq_eq_false_iff_ne];exact h
 have D:¬(ah u.au).toList=[102,116,112]:=by rw[ay];exact h
 have d:¬u.au=[104,116,116,112]:=by rw[j];decide
 have t:((ah u.au).toList==[104,116,116,112])=false:=by rw[ay,beq_eq_false_iff_ne];exact d
 have s:¬(ah u.au).toList=[104,116,116,112]:=by rw[ay];exact d
 have a:¬u.au=[104,116,116,112,115]:=by rw[j];decide
 have r:((ah u.au).toList==[104,116,116,112,115])=false:=by rw[ay,beq_eq_false_iff_ne];exact a
 have q:¬(ah u.au).toList=[104,116,116,112,115]:=by rw[ay];exact a
 have l:¬u.au=[119,115]:=by rw[j];decide
 have L:((ah u.au).toList==[119,115])=false:=by rw[ay,beq_eq_false_iff_ne];exact l
 have J:¬(ah u.au).toList=[119,115]:=by rw[ay];exact l
 have g:¬u.au=[119,115,115]:=by rw[j];decide
 have E:((ah u.au).toList==[119,115,115])=false:=by rw[ay,beq_eq_false_iff_ne];exact g
 have C:¬(ah u.au).toList=[119,115,115]:=by rw[ay];exact g
 have a1:((ah u.au).toList==[98,108,111,98])=true:=by rw[ay,j];first|done|rfl
 have a0:(ah u.au).toList=[98,108,111,98]:=by rw[ay,j];first|done|rfl
 have HE:=hid hE;have Q:=hid hP;clear j hE hP h d a l g;go_enter func7,ntmps7;go_upto_region 1 with(fail)
 generalize hwa:World.alloc (World.alloc w _) _=v1;have i:UB v1 w.heap.size u (.slice A n c)∧OB v1 (w.heap.size+1) ⟨#[]⟩ ⟨#[]⟩ 0 0∧Below w.heap.size w v1:=by
  subst hwa;exact jC w _ _ _ _
 clear hwa;have X1:=hid i.1;have X2:=hid i.2.1;have f:=i.2.2;clear i;have m:=hid f;clear f;have B:=hid (HE.below m);have z:=hid (Q.below m);obtain⟨d0,d1,d2,d3,d4,d5,d6,d7,d8,d9,P,O,N⟩:=X1.facts;go_wp2_with fail
 clear d0 d1 d2 d3 d4 d5 d6 d7 d8 d9 P O N;refine(V _ z).mono ?_;rintro e w2 ⟨rfl,f⟩;have Y:=hid (bD m f);have y:=hid (X2.below f);have Z:=hid (B.below f);clear f;go_wp2_with fail
 refine(HP _ Z).mono ?_;rintro e G ⟨A2,n2,c2,rfl,I,f⟩;have X:=hid (bD Y f);have x:=hid (y.below f);clear f;clear I;go_upto_region 12 with(fail)
 generalize hwa:World.alloc _ _=v4;have H:UB v4 (G.heap.size) v (.slice A2 n2 c2):=by rw[←hwa];exact heap_alloc_new _ _
 have f:Below G.heap.size G v4:=by rw[←hwa];exact(Below.refl _ _).alloc (Nat.le_refl _) _
 clear hwa H;have W:=hid (bD X f);have k:=hid (x.below f);clear f;go_wp2_with (refine fP k ⟨#[]⟩ ⟨#[]⟩ 0 0 (.tmp 2) (.tmp 45) rfl rfl rfl rfl ?_)
 exact bodyPost_ret (w:=World.setRow v4 (w.heap.size+1) #[.string ⟨#[]⟩,.string ⟨#[]⟩,.int .i64 0,.int .i64 0]) (nG rfl (OB.row k _ _ _ _) false _ rfl rfl) rfl ⟨rfl,below_setRow W (Nat.le_succ _) _⟩
theorem su (u v:U) (T:ByteArray) (A:Option Addr) (n c:Nat) (w:World) (j:u.au=[98,108,111,98]) (a1:Hid (∀w:World,Pt w u A n c→Calls prog 18 #[.agg #[.string (ah u.au),.string (ah u.bT),.string (ah u.bW),.string (ah u.aS),.bool u.hh,.int .i64 u.port,.bool u.bP,.string (ah u.txt),.slice A n c,.bool u.hq,.bool u.hf,.string (ah u.bQ),.string (ah u.dY)]] w fun e w'=>e=.returned (.string T)∧Below w.heap.size w w')) (HP:Hid (∀w,Env w→Calls prog 5 #[.string T,.pointer none] w fun e w'=>∃A' n' c',e=.returned (.tuple #[.agg #[.string (ah v.au),.string (ah v.bT),.string (ah v.bW),.string (ah v.aS),.bool v.hh,.int .i64 v.port,.bool v.bP,.string (ah v.txt),.slice A' n' c',.bool v.hq,.bool v.hf,.string (ah v.bQ),.string (ah v.dY)],.int .i64 0])∧Pt w' v A' n' c'∧Below w.heap.size w w')) (hv:v.au≠[104,116,116,112]∧v.au≠[104,116,116,112,115]) (hE:Env w) (hP:Pt w u A n c):Calls prog 7 #[.agg #[.string (ah u.au),.string (ah u.bT),.string (ah u.bW),.string (ah u.aS),.bool u.hh,.int .i64 u.port,.bool u.bP,.string (ah u.txt),.slice A n c,.bool u.hq,.bool u.hf,.string (ah u.bQ),.string (ah u.dY)]] w fun e w'=>e=.returned (.tuple #[.agg #[.string ⟨#[]⟩,.string ⟨#[]⟩,.int .i64 0,.int .i64 0],.bool false])∧Below w.heap.size w w':=by
 have h:¬u.au=[102,116,112]:=by rw[j];decide
 have H:((ah u.au).toList==[102,116,112])=false:=by rw[ay,beq_eq_false_iff_ne];exact h
 have F:¬(ah u.au).toList=[102,116,112]:=by rw[ay];exact h
 have d:¬u.au=[104,116,116,112]:=by rw[j];decide
 have y:((ah u.au).toList==[104,116,116,112])=false:=by rw[ay,beq_eq_false_iff_ne];exact d
 have x:¬(ah u.au).toList=[104,116,116,112]:=by rw[ay];exact d
 have a:¬u.au=[104,116,116,112,115]:=by rw[j];decide
 have t:((ah u.au).toList==[104,116,116,112,115])=false:=by rw[ay,beq_eq_false_iff_ne];exact a
 have s:¬(ah u.au).toList=[104,116,116,112,115]:=by rw[ay];exact a
 have l:¬u.au=[119,115]:=by rw[j];decide
 have Q:((ah u.au).toList==[119,115])=false:=by rw[ay,beq_eq_false_iff_ne];exact l
 have N:¬(ah u.au).toList=[119,115]:=by rw[ay];exact l
 have g:¬u.au=[119,115,115]:=by rw[j];decide
 have G:((ah u.au).toList==[119,115,115])=false:=by rw[ay,beq_eq_false_iff_ne];exact g
 have E:¬(ah u.au).toList=[119,115,115]:=by rw[ay];exact g
 have a7:((ah u.au).toList==[98,108,111,98])=true:=by rw[ay,j];first|done|rfl
 have a6:(ah u.au).toList=[98,108,111,98]:=by rw[ay,j];first|done|rfl
 obtain⟨q,m⟩:=hv;have W:((ah v.au).toList==[104,116,116,112])=false:=by rw[ay,beq_eq_false_iff_ne];exact q
 have P:¬(ah v.au).toList=[104,116,116,112]:=by rw[ay];exact q
 have V:((ah v.au).toList==[104,116,116,112,115])=false:=by rw[ay,beq_eq_false_iff_ne];exact m
 have O:¬(ah v.au).toList=[104,116,116,112,115]:=by rw[ay];exact m
 clear q m;have HE:=hid hE;have a0:=hid hP;clear j hE hP h d a l g;go_enter func7,ntmps7;go_upto_region 1 with(fail)
 generalize hwa:World.alloc (World.alloc w _) _=v1;have i:UB v1 w.heap.size u (.slice A n c)∧OB v1 (w.heap.size+1) ⟨#[]⟩ ⟨#[]⟩ 0 0∧Below w.heap.size w v1:=by
  subst hwa;exact jC w _ _ _ _
 clear hwa;have X1:=hid i.1;have X2:=hid i.2.1;have f:=i.2.2;clear i;have r:=hid f;clear f;have D:=hid (HE.below r);have C:=hid (a0.below r);obtain⟨d0,d1,d2,d3,d4,d5,d6,d7,d8,d9,Z,Y,X⟩:=X1.facts;go_wp2_with fail
 clear d0 d1 d2 d3 d4 d5 d6 d7 d8 d9 Z Y X;refine(a1 _ C).mono ?_;rintro e w2 ⟨rfl,f⟩;have a4:=hid (bD r f);have B:=hid (X2.below f);have a5:=hid (D.below f);clear f;go_wp2_with fail
 refine(HP _ a5).mono ?_;rintro e I ⟨A2,n2,c2,rfl,L,f⟩;have a3:=hid (bD a4 f);have z:=hid (B.below f);clear f;clear L;go_upto_region 12 with(fail)
 generalize hwa:World.alloc _ _=v4;have J:UB v4 (I.heap.size) v (.slice A2 n2 c2):=by rw[←hwa];exact heap_alloc_new _ _
 have f:Below I.heap.size I v4:=by rw[←hwa];exact(Below.refl _ _).alloc (Nat.le_refl _) _
 clear hwa J;have a2:=hid (bD a3 f);have k:=hid (z.below f);clear f;go_wp2_with (refine fP k ⟨#[]⟩ ⟨#[]⟩ 0 0 (.tmp 2) (.tmp 45) rfl rfl rfl rfl ?_)
 exact bodyPost_ret (w:=World.setRow v4 (w.heap.size+1) #[.string ⟨#[]⟩,.string ⟨#[]⟩,.int .i64 0,.int .i64 0]) (nG rfl (OB.row k _ _ _ _) false _ rfl rfl) rfl ⟨rfl,below_setRow a2 (Nat.le_succ _) _⟩
theorem uK (u v:U) (T:ByteArray) (A:Option Addr) (n c:Nat) (w:World) (j:u.au=[98,108,111,98]) (a1:Hid (∀w:World,Pt w u A n c→Calls prog 18 #[.agg #[.string (ah u.au),.string (ah u.bT),.string (ah u.bW),.string (ah u.aS),.bool u.hh,.int .i64 u.port,.bool u.bP,.string (ah u.txt),.slice A n c,.bool u.hq,.bool u.hf,.string (ah u.bQ),.string (ah u.dY)]] w fun e w'=>e=.returned (.string T)∧Below w.heap.size w w')) (HP:Hid (∀w,Env w→Calls prog 5 #[.string T,.pointer none] w fun e w'=>∃A' n' c',e=.returned (.tuple #[.agg #[.string (ah v.au),.string (ah v.bT),.string (ah v.bW),.string (ah v.aS),.bool v.hh,.int .i64 v.port,.bool v.bP,.string (ah v.txt),.slice A' n' c',.bool v.hq,.bool v.hf,.string (ah v.bQ),.string (ah v.dY)],.int .i64 0])∧Pt w' v A' n' c'∧Below w.heap.size w w')) (H:v.au=[104,116,116,112]) (hE:Env w) (hP:Pt w u A n c):Calls prog 7 #[.agg #[.string (ah u.au),.string (ah u.bT),.string (ah u.bW),.string (ah u.aS),.bool u.hh,.int .i64 u.port,.bool u.bP,.string (ah u.txt),.slice A n c,.bool u.hq,.bool u.hf,.string (ah u.bQ),.string (ah u.dY)]] w fun e w'=>e=.returned (.tuple #[.agg #[.string (ah v.au),.string (ah v.aS),.int .i64 v.port,.int .i64 0],.bool true])∧Below w.heap.size w w':=by
 have h:¬u.au=[102,116,112]:=by rw[j];decide
 have N:((ah u.au).toList==[102,116,112])=false:=by rw[ay,beq_eq_false_iff_ne];exact h
 have J:¬(ah u.au).toList=[102,116,112]:=by rw[ay];exact h
 have f:¬u.au=[104,116,116,112]:=by rw[j];decide
 have B:((ah u.au).toList==[104,116,116,112])=false:=by rw[ay,beq_eq_false_iff_ne];exact f
 have z:¬(ah u.au).toList=[104,116,116,112]:=by rw[ay];exact f
 have a:¬u.au=[104,116,116,112,115]:=by rw[j];decide
 have x:((ah u.au).toList==[104,116,116,112,115])=false:=by rw[ay,beq_eq_false_iff_ne];exact a
 have t:¬(ah u.au).toList=[104,116,116,112,115]:=by rw[ay];exact a
 have l:¬u.au=[119,115]:=by rw[j];decide
 have V:((ah u.au).toList==[119,115])=false:=by rw[ay,beq_eq_false_iff_ne];exact l
 have Q:¬(ah u.au).toList=[119,115]:=by rw[ay];exact l
 have g:¬u.au=[119,115,115]:=by rw[j];decide
 have L:((ah u.au).toList==[119,115,115])=false:=by rw[ay,beq_eq_false_iff_ne];exact g
 have I:¬(ah u.au).toList=[119,115,115]:=by rw[ay];exact g
 have b3:((ah u.au).toList==[98,108,111,98])=true:=by rw[ay,j];first|done|rfl
 have a9:(ah u.au).toList=[98,108,111,98]:=by rw[ay,j];first|done|rfl
 have b0:((ah v.au).toList==[104,116,116,112])=true:=by rw[ay,H];first|done|rfl
 have a8:(ah v.au).toList=[104,116,116,112]:=by rw[ay,H];first|done|rfl
 have a2:Hid (∀(A:Option Addr) (n c:Nat) (w:World),Calls prog 7 #[.agg #[.string (ah v.au),.string (ah v.bT),.string (ah v.bW),.string (ah v.aS),.bool v.hh,.int .i64 v.port,.bool v.bP,.string (ah v.txt),.slice A n c,.bool v.hq,.bool v.hf,.string (ah v.bQ),.string (ah v.dY)]] w fun e w'=>e=.returned (.tuple #[.agg #[.string (ah v.au),.string (ah v.aS),.int .i64 v.port,.int .i64 0],.bool true])∧Below w.heap.size w w'):=fun A n c w=>MB v A n c w (.inl H);have HE:=hid hE;have a0:=hid hP;clear j H hE hP h f a l g;go_enter func7,ntmps7;go_upto_region 1 with(fail)
 generalize hwa:World.alloc (World.alloc w _) _=v1;have i:UB v1 w.heap.size u (.slice A n c)∧OB v1 (w.heap.size+1) ⟨#[]⟩ ⟨#[]⟩ 0 0∧Below w.heap.size w v1:=by
  subst hwa;exact jC w _ _ _ _
 clear hwa;have X1:=hid i.1;have X2:=hid i.2.1;have d:=i.2.2;clear i;have s:=hid d;clear d;have G:=hid (HE.below s);have F:=hid (a0.below s);obtain⟨d0,d1,d2,d3,d4,d5,Z,Y,X,W,r,q,m⟩:=X1.facts;go_wp2_with fail
 clear d0 d1 d2 d3 d4 d5 Z Y X W r q m;refine(a1 _ F).mono ?_;rintro e w2 ⟨rfl,d⟩;have a6:=hid (bD s d);have E:=hid (X2.below d);have a7:=hid (G.below d);clear d;go_wp2_with fail
 refine(HP _ a7).mono ?_;rintro e O ⟨A2,n2,c2,rfl,P,d⟩;have a5:=hid (bD a6 d);have D:=hid (E.below d);clear d;clear P;go_upto_region 10 with(fail)
 generalize hwa:World.alloc _ _=v4;have y:UB v4 (O.heap.size) v (.slice A2 n2 c2):=by rw[←hwa];exact heap_alloc_new _ _
 have d:Below O.heap.size O v4:=by rw[←hwa];exact(Below.refl _ _).alloc (Nat.le_refl _) _
 have X3:=hid y;clear hwa y;have a4:=hid (bD a5 d);have C:=hid (D.below d);clear d;obtain⟨d0,d1,d2,d3,d4,d5,Z,Y,X,W,r,q,m⟩:=X3.facts;go_wp2_with fail
 clear d0 d1 d2 d3 d4 d5 Z Y X W r q m;refine(a2 _ _ _ _).mono ?_;rintro e w5 ⟨rfl,d⟩;have a3:=hid (bD a4 d);have k:=hid (C.below d);clear d;go_wp2_with (refine fP k (ah v.au) (ah v.aS) v.port 0 (.tmp 2) (.tmp 43) rfl rfl rfl rfl ?_)
 exact bodyPost_ret (w:=World.setRow w5 (w.heap.size+1) #[.string (ah v.au),.string (ah v.aS),.int .i64 v.port,.int .i64 0]) (nG rfl (OB.row k _ _ _ _) true _ rfl rfl) rfl ⟨rfl,below_setRow a3 (Nat.le_succ _) _⟩
end RQ
namespace KI
open Go.RowKit aC
def qR:List UInt8:=[98,108,111,98]
end KI
namespace YU
open Go.RowKit Base aV bZ Bc
theorem one_row (c:UInt8) (w:World):dW (w.alloc (.cells #[.int .u8 (c.toNat:Int)] 5)) (some ⟨w.heap.size,0,none⟩) 1 (aU [c]):=iT w [c] 5 (0,0)
theorem MW (W V T Q:ByteArray) (b4:Bool) (P:Int) (J:Bool) (x:ByteArray) (A:Option Addr) (n f:Nat) (l:List ByteArray) (b9 v:Bool) (m j:ByteArray) (w:World) (C:dW w A n (l.map Value.string)) (a3:n≤f) (G:f≤maxLen) (h7:x.size≤1073741824) (hl:(aF l).length≤1073741824):
  Calls prog 19 #[.agg #[.string W,.string V,.string T,.string Q,.bool b4,.int .i64 P,.bool J,.string x,.slice A n f,.bool b9,.bool v,.string m,.string j]] w fun e w'=>e=.returned (.string (ah (kG J x l)))∧Below w.heap.size w w':=by
 have E:l.length=n:=by rw[←C.1,List.length_map]
 have a:=kE l;unfold maxLen at G;cases J with
 |true=>
  clear E a;clear C;go_enter func19,ntmps19;go_wp2;go_ret;exact⟨rfl,(Below.refl _ _).alloc (Nat.le_refl _) _⟩
 | false=>
  have HR:=hid C;have HN:=hid E;have L:=hid a;have N:=hid hl;clear C E a hl;go_enter func19,ntmps19;go_upto_region 1 with(fail)
  generalize hw1:w.alloc _=w1;have r:Below w.heap.size w w1:=by rw[←hw1];exact(Below.refl _ _).alloc (Nat.le_refl _) _
  have O:Hid (Box w1 w.heap.size #[.string W,.string V,.string T,.string Q,.bool b4,.int .i64 P,.bool false,.string x,.slice A n f,.bool b9,.bool v,.string m,.string j]):=by
   show _=_;rw[←hw1];exact heap_alloc_new w _
  have a0:w.heap.size<w1.heap.size:=by rw[←hw1];simp
  clear hw1;obtain⟨c0,c1,c2,c3,c4,c5,c6,c7,c8,c9,a6,a5,a4⟩:=Qe O;go_wp2;go_loopw [3,4,12] (fun vs _ vk wr=>∃k:Nat,k≤n∧vk=.int .i64 (k:Int)∧vs=.string (ah (aF (l.take k)))∧wr=w1) (fun _ _ vk _=>n - (intOf vk).toNat)
  case atStart=>exact⟨0,Nat.zero_le _,rfl,rfl,rfl⟩
  case round=>
   obtain⟨k,hk,rfl,rfl,D⟩:=hrel;subst D;by_cases hlt:k<n
   ·have d:k<l.length:=by rw[HN.out];exact hlt
    have t:=HR.below r;obtain⟨g,off,rfl,hg,c⟩:=t.spot (by omega);have hc:=c k (by rw[List.length_map];exact d);rw[List.getElem_map]at hc;obtain⟨s,y⟩:∃s,s=l[k]:=⟨_,rfl⟩;have HS:Hid (l.take (k+1)=l.take k++[s]):=by rw[y];exact fQ l k d
    rw[←y]at hc;have h:=X9 l k d;have i:=Gf l (k+1);have q:=kE (l.take k);rw[List.length_take,Nat.min_eq_left (by omega)]at q;have a:=L.out;have F:=N.out;rw[←y]at h;obtain⟨X,B⟩:∃X,X=aF (l.take k):=⟨_,rfl⟩;rw[←B];have I:X.length≤1073741824:=by rw[B];omega
    obtain⟨Y,z⟩:∃Y,Y=X++[47]:=⟨_,rfl⟩;obtain⟨Z,H⟩:∃Z,Z=Y++s.data.toList:=⟨_,rfl⟩;have a1:∀w:World,(Op.stringOp .add (ah X) ⟨#[47]⟩).run prog w=.ok (.string (ah Y)) w:=fun w=>by rw[z];exact iO _ ⟨#[47]⟩ w (by rw[ak];show _+1≤_;omega)
    have a2:∀w:World,(Op.stringOp .add (ah Y) s).run prog w=.ok (.string (ah Z)) w:=fun w=>by rw[H];exact iO _ s w (by rw[ak,z,List.length_append];simp;omega)
    have HZ:Hid (aF (l.take (k+1))=Z):=by show _=_;rw[HS.out,FH,H,z,B];simp
    clear y h i q a F t c d B z H I;go_wp2;go_roundw
    case rel=>exact⟨k+1,by omega,by go_num,by rw[HZ.out],by first|rfl|trivial⟩
    case measure=>simp[intOf];omega
   ·obtain rfl:k=n:=by omega
    have HT:Hid (l.take k=l):=List.take_of_length_le (by rw[HN.out];exact Nat.le_refl _);go_wp2;go_ret;exact⟨congrArg (fun X=>Ending.returned (.string (ah (aF X)))) HT,r⟩
end YU
namespace YG
open Go.RowKit Base aC nO Ulw
theorem Pg (u:U) {N:Nat} (g:Fit u N) (f:N≤1073741824):Hid (∀(w:World) (A:Option Addr) (n c:Nat),Pt w u A n c→Calls prog 18 #[.agg #[.string (ah u.au),.string (ah u.bT),.string (ah u.bW),.string (ah u.aS),.bool u.hh,.int .i64 u.port,.bool u.bP,.string (ah u.txt),.slice A n c,.bool u.hq,.bool u.hf,.string (ah u.bQ),.string (ah u.dY)]] w fun e w'=>e=.returned (.string (ah (bZ.kG u.bP (ah u.txt) u.aF)))∧Below w.heap.size w w'):=fun w A n c hP=>by
 obtain⟨m,l,k,j,d,i,h,a⟩:=BG g f;exact YT.MH (ah u.au) (ah u.bT) (ah u.bW) (ah u.aS) u.hh u.port u.bP (ah u.txt) A n c u.aF u.hq u.hf (ah u.bQ) (ah u.dY) w hP.aF.1 hP.aF.2.1 hP.aF.2.2 d a
theorem BO {u:U} {N:Nat} (h:Fit u N):(bZ.kG u.bP (ah u.txt) u.aF).length≤N:=by
 have c:=h.all;unfold bZ.kG;split
 ·have:(ah u.txt).data.toList.length=u.txt.length:=by rw[show(ah u.txt).data.toList.length=(ah u.txt).size from Array.length_toList,ak]
  omega
 have a:(bZ.aF u.aF).length=pl u.aF:=rfl;omega
theorem VI (s h:ByteArray) (p n:Int) (w:World):(binOp .eql 32 (.agg #[.string s,.string h,.int .i64 p,.int .i64 n]) (.agg #[.string s,.string h,.int .i64 p,.int .i64 n])).run prog w=.ok (.bool true) w:=by
 have g:=underlying3;have f:=underlying9;have j:=isAgg3;have i:=isAgg9;have e:=sizeOf3;have d:=sizeOf9;have c:prog.underlying 32=some (.struct (prog.fieldsOf 32)):=by kernel_rfl
 have a:prog.stoodInHeld 32=false:=by kernel_rfl
 rw[run_eql_struct,show(10000:Nat)=9999+1 from rfl,run_equalIn_agg w 9999 32 _ _ c a];simp only[Program.fieldsOf,underlying32];go_simp
end YG
namespace YQ
open Go.RowKit Base aC KI RQ jq
def HTTP:List UInt8:=[104,116,116,112]
def KG:List UInt8:=[104,116,116,112,115]
instance (s:List UInt8):Decidable (five s):=by unfold five;exact inferInstance
def UL (u:U):Option (List UInt8×List UInt8×Int):=
 if five u.au then some (u.au,u.aS,u.port)
 else if u.au=qR then(match aC.url (ah (bZ.kG u.bP (ah u.txt) u.aF)).data.toList none with
  |none=>none
  |some v=>if v.au=HTTP∨v.au=KG then some (v.au,v.aS,v.port)else none)
 else none
theorem VN {s:List UInt8} (h:five s):s≠[]:=by
 rcases h with rfl|rfl|rfl|rfl|rfl<;>decide
end YQ
namespace dJ
open Go.RowKit
section
variable {P:Program} {md:Region.Mode} {ops:Array Oper} {Q:Exit→Act→World→Prop}
def Ko (md:Region.Mode) (ops:Array Oper) (ns:List (List Nat)) (n:Nat) (pre:List Nat):Bool:=
 decide (n<ops.size)&&wF md ops ns&&((List.range n).all fun k=>pre.contains k||(ns.getD n []).contains k)&&
 ((List.range ops.size).all fun i=>decide (i≤n)||match ops[i]? with
  |none=>false
  |some o=>o.after.any fun e=>Region.binds md e&&decide (n≤e.on))&&
 Region.seqB md ops (ops.size - n) n (List.replicate n true++List.replicate (ops.size - n) false).toArray
theorem Gs {A:(Nat→Value)→Act} {w0:World} {R:List Keep} {ns:List (List Nat)} {n:Nat} {pre:List Nat} (I:Ko md ops ns n pre=true) (r:Steps P ops Q A w0 R 0 (ops.toList.take n) ns)
  (fin:∀t w,Below w0.heap.size w0 w→Have R t w (List.range n)→wpList P ops Q (ops.toList.drop n) (A t) w):
  ∀(c:Nat) (a:Array Bool) (t:Nat→Value) (w:World),Yz ops w0 R ns n a t w→(∀k ∈ pre,a.getD k false=true)→KD ops a=c→wpAny P md ops Q c a (A t) w:=by
 unfold Ko at I;simp only[Bool.and_eq_true,decide_eq_true_eq]at I;obtain⟨⟨⟨⟨Y,N⟩,F⟩,H⟩,C⟩:=I
 -- all of the head is a:the tail,in its order
 have done : ∀ (c : Nat) (a : Array Bool) (t : Nat → Value) (w : World), Yz ops w0 R ns n a t w → KD ops a = c → (∀ i, i < n → a.getD i false = true) → wpAny P md ops Q c a (A t) w := by
  intro c a t w h B s;have z:a=(List.replicate n true++List.replicate (ops.size - n) false).toArray:=by
   apply Array.ext
   ·simp[h.size];omega
   ·intro i l J;have W:=h.size;simp only[List.getElem_toArray];by_cases hi:i<n
    ·have:=s i hi;simp[Array.getD,l]at this;rw[List.getElem_append_left (by simpa using hi)];simpa using this
    ·have:=h.tail i (by omega);simp[Array.getD,l]at this;rw[List.getElem_append_right (by simpa using hi)];simpa using this
  have hf:c=(ops.toList.drop n).length:=by
   rw[←B];unfold KD;have e:ops.size=n+(ops.size - n):=by omega
   rw[e,List.range_add,List.countP_append];have T:(List.range n).countP (fun i=> !a.getD i true)=0:=by
    rw[List.countP_eq_zero];intro i hi;have x:=List.mem_range.1 hi;rw[rC (by rw[h.size];omega) true false,s i x];decide
   have O:((List.range (ops.size - n)).map (n+·)).countP (fun i=> !a.getD i true)=((List.range (ops.size - n)).map (n+·)).length:=by
    rw[List.countP_eq_length];intro i hi;obtain⟨j,y,rfl⟩:=List.mem_map.1 hi;have X:=List.mem_range.1 y;rw[rC (by rw[h.size];omega) true false,h.tail (n+j) (by omega)];rfl
   rw[T,O];simp
  have V:=fin t w h.below (ni _ fun k f=>(h.held k (s k (by simpa using f))).1);rw[hf];refine wpAny_of_seq (md:=md) (ops.toList.drop n) n a (A t) w (fun j=>by simp[List.getElem?_drop]) ?_ V;rw[z];simpa using C
 intro c;induction c with
 |zero=>
  intro a t w h _ B;refine done 0 a t w h B fun i hi=>?_;cases e:a.getD i false with
  |true=>rfl
  |false=>
   have:=oq h.size (show i<ops.size by omega) (by rw[rC (by rw[h.size];omega) true false];exact e);omega
 | succ c ih=>
  intro a t w h q B;by_cases s:∀i,i<n→a.getD i false=true
  ·exact done (c+1) a t w h B s
  have G:Region.ready md ops a≠[]:=fun hr=>s fun i hi=>qC N h.size hr (i+1) i (by omega) (by omega);refine⟨fun L=>absurd L G,fun i hi=>?_⟩;obtain⟨L,o,D,d⟩:=mem_ready.1 hi;have E:=(Array.getElem?_eq_some_iff.1 D).1;have g:∀k ∈ ns.getD i [],a.getD k false=true:=fun k f=>by
   obtain⟨e,z,m,f⟩:=(qH N D).2 k f;rcases f with rfl|f
   ·exact d e z m
   ·exact(h.held e.on (d e z m)).2 k f
  have x:i<n:=by
   rcases Nat.lt_trichotomy i n with hlt'|rfl|hgt
   ·exact hlt'
   ·exact absurd (fun k f=>by
     have l:=List.all_eq_true.1 F k (List.mem_range.2 f);simp only[Bool.or_eq_true,List.contains_iff_mem]at l;exact l.elim (fun l=>q k l) (fun l=>g k l)) s
   ·have l:=List.all_eq_true.1 H i (List.mem_range.2 E);simp only[D,Bool.or_eq_true,decide_eq_true_eq]at l;rcases l with l|l
    ·omega
    ·obtain⟨e,z,m⟩:=Array.any_eq_true'.1 l;simp only[Bool.and_eq_true,decide_eq_true_eq]at m;have J:=d e z m.1;rw[h.tail e.on m.2]at J;cases J
  have aS:=Steps.at (ops.toList.take n) 0 ns r i o (by rw[List.getElem?_take,if_pos x];simpa using D);rw[Nat.zero_add]at aS;refine wpOp_step D fun K hK=>aS t w h.below (ni _ fun k f=>(h.held k (g k f)).1) K fun v w' m hv=>hK _ _ (ih _ _ _ ⟨⟨h.below.trans (m.mono h.below.size),by simpa using h.size,fun j y=>?_⟩,fun j y=>?_⟩ (fun k f=>getD_set_true (q k f)) ?_)
  ·by_cases hji:j=i
   ·subst hji;refine⟨by simpa[upd]using hv,fun k f=>getD_set_true (g k f)⟩
   ·rw[getD_set_ne false (Ne.symm hji)]at y;have:=h.held j y;refine⟨by simp only[upd,if_neg hji];exact(pick R j).stays _ _ _ m this.1,fun k f=>getD_set_true (this.2 k f)⟩
  ·rw[getD_set_ne false (by omega)];exact h.tail j y
  ·have:=oq h.size E L;omega
def XJ (k:Nat) (listed:Array Bool) (ns:List (List Nat)) (n:Nat) (pre:List Nat):Bool:=
 decide (listed.size=k)&&((List.range k).all fun i=>listed.getD i false==pre.contains i)&&(pre.all fun i=>decide (i<n)&&(ns.getD i []).all fun j=>pre.contains j)
theorem Gq {l:List Oper} {a:Act} {w:World} (n:Nat) (R:List Keep) (ns:List (List Nat)) (pre:List Nat) {c:Array Bool} {d:Nat} (q:Ko .any l.toArray ns n pre=true) (s:XJ l.length c ns n pre=true) (z:KD l.toArray c=d)
  (D:∀k ∈ pre,(pick R k).says (now (l.take n) a k) w)
  (g:Steps P l.toArray Q (fun t=>dL t n l 0 a) w R 0 (l.take n) ns)
  (fin:∀t w',Below w.heap.size w w'→Have R t w' (List.range n)→wpList P l.toArray Q (l.drop n) (dL t n l 0 a) w'):wpAny P .any l.toArray Q d c a w:=by
 unfold XJ at s;simp only[Bool.and_eq_true,decide_eq_true_eq]at s;obtain⟨⟨m,y⟩,r⟩:=s;have f:∀i,c.getD i false=pre.contains i:=fun i=>by
  by_cases hi:i<l.length
  ·have:=List.all_eq_true.1 y i (List.mem_range.2 hi);simpa using this
  ·have C:c.getD i false=false:=by simp[Array.getD,m,hi]
   have B:pre.contains i=false:=by
    cases e:pre.contains i with
    |false=>rfl
    |true=>
     have:=List.all_eq_true.1 r i (by simpa using e);simp only[Bool.and_eq_true,decide_eq_true_eq]at this;have x:n<l.toArray.size:=by
      unfold Ko at q;simp only[Bool.and_eq_true,decide_eq_true_eq]at q;exact q.1.1.1.1
     simp at x;omega
   rw[C,B]
 have h := Gs (P := P) (Q := Q) (md := .any) (ops := l.toArray) (A := fun t => dL t n l 0 a) (w0 := w) (R := R) (ns := ns) (n := n) (pre := pre) q (by simpa using g) (by simpa using fin) d c (now (l.take n) a) w
  ⟨⟨Below.refl _ _,by simpa using m,fun i hi=>by
   rw[f]at hi;have v:i ∈ pre:=by simpa using hi
   have:=List.all_eq_true.1 r i v;simp only[Bool.and_eq_true,decide_eq_true_eq]at this;exact⟨D i v,fun k hk=>by rw[f];exact List.all_eq_true.1 this.2 k hk⟩⟩,fun i hi=>by
    rw[f];cases e:pre.contains i with
    |false=>rfl
    |true=>
     have:=List.all_eq_true.1 r i (by simpa using e);simp only[Bool.and_eq_true,decide_eq_true_eq]at this;omega⟩ (fun k hk=>by rw[f];simpa using hk) z
 have e:dL (now (l.take n) a) n l 0 a=a:=by rw[uD];exact qF a (l.take n) (l.take n) 0 (fun j=>by simp)
 have E:wpAny P .any l.toArray Q d c (dL (now (l.take n) a) n l 0 a) w:=h
 rwa[e]at E
end
end dJ
namespace ab2
end ab2
namespace ab3
open Go.RowKit Base aC nO Ulw RQ YG YQ RP
open Go.Proofs.YtmbpmbapelfobaaGreatDoor.KI (qR)
def oV:Option (List UInt8×List UInt8×Int)→Value
 |none=>.agg #[.string ⟨#[]⟩,.string ⟨#[]⟩,.int .i64 0,.int .i64 0]
 |some o=>.agg #[.string (ah o.1),.string (ah o.2.1),.int .i64 o.2.2,.int .i64 0]
theorem acK (u:U) {N:Nat} (h:Fit u N) (j:N≤65536) (A:Option Addr) (n c:Nat) (w:World) (a:Pt w u A n c) (E:Env w):Calls prog 7 #[.agg #[.string (ah u.au),.string (ah u.bT),.string (ah u.bW),.string (ah u.aS),.bool u.hh,.int .i64 u.port,.bool u.bP,.string (ah u.txt),.slice A n c,.bool u.hq,.bool u.hf,.string (ah u.bQ),.string (ah u.dY)]] w fun e w'=>e=.returned (.tuple #[oV (UL u),.bool (UL u).isSome])∧Below w.heap.size w w':=by
 unfold UL;by_cases h5:five u.au
 ·rw[if_pos h5];exact QZ u A n c w h5
 rw[if_neg h5];by_cases hb:u.au=qR
 ·rw [if_pos hb];have d:=Pg u h (by omega);have i:=BO h;obtain⟨T,g⟩:∃T,T=ah (bZ.kG u.bP (ah u.txt) u.aF):=⟨_,rfl⟩;rw[←g]at d⊢;have f:T.size≤65536:=by rw[g,ak];omega
  cases ho:aC.url T.data.toList none with
  |none=>exact zU u U0 T A n c w hb (fun w a=>d w A n c a) (fun w E=>yL rfl ho f w E) E a
  |some v=>
   dsimp only;by_cases hv:v.au=HTTP
   ·rw[if_pos (.inl hv)];exact uK u v T A n c w hb (fun w a=>d w A n c a) (fun w E=>jg ho f w E) hv E a
   by_cases hv2:v.au=KG
   ·rw[if_pos (.inr hv2)];exact DY u v T A n c w hb (fun w a=>d w A n c a) (fun w E=>jg ho f w E) hv2 E a
   rw[if_neg (by rintro(x|x);exact hv x;exact hv2 x)];exact su u v T A n c w hb (fun w a=>d w A n c a) (fun w E=>jg ho f w E) ⟨hv,hv2⟩ E a
 rw[if_neg hb];exact of_none u A n c w h5 hb
end ab3
