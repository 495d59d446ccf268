/- Texts that belong together: Pg, UG, as9, atr, aj6, OrgY, aj3. -/
import Derived.Test.YtgamccijegollaaGreatDoorSOAAN
import Derived.Test.YtgamccijegollaaGreatDoorSOAAE
import Derived.Test.YtgamccijegollaaGreatDoorSOAAD
import Derived.Deep.DeepCutAuto
import Derived.Test.YtgamccijegollaaGreatDoorSOAAM
import Derived.Test.YtgamccijegollaaGreatDoorSOAAL
import Derived.Test.YtgamccijegollaaGreatDoorSOAAK
import Derived.Test.YtgamccijegollaaGreatDoorSOAAI
import Derived.Laws.StructEq
set_option linter.unusedSimpArgs false
set_option linter.unusedVariables false
set_option maxRecDepth 100000
set_option maxHeartbeats 64000000
namespace Go.Proofs.YtgamccijegollaaGreatDoor.Pg
open Go.RowKit Base Dp aZ Wx UrlB L6
theorem amh (z:Int) (h0: -9223372036854775808≤z) (h1:z≤9223372036854775807) (w:World) (hT:Tab.Pow w):
  Calls Tryz.prog 159 #[.int .i64 z] w fun e w'=>e=.returned (.string (strOf (Lib.itoa z)))∧Below w.heap.size w w':=
 (Tryz.strconv_Itoa z h0 h1 w hT).mono fun e w' ⟨he,k,os,hw⟩=>⟨he,by rw[hw];exact Tab.below_grow w k os⟩
theorem uX (k:Nat):∀n,n<10^(k+1)→(Lib.decDigits n).length≤k+1:=by
 induction k with
 |zero=>intro n h;rw[Lib.decDigits,dif_pos (by omega)];simp
 |succ k ih=>
  intro n h
  rw[Lib.decDigits]
  split
  ·simp
  have:=ih (n / 10) (by rw[Nat.pow_succ]at h;omega)
  rw[List.length_append]
  simp
  omega
theorem aaI (z:Int) (h0: -9223372036854775808≤z) (h1:z≤9223372036854775807):(Lib.itoa z).length≤20:=by
 unfold Lib.itoa
 split
 ·have:=uX 18 z.natAbs (by omega)
  simp
  omega
 have:=uX 18 z.toNat (by omega)
 omega
end Go.Proofs.YtgamccijegollaaGreatDoor.Pg
namespace Go.Proofs.YtgamccijegollaaGreatDoor.UG
open Go.RowKit Base Dp cO aco Pg sU wS mW tK yx jQ pO vZ WQ oN wo
structure Env (w:World):Prop where
 pow:Tab.Pow w
 lad:oI w
 max:Max w
 Hq:rD w
theorem Env.below {w w':World} (h:Env w) (hb:Below w.heap.size w w'):Env w':=⟨bY h.pow hb,h.lad.below hb,h.max.below hb,h.Hq.below hb⟩
structure Pt (w:World) (u:U) (A:Option Addr) (n c:Nat):Prop where
 aO:dR w u A n c
theorem Pt.below {w w':World} {u:U} {A:Option Addr} {n c:Nat} (h:Pt w u A n c) (hb:Below w.heap.size w w'):Pt w' u A n c:=⟨mW.dR.below h.aO hb⟩
theorem dl (s:ByteArray):s.data.toList.length=s.size:=Array.length_toList
theorem jB {T:ByteArray} {u:U} (ho:wS.url T.data.toList none=some u) (hs:T.size≤65536) (w:World) (E:Env w):Calls Tryz.prog 16 #[.string T,.pointer none] w fun e w'=>∃A' n' c',e=.returned (.tuple #[.agg #[.string (strOf u.au),.string (strOf u.usr),.string (strOf u.MX),.string (strOf u.hst),.bool u.hh,.int .i64 u.port,.bool u.opq,.string (strOf u.txt),.slice A' n' c',.bool u.hq,.bool u.hf,.string (strOf u.dY),.string (strOf u.fB)],.int .i64 0])∧Pt w' u A' n' c'∧Below w.heap.size w w':=by
 have h:=GY T.data.toList w (by rw[dl];exact hs) E.lad E.pow E.max E.Hq
 rw[aG,ho]at h
 exact h.mono fun e w' ⟨h1,A,n,c,h2,h3⟩=>⟨A,n,c,h2,⟨h3.aO⟩,h1⟩
theorem GZ {T:ByteArray} {u:U} (hu:u=U0) (ho:wS.url T.data.toList none=none) (hs:T.size≤65536) (w:World) (E:Env w):Calls Tryz.prog 16 #[.string T,.pointer none] w fun e w'=>∃A' n' c',e=.returned (.tuple #[.agg #[.string (strOf u.au),.string (strOf u.usr),.string (strOf u.MX),.string (strOf u.hst),.bool u.hh,.int .i64 u.port,.bool u.opq,.string (strOf u.txt),.slice A' n' c',.bool u.hq,.bool u.hf,.string (strOf u.dY),.string (strOf u.fB)],.int .i64 2])∧Pt w' u A' n' c'∧Below w.heap.size w w':=by
 subst hu
 have h:=GY T.data.toList w (by rw[dl];exact hs) E.lad E.pow E.max E.Hq
 rw[aG,ho]at h
 exact h.mono fun e w' ⟨h1,A,n,c,h2,h3⟩=>⟨A,n,c,h2,⟨h3.aO⟩,h1⟩
theorem Vg {u:U} {N:Nat} (h:Fit u N) (hN:N≤1073741824):(strOf u.au).size≤1073741824∧(strOf u.usr).size≤1073741824∧(strOf u.MX).size≤1073741824∧(strOf u.hst).size≤1073741824∧(strOf u.txt).size≤1073741824∧(strOf u.dY).size≤1073741824∧(strOf u.fB).size≤1073741824∧(aZ.aO u.aO).length≤1073741824:=by
 have h1:=h.all
 unfold oN.pl at h1
 simp only[o9]
 omega
end Go.Proofs.YtgamccijegollaaGreatDoor.UG
namespace Go.Proofs.YtgamccijegollaaGreatDoor.as9
open Go.RowKit Base Dp cO aco Pg sU wS mW tK yx jQ pO vZ WQ oN wo UG Kq L6
theorem OB.load {w:World} {g:Nat} {s h:ByteArray} {p n:Int} (x:OB w g s h p n):(loadVar 38 ⟨g,0,none⟩).run Tryz.prog w=.ok (.agg #[.string s,.string h,.int .i64 p,.int .i64 n]) w:=
 run_loadVar_row w g _ _ #[.string s,.string h,.int .i64 p,.int .i64 n] (0,0) _ x Tryz.underlying38 rfl (by kernel_rfl)
theorem apE {w:World} {g:Nat} {s h:ByteArray} {p n:Int} {fn:Func} {a b:Tmp} (hr:fn.results=#[.cell a 38,.tmp b]) (hU:OB w g s h p n) (ok:Bool) (tmps:Array Value) (h2:tmps.getD a undef=.pointer (some ⟨g,0,none⟩)) (h3:tmps.getD b undef=.bool ok):
  (results fn tmps).run Tryz.prog w=.ok (.tuple #[.agg #[.string s,.string h,.int .i64 p,.int .i64 n],.bool ok]) w:=by
 have hp':tmps[a]?.getD undef=.pointer (some ⟨g,0,none⟩):=by simpa using h2
 have hq':tmps[b]?.getD undef=.bool ok:=by simpa using h3
 simp[results,hr,hp',hq',asAddr,OB.load hU]
theorem OB.row {w:World} {g:Nat} {s h:ByteArray} {p n:Int} (x:OB w g s h p n) (s' h':ByteArray) (p' n':Int):OB (w.setRow g #[.string s',.string h',.int .i64 p',.int .i64 n']) g s' h' p' n':=setRow_heap w g _ _ _ (0,0) x
theorem ahR {w:World} {g:Nat} {s h:ByteArray} {p n:Int} {ops:Array Oper} {rest:List Oper} {o:Oper} {a:Act} {Q:Exit→Act→World→Prop} (hU:OB w g s h p n) (s' h':ByteArray) (p' n':Int) (x y:Operand) (ho:o.op=.store 38 x y) (hgd:o.guard=none)
  (hx:a.eval x=.pointer (some ⟨g,0,none⟩)) (hy:a.eval y=.agg #[.string s',.string h',.int .i64 p',.int .i64 n'])
  (hh:wpList Tryz.prog ops Q rest (a.put o.dst undef) (w.setRow g #[.string s',.string h',.int .i64 p',.int .i64 n'])):wpList Tryz.prog ops Q (o::rest) a w:=
 wpList_store_row hgd 38 x y ho g #[.string s',.string h',.int .i64 p',.int .i64 n'] hx hy 38 #[.string s,.string h,.int .i64 p,.int .i64 n] hU (by kernel_rfl) rfl (by simp[Value.oneCell']) hh
theorem asa (u:U) (A:Option Addr) (n c:Nat) (w:World) (hs:u.au=[104,116,116,112]∨u.au=[104,116,116,112,115]):Calls Tryz.prog 23 #[.agg #[.string (strOf u.au),.string (strOf u.usr),.string (strOf u.MX),.string (strOf u.hst),.bool u.hh,.int .i64 u.port,.bool u.opq,.string (strOf u.txt),.slice A n c,.bool u.hq,.bool u.hf,.string (strOf u.dY),.string (strOf u.fB)]] w fun e w'=>e=.returned (.tuple #[.agg #[.string (strOf u.au),.string (strOf u.hst),.int .i64 u.port,.int .i64 0],.bool true])∧Below w.heap.size w w':=by
 rcases hs with hs|hs
 ·
  have X4:¬u.au=[102,116,112]:=by rw[hs];decide
  have aoQ:((strOf u.au).toList==[102,116,112])=false:=by rw[aK,beq_eq_false_iff_ne];exact X4
  have apb:¬(strOf u.au).toList=[102,116,112]:=by rw[aK];exact X4
  have ari:((strOf u.au).toList==[104,116,116,112])=true:=by rw[aK,hs];first|done|rfl
  have arj:(strOf u.au).toList=[104,116,116,112]:=by rw[aK,hs];first|done|rfl
  have HS:=hid hs
  clear hs X4
  go_enter Tryz.func23,Tryz.ntmps23
  go_upto_region 1 with(fail)
  generalize bI:World.alloc (World.alloc w _) _=v1
  have h1_:UB v1 w.heap.size u (.slice A n c)∧OB v1 (w.heap.size+1) ⟨#[]⟩ ⟨#[]⟩ 0 0∧Below w.heap.size w v1:=by
   subst bI
   exact laid2 w _ _ _ _
  clear bI
  have X1:=hid h1_.1
  have X2:=hid h1_.2.1
  have hb:=h1_.2.2
  clear h1_
  have HB1:=hid hb
  clear hb
  obtain⟨d0,d1,d2,d3,d4,d5,d6,d7,d8,d9,d10,d11,d12⟩:=X1.out.facts
  go_wp2_with (refine ahR X2.out (strOf u.au) (strOf u.hst) u.port 0 (.tmp 2) (.tmp 20) rfl rfl rfl (by first|rfl|(simp[*];done)) ?_)
  try simp only[Exit.inBlock,Exit.then]
  exact bodyPost_ret (w:=World.setRow v1 (w.heap.size+1) #[.string (strOf u.au),.string (strOf u.hst),.int .i64 u.port,.int .i64 0]) (apE rfl (OB.row X2.out _ _ _ _) true _ rfl rfl) rfl ⟨rfl,below_setRow HB1.out (Nat.le_succ _) _⟩
 ·
  have X4:¬u.au=[102,116,112]:=by rw[hs];decide
  have aoQ:((strOf u.au).toList==[102,116,112])=false:=by rw[aK,beq_eq_false_iff_ne];exact X4
  have apb:¬(strOf u.au).toList=[102,116,112]:=by rw[aK];exact X4
  have TT:¬u.au=[104,116,116,112]:=by rw[hs];decide
  have ai2:((strOf u.au).toList==[104,116,116,112])=false:=by rw[aK,beq_eq_false_iff_ne];exact TT
  have aoM:¬(strOf u.au).toList=[104,116,116,112]:=by rw[aK];exact TT
  have ari:((strOf u.au).toList==[104,116,116,112,115])=true:=by rw[aK,hs];first|done|rfl
  have arj:(strOf u.au).toList=[104,116,116,112,115]:=by rw[aK,hs];first|done|rfl
  have HS:=hid hs
  clear hs X4 TT
  go_enter Tryz.func23,Tryz.ntmps23
  go_upto_region 1 with(fail)
  generalize bI:World.alloc (World.alloc w _) _=v1
  have h1_:UB v1 w.heap.size u (.slice A n c)∧OB v1 (w.heap.size+1) ⟨#[]⟩ ⟨#[]⟩ 0 0∧Below w.heap.size w v1:=by
   subst bI
   exact laid2 w _ _ _ _
  clear bI
  have X1:=hid h1_.1
  have X2:=hid h1_.2.1
  have hb:=h1_.2.2
  clear h1_
  have HB1:=hid hb
  clear hb
  obtain⟨d0,d1,d2,d3,d4,d5,d6,d7,d8,d9,d10,d11,d12⟩:=X1.out.facts
  go_wp2_with (refine ahR X2.out (strOf u.au) (strOf u.hst) u.port 0 (.tmp 2) (.tmp 20) rfl rfl rfl (by first|rfl|(simp[*];done)) ?_)
  try simp only[Exit.inBlock,Exit.then]
  exact bodyPost_ret (w:=World.setRow v1 (w.heap.size+1) #[.string (strOf u.au),.string (strOf u.hst),.int .i64 u.port,.int .i64 0]) (apE rfl (OB.row X2.out _ _ _ _) true _ rfl rfl) rfl ⟨rfl,below_setRow HB1.out (Nat.le_succ _) _⟩
theorem aqK (u v:U) (T:ByteArray) (A:Option Addr) (n c:Nat) (w:World) (hs:u.au=[98,108,111,98]) (TB:Hid (∀w:World,Pt w u A n c→Calls Tryz.prog 67 #[.agg #[.string (strOf u.au),.string (strOf u.usr),.string (strOf u.MX),.string (strOf u.hst),.bool u.hh,.int .i64 u.port,.bool u.opq,.string (strOf u.txt),.slice A n c,.bool u.hq,.bool u.hf,.string (strOf u.dY),.string (strOf u.fB)]] w fun e w'=>e=.returned (.string T)∧Below w.heap.size w w')) (HP:Hid (∀w,Env w→Calls Tryz.prog 16 #[.string T,.pointer none] w fun e w'=>∃A' n' c',e=.returned (.tuple #[.agg #[.string (strOf v.au),.string (strOf v.usr),.string (strOf v.MX),.string (strOf v.hst),.bool v.hh,.int .i64 v.port,.bool v.opq,.string (strOf v.txt),.slice A' n' c',.bool v.hq,.bool v.hf,.string (strOf v.dY),.string (strOf v.fB)],.int .i64 0])∧Pt w' v A' n' c'∧Below w.heap.size w w')) (hv:v.au=[104,116,116,112,115]) (hE:Env w) (hP:Pt w u A n c):Calls Tryz.prog 23 #[.agg #[.string (strOf u.au),.string (strOf u.usr),.string (strOf u.MX),.string (strOf u.hst),.bool u.hh,.int .i64 u.port,.bool u.opq,.string (strOf u.txt),.slice A n c,.bool u.hq,.bool u.hf,.string (strOf u.dY),.string (strOf u.fB)]] w fun e w'=>e=.returned (.tuple #[.agg #[.string (strOf v.au),.string (strOf v.hst),.int .i64 v.port,.int .i64 0],.bool true])∧Below w.heap.size w w':=by
 have X4:¬u.au=[102,116,112]:=by rw[hs];decide
 have aoQ:((strOf u.au).toList==[102,116,112])=false:=by rw[aK,beq_eq_false_iff_ne];exact X4
 have apb:¬(strOf u.au).toList=[102,116,112]:=by rw[aK];exact X4
 have TT:¬u.au=[104,116,116,112]:=by rw[hs];decide
 have ai2:((strOf u.au).toList==[104,116,116,112])=false:=by rw[aK,beq_eq_false_iff_ne];exact TT
 have aoM:¬(strOf u.au).toList=[104,116,116,112]:=by rw[aK];exact TT
 have vw:¬u.au=[104,116,116,112,115]:=by rw[hs];decide
 have apk:((strOf u.au).toList==[104,116,116,112,115])=false:=by rw[aK,beq_eq_false_iff_ne];exact vw
 have apu:¬(strOf u.au).toList=[104,116,116,112,115]:=by rw[aK];exact vw
 have nws:¬u.au=[119,115]:=by rw[hs];decide
 have ar2:((strOf u.au).toList==[119,115])=false:=by rw[aK,beq_eq_false_iff_ne];exact nws
 have ar5:¬(strOf u.au).toList=[119,115]:=by rw[aK];exact nws
 have apy:¬u.au=[119,115,115]:=by rw[hs];decide
 have arB:((strOf u.au).toList==[119,115,115])=false:=by rw[aK,beq_eq_false_iff_ne];exact apy
 have arG:¬(strOf u.au).toList=[119,115,115]:=by rw[aK];exact apy
 have ari:((strOf u.au).toList==[98,108,111,98])=true:=by rw[aK,hs];first|done|rfl
 have arj:(strOf u.au).toList=[98,108,111,98]:=by rw[aK,hs];first|done|rfl
 have nh:¬v.au=[104,116,116,112]:=by rw[hv];decide
 have e0nh:((strOf v.au).toList==[104,116,116,112])=false:=by rw[aK,beq_eq_false_iff_ne];exact nh
 have e1nh:¬(strOf v.au).toList=[104,116,116,112]:=by rw[aK];exact nh
 have e0hv:((strOf v.au).toList==[104,116,116,112,115])=true:=by rw[aK,hv];first|done|rfl
 have e1hv:(strOf v.au).toList=[104,116,116,112,115]:=by rw[aK,hv];first|done|rfl
 have HOT:Hid (∀(A:Option Addr) (n c:Nat) (w:World),Calls Tryz.prog 23 #[.agg #[.string (strOf v.au),.string (strOf v.usr),.string (strOf v.MX),.string (strOf v.hst),.bool v.hh,.int .i64 v.port,.bool v.opq,.string (strOf v.txt),.slice A n c,.bool v.hq,.bool v.hf,.string (strOf v.dY),.string (strOf v.fB)]] w fun e w'=>e=.returned (.tuple #[.agg #[.string (strOf v.au),.string (strOf v.hst),.int .i64 v.port,.int .i64 0],.bool true])∧Below w.heap.size w w'):=fun A n c w=>asa v A n c w (.inr hv)
 have HE:=hid hE
 have HPT:=hid hP
 clear hs hv nh hE hP X4 TT vw nws apy
 go_enter Tryz.func23,Tryz.ntmps23
 go_upto_region 1 with(fail)
 generalize bI:World.alloc (World.alloc w _) _=v1
 have h1_:UB v1 w.heap.size u (.slice A n c)∧OB v1 (w.heap.size+1) ⟨#[]⟩ ⟨#[]⟩ 0 0∧Below w.heap.size w v1:=by
  subst bI
  exact laid2 w _ _ _ _
 clear bI
 have X1:=hid h1_.1
 have X2:=hid h1_.2.1
 have hb:=h1_.2.2
 clear h1_
 have HB1:=hid hb
 clear hb
 have asI:=hid (HE.out.below HB1.out)
 have aqL:=hid (HPT.out.below HB1.out)
 obtain⟨d0,d1,d2,d3,d4,d5,d6,d7,d8,d9,d10,d11,d12⟩:=X1.out.facts
 go_wp2_with fail
 clear d0 d1 d2 d3 d4 d5 d6 d7 d8 d9 d10 d11 d12
 refine(TB.out _ aqL.out).mono ?_
 rintro e w2 ⟨rfl,hb⟩
 have HB2:=hid (bel HB1.out hb)
 have Xb:=hid (X1.out.below hb)
 have Pn:=hid (X2.out.below hb)
 have xY:=hid (asI.out.below hb)
 have WY:=hid (aqL.out.below hb)
 clear hb
 go_wp2_with fail
 refine(HP.out _ xY.out).mono ?_
 rintro e w3 ⟨A2,n2,c2,rfl,hpt,hb⟩
 have HB3:=hid (bel HB2.out hb)
 have acW:=hid (Xb.out.below hb)
 have aqT:=hid (Pn.out.below hb)
 have vV:=hid (xY.out.below hb)
 have zJ:=hid (WY.out.below hb)
 clear hb
 clear hpt
 go_upto_region 10 with(fail)
 generalize bI:World.alloc _ _=v4
 have hxa:UB v4 (w3.heap.size) v (.slice A2 n2 c2):=by rw[←bI];exact heap_alloc_new _ _
 have hb:Below w3.heap.size w3 v4:=by rw[←bI];exact(Below.refl _ _).alloc (Nat.le_refl _) _
 have X3:=hid hxa
 clear bI hxa
 have HB4:=hid (bel HB3.out hb)
 have Pj:=hid (acW.out.below hb)
 have arv:=hid (aqT.out.below hb)
 have Hw:=hid (vV.out.below hb)
 have O7:=hid (zJ.out.below hb)
 clear hb
 obtain⟨d0,d1,d2,d3,d4,d5,d6,d7,d8,d9,d10,d11,d12⟩:=X3.out.facts
 go_wp2_with fail
 clear d0 d1 d2 d3 d4 d5 d6 d7 d8 d9 d10 d11 d12
 refine(HOT.out _ _ _ _).mono ?_
 rintro e w5 ⟨rfl,hb⟩
 have iG:=hid (bel HB4.out hb)
 have Pm:=hid (Pj.out.below hb)
 have ar1:=hid (arv.out.below hb)
 have Uu:=hid (Hw.out.below hb)
 have O8:=hid (O7.out.below hb)
 have X3_5:=hid (X3.out.below hb)
 clear hb
 go_wp2_with (refine ahR ar1.out (strOf v.au) (strOf v.hst) v.port 0 (.tmp 2) (.tmp 43) rfl rfl rfl rfl ?_)
 try simp only[Exit.inBlock,Exit.then]
 exact bodyPost_ret (w:=World.setRow w5 (w.heap.size+1) #[.string (strOf v.au),.string (strOf v.hst),.int .i64 v.port,.int .i64 0]) (apE rfl (OB.row ar1.out _ _ _ _) true _ rfl rfl) rfl ⟨rfl,below_setRow iG.out (Nat.le_succ _) _⟩
end Go.Proofs.YtgamccijegollaaGreatDoor.as9
namespace Go.Proofs.YtgamccijegollaaGreatDoor.atr
open Go.RowKit Base Dp cO aco Pg sU wS mW tK yx jQ pO vZ WQ oN wo UG Kq as9
def five (s:List UInt8):Prop:=s=[102,116,112]∨s=[104,116,116,112]∨s=[104,116,116,112,115]∨s=[119,115]∨s=[119,115,115]
theorem asO (u:U) (A:Option Addr) (n c:Nat) (w:World) (hs:five u.au):Calls Tryz.prog 23 #[.agg #[.string (strOf u.au),.string (strOf u.usr),.string (strOf u.MX),.string (strOf u.hst),.bool u.hh,.int .i64 u.port,.bool u.opq,.string (strOf u.txt),.slice A n c,.bool u.hq,.bool u.hf,.string (strOf u.dY),.string (strOf u.fB)]] w fun e w'=>e=.returned (.tuple #[.agg #[.string (strOf u.au),.string (strOf u.hst),.int .i64 u.port,.int .i64 0],.bool true])∧Below w.heap.size w w':=by
 unfold five at hs
 rcases hs with hs|hs|hs|hs|hs
 ·
  have ari:((strOf u.au).toList==[102,116,112])=true:=by rw[aK,hs];first|done|rfl
  have arj:(strOf u.au).toList=[102,116,112]:=by rw[aK,hs];first|done|rfl
  clear hs 
  go_enter Tryz.func23,Tryz.ntmps23
  go_upto_region 1 with(fail)
  generalize bI:World.alloc (World.alloc w _) _=v1
  have h1_:UB v1 w.heap.size u (.slice A n c)∧OB v1 (w.heap.size+1) ⟨#[]⟩ ⟨#[]⟩ 0 0∧Below w.heap.size w v1:=by
   subst bI
   exact laid2 w _ _ _ _
  clear bI
  have X1:=hid h1_.1
  have X2:=hid h1_.2.1
  have hb:=h1_.2.2
  clear h1_
  have HB1:=hid hb
  clear hb
  obtain⟨d0,d1,d2,d3,d4,d5,d6,d7,d8,d9,d10,d11,d12⟩:=X1.out.facts
  go_wp2_with (refine ahR X2.out (strOf u.au) (strOf u.hst) u.port 0 (.tmp 2) (.tmp 20) rfl rfl rfl (by first|rfl|(simp[*];done)) ?_)
  try simp only[Exit.inBlock,Exit.then]
  exact bodyPost_ret (w:=World.setRow v1 (w.heap.size+1) #[.string (strOf u.au),.string (strOf u.hst),.int .i64 u.port,.int .i64 0]) (apE rfl (OB.row X2.out _ _ _ _) true _ rfl rfl) rfl ⟨rfl,below_setRow HB1.out (Nat.le_succ _) _⟩
 ·
  have X4:¬u.au=[102,116,112]:=by rw[hs];decide
  have aoQ:((strOf u.au).toList==[102,116,112])=false:=by rw[aK,beq_eq_false_iff_ne];exact X4
  have apb:¬(strOf u.au).toList=[102,116,112]:=by rw[aK];exact X4
  have ari:((strOf u.au).toList==[104,116,116,112])=true:=by rw[aK,hs];first|done|rfl
  have arj:(strOf u.au).toList=[104,116,116,112]:=by rw[aK,hs];first|done|rfl
  clear hs X4
  go_enter Tryz.func23,Tryz.ntmps23
  go_upto_region 1 with(fail)
  generalize bI:World.alloc (World.alloc w _) _=v1
  have h1_:UB v1 w.heap.size u (.slice A n c)∧OB v1 (w.heap.size+1) ⟨#[]⟩ ⟨#[]⟩ 0 0∧Below w.heap.size w v1:=by
   subst bI
   exact laid2 w _ _ _ _
  clear bI
  have X1:=hid h1_.1
  have X2:=hid h1_.2.1
  have hb:=h1_.2.2
  clear h1_
  have HB1:=hid hb
  clear hb
  obtain⟨d0,d1,d2,d3,d4,d5,d6,d7,d8,d9,d10,d11,d12⟩:=X1.out.facts
  go_wp2_with (refine ahR X2.out (strOf u.au) (strOf u.hst) u.port 0 (.tmp 2) (.tmp 20) rfl rfl rfl (by first|rfl|(simp[*];done)) ?_)
  try simp only[Exit.inBlock,Exit.then]
  exact bodyPost_ret (w:=World.setRow v1 (w.heap.size+1) #[.string (strOf u.au),.string (strOf u.hst),.int .i64 u.port,.int .i64 0]) (apE rfl (OB.row X2.out _ _ _ _) true _ rfl rfl) rfl ⟨rfl,below_setRow HB1.out (Nat.le_succ _) _⟩
 ·
  have X4:¬u.au=[102,116,112]:=by rw[hs];decide
  have aoQ:((strOf u.au).toList==[102,116,112])=false:=by rw[aK,beq_eq_false_iff_ne];exact X4
  have apb:¬(strOf u.au).toList=[102,116,112]:=by rw[aK];exact X4
  have TT:¬u.au=[104,116,116,112]:=by rw[hs];decide
  have ai2:((strOf u.au).toList==[104,116,116,112])=false:=by rw[aK,beq_eq_false_iff_ne];exact TT
  have aoM:¬(strOf u.au).toList=[104,116,116,112]:=by rw[aK];exact TT
  have ari:((strOf u.au).toList==[104,116,116,112,115])=true:=by rw[aK,hs];first|done|rfl
  have arj:(strOf u.au).toList=[104,116,116,112,115]:=by rw[aK,hs];first|done|rfl
  clear hs X4 TT
  go_enter Tryz.func23,Tryz.ntmps23
  go_upto_region 1 with(fail)
  generalize bI:World.alloc (World.alloc w _) _=v1
  have h1_:UB v1 w.heap.size u (.slice A n c)∧OB v1 (w.heap.size+1) ⟨#[]⟩ ⟨#[]⟩ 0 0∧Below w.heap.size w v1:=by
   subst bI
   exact laid2 w _ _ _ _
  clear bI
  have X1:=hid h1_.1
  have X2:=hid h1_.2.1
  have hb:=h1_.2.2
  clear h1_
  have HB1:=hid hb
  clear hb
  obtain⟨d0,d1,d2,d3,d4,d5,d6,d7,d8,d9,d10,d11,d12⟩:=X1.out.facts
  go_wp2_with (refine ahR X2.out (strOf u.au) (strOf u.hst) u.port 0 (.tmp 2) (.tmp 20) rfl rfl rfl (by first|rfl|(simp[*];done)) ?_)
  try simp only[Exit.inBlock,Exit.then]
  exact bodyPost_ret (w:=World.setRow v1 (w.heap.size+1) #[.string (strOf u.au),.string (strOf u.hst),.int .i64 u.port,.int .i64 0]) (apE rfl (OB.row X2.out _ _ _ _) true _ rfl rfl) rfl ⟨rfl,below_setRow HB1.out (Nat.le_succ _) _⟩
 ·
  have X4:¬u.au=[102,116,112]:=by rw[hs];decide
  have aoQ:((strOf u.au).toList==[102,116,112])=false:=by rw[aK,beq_eq_false_iff_ne];exact X4
  have apb:¬(strOf u.au).toList=[102,116,112]:=by rw[aK];exact X4
  have TT:¬u.au=[104,116,116,112]:=by rw[hs];decide
  have ai2:((strOf u.au).toList==[104,116,116,112])=false:=by rw[aK,beq_eq_false_iff_ne];exact TT
  have aoM:¬(strOf u.au).toList=[104,116,116,112]:=by rw[aK];exact TT
  have vw:¬u.au=[104,116,116,112,115]:=by rw[hs];decide
  have apk:((strOf u.au).toList==[104,116,116,112,115])=false:=by rw[aK,beq_eq_false_iff_ne];exact vw
  have apu:¬(strOf u.au).toList=[104,116,116,112,115]:=by rw[aK];exact vw
  have ari:((strOf u.au).toList==[119,115])=true:=by rw[aK,hs];first|done|rfl
  have arj:(strOf u.au).toList=[119,115]:=by rw[aK,hs];first|done|rfl
  clear hs X4 TT vw
  go_enter Tryz.func23,Tryz.ntmps23
  go_upto_region 1 with(fail)
  generalize bI:World.alloc (World.alloc w _) _=v1
  have h1_:UB v1 w.heap.size u (.slice A n c)∧OB v1 (w.heap.size+1) ⟨#[]⟩ ⟨#[]⟩ 0 0∧Below w.heap.size w v1:=by
   subst bI
   exact laid2 w _ _ _ _
  clear bI
  have X1:=hid h1_.1
  have X2:=hid h1_.2.1
  have hb:=h1_.2.2
  clear h1_
  have HB1:=hid hb
  clear hb
  obtain⟨d0,d1,d2,d3,d4,d5,d6,d7,d8,d9,d10,d11,d12⟩:=X1.out.facts
  go_wp2_with (refine ahR X2.out (strOf u.au) (strOf u.hst) u.port 0 (.tmp 2) (.tmp 20) rfl rfl rfl (by first|rfl|(simp[*];done)) ?_)
  try simp only[Exit.inBlock,Exit.then]
  exact bodyPost_ret (w:=World.setRow v1 (w.heap.size+1) #[.string (strOf u.au),.string (strOf u.hst),.int .i64 u.port,.int .i64 0]) (apE rfl (OB.row X2.out _ _ _ _) true _ rfl rfl) rfl ⟨rfl,below_setRow HB1.out (Nat.le_succ _) _⟩
 ·
  have X4:¬u.au=[102,116,112]:=by rw[hs];decide
  have aoQ:((strOf u.au).toList==[102,116,112])=false:=by rw[aK,beq_eq_false_iff_ne];exact X4
  have apb:¬(strOf u.au).toList=[102,116,112]:=by rw[aK];exact X4
  have TT:¬u.au=[104,116,116,112]:=by rw[hs];decide
  have ai2:((strOf u.au).toList==[104,116,116,112])=false:=by rw[aK,beq_eq_false_iff_ne];exact TT
  have aoM:¬(strOf u.au).toList=[104,116,116,112]:=by rw[aK];exact TT
  have vw:¬u.au=[104,116,116,112,115]:=by rw[hs];decide
  have apk:((strOf u.au).toList==[104,116,116,112,115])=false:=by rw[aK,beq_eq_false_iff_ne];exact vw
  have apu:¬(strOf u.au).toList=[104,116,116,112,115]:=by rw[aK];exact vw
  have nws:¬u.au=[119,115]:=by rw[hs];decide
  have ar2:((strOf u.au).toList==[119,115])=false:=by rw[aK,beq_eq_false_iff_ne];exact nws
  have ar5:¬(strOf u.au).toList=[119,115]:=by rw[aK];exact nws
  have ari:((strOf u.au).toList==[119,115,115])=true:=by rw[aK,hs];first|done|rfl
  have arj:(strOf u.au).toList=[119,115,115]:=by rw[aK,hs];first|done|rfl
  clear hs X4 TT vw nws
  go_enter Tryz.func23,Tryz.ntmps23
  go_upto_region 1 with(fail)
  generalize bI:World.alloc (World.alloc w _) _=v1
  have h1_:UB v1 w.heap.size u (.slice A n c)∧OB v1 (w.heap.size+1) ⟨#[]⟩ ⟨#[]⟩ 0 0∧Below w.heap.size w v1:=by
   subst bI
   exact laid2 w _ _ _ _
  clear bI
  have X1:=hid h1_.1
  have X2:=hid h1_.2.1
  have hb:=h1_.2.2
  clear h1_
  have HB1:=hid hb
  clear hb
  obtain⟨d0,d1,d2,d3,d4,d5,d6,d7,d8,d9,d10,d11,d12⟩:=X1.out.facts
  go_wp2_with (refine ahR X2.out (strOf u.au) (strOf u.hst) u.port 0 (.tmp 2) (.tmp 20) rfl rfl rfl (by first|rfl|(simp[*];done)) ?_)
  try simp only[Exit.inBlock,Exit.then]
  exact bodyPost_ret (w:=World.setRow v1 (w.heap.size+1) #[.string (strOf u.au),.string (strOf u.hst),.int .i64 u.port,.int .i64 0]) (apE rfl (OB.row X2.out _ _ _ _) true _ rfl rfl) rfl ⟨rfl,below_setRow HB1.out (Nat.le_succ _) _⟩
theorem of_none (u:U) (A:Option Addr) (n c:Nat) (w:World) (hs:¬five u.au) (hb:u.au≠[98,108,111,98]):Calls Tryz.prog 23 #[.agg #[.string (strOf u.au),.string (strOf u.usr),.string (strOf u.MX),.string (strOf u.hst),.bool u.hh,.int .i64 u.port,.bool u.opq,.string (strOf u.txt),.slice A n c,.bool u.hq,.bool u.hf,.string (strOf u.dY),.string (strOf u.fB)]] w fun e w'=>e=.returned (.tuple #[.agg #[.string ⟨#[]⟩,.string ⟨#[]⟩,.int .i64 0,.int .i64 0],.bool false])∧Below w.heap.size w w':=by
 unfold five at hs
 have X4:¬u.au=[102,116,112]:=fun e=>hs (.inl e)
 have aoQ:((strOf u.au).toList==[102,116,112])=false:=by rw[aK,beq_eq_false_iff_ne];exact X4
 have apb:¬(strOf u.au).toList=[102,116,112]:=by rw[aK];exact X4
 have TT:¬u.au=[104,116,116,112]:=fun e=>hs (.inr (.inl e))
 have ai2:((strOf u.au).toList==[104,116,116,112])=false:=by rw[aK,beq_eq_false_iff_ne];exact TT
 have aoM:¬(strOf u.au).toList=[104,116,116,112]:=by rw[aK];exact TT
 have vw:¬u.au=[104,116,116,112,115]:=fun e=>hs (.inr (.inr (.inl e)))
 have apk:((strOf u.au).toList==[104,116,116,112,115])=false:=by rw[aK,beq_eq_false_iff_ne];exact vw
 have apu:¬(strOf u.au).toList=[104,116,116,112,115]:=by rw[aK];exact vw
 have nws:¬u.au=[119,115]:=fun e=>hs (.inr (.inr (.inr (.inl e))))
 have ar2:((strOf u.au).toList==[119,115])=false:=by rw[aK,beq_eq_false_iff_ne];exact nws
 have ar5:¬(strOf u.au).toList=[119,115]:=by rw[aK];exact nws
 have apy:¬u.au=[119,115,115]:=fun e=>hs (.inr (.inr (.inr (.inr (e)))))
 have arB:((strOf u.au).toList==[119,115,115])=false:=by rw[aK,beq_eq_false_iff_ne];exact apy
 have arG:¬(strOf u.au).toList=[119,115,115]:=by rw[aK];exact apy
 have e0hb:((strOf u.au).toList==[98,108,111,98])=false:=by rw[aK,beq_eq_false_iff_ne];exact hb
 have e1hb:¬(strOf u.au).toList=[98,108,111,98]:=by rw[aK];exact hb
 clear hs hb X4 TT vw nws apy
 go_enter Tryz.func23,Tryz.ntmps23
 go_upto_region 1 with(fail)
 generalize bI:World.alloc (World.alloc w _) _=v1
 have h1_:UB v1 w.heap.size u (.slice A n c)∧OB v1 (w.heap.size+1) ⟨#[]⟩ ⟨#[]⟩ 0 0∧Below w.heap.size w v1:=by
  subst bI
  exact laid2 w _ _ _ _
 clear bI
 have X1:=hid h1_.1
 have X2:=hid h1_.2.1
 have hb:=h1_.2.2
 clear h1_
 have HB1:=hid hb
 clear hb
 obtain⟨d0,d1,d2,d3,d4,d5,d6,d7,d8,d9,d10,d11,d12⟩:=X1.out.facts
 go_wp2_with (refine ahR X2.out ⟨#[]⟩ ⟨#[]⟩ 0 0 (.tmp 2) (.tmp 45) rfl rfl rfl rfl ?_)
 try simp only[Exit.inBlock,Exit.then]
 exact bodyPost_ret (w:=World.setRow v1 (w.heap.size+1) #[.string ⟨#[]⟩,.string ⟨#[]⟩,.int .i64 0,.int .i64 0]) (apE rfl (OB.row X2.out _ _ _ _) false _ rfl rfl) rfl ⟨rfl,below_setRow HB1.out (Nat.le_succ _) _⟩
theorem ap7 (u v:U) (T:ByteArray) (A:Option Addr) (n c:Nat) (w:World) (hs:u.au=[98,108,111,98]) (TB:Hid (∀w:World,Pt w u A n c→Calls Tryz.prog 67 #[.agg #[.string (strOf u.au),.string (strOf u.usr),.string (strOf u.MX),.string (strOf u.hst),.bool u.hh,.int .i64 u.port,.bool u.opq,.string (strOf u.txt),.slice A n c,.bool u.hq,.bool u.hf,.string (strOf u.dY),.string (strOf u.fB)]] w fun e w'=>e=.returned (.string T)∧Below w.heap.size w w')) (HP:Hid (∀w,Env w→Calls Tryz.prog 16 #[.string T,.pointer none] w fun e w'=>∃A' n' c',e=.returned (.tuple #[.agg #[.string (strOf v.au),.string (strOf v.usr),.string (strOf v.MX),.string (strOf v.hst),.bool v.hh,.int .i64 v.port,.bool v.opq,.string (strOf v.txt),.slice A' n' c',.bool v.hq,.bool v.hf,.string (strOf v.dY),.string (strOf v.fB)],.int .i64 2])∧Pt w' v A' n' c'∧Below w.heap.size w w')) (hE:Env w) (hP:Pt w u A n c):Calls Tryz.prog 23 #[.agg #[.string (strOf u.au),.string (strOf u.usr),.string (strOf u.MX),.string (strOf u.hst),.bool u.hh,.int .i64 u.port,.bool u.opq,.string (strOf u.txt),.slice A n c,.bool u.hq,.bool u.hf,.string (strOf u.dY),.string (strOf u.fB)]] w fun e w'=>e=.returned (.tuple #[.agg #[.string ⟨#[]⟩,.string ⟨#[]⟩,.int .i64 0,.int .i64 0],.bool false])∧Below w.heap.size w w':=by
 have X4:¬u.au=[102,116,112]:=by rw[hs];decide
 have aoQ:((strOf u.au).toList==[102,116,112])=false:=by rw[aK,beq_eq_false_iff_ne];exact X4
 have apb:¬(strOf u.au).toList=[102,116,112]:=by rw[aK];exact X4
 have TT:¬u.au=[104,116,116,112]:=by rw[hs];decide
 have ai2:((strOf u.au).toList==[104,116,116,112])=false:=by rw[aK,beq_eq_false_iff_ne];exact TT
 have aoM:¬(strOf u.au).toList=[104,116,116,112]:=by rw[aK];exact TT
 have vw:¬u.au=[104,116,116,112,115]:=by rw[hs];decide
 have apk:((strOf u.au).toList==[104,116,116,112,115])=false:=by rw[aK,beq_eq_false_iff_ne];exact vw
 have apu:¬(strOf u.au).toList=[104,116,116,112,115]:=by rw[aK];exact vw
 have nws:¬u.au=[119,115]:=by rw[hs];decide
 have ar2:((strOf u.au).toList==[119,115])=false:=by rw[aK,beq_eq_false_iff_ne];exact nws
 have ar5:¬(strOf u.au).toList=[119,115]:=by rw[aK];exact nws
 have apy:¬u.au=[119,115,115]:=by rw[hs];decide
 have arB:((strOf u.au).toList==[119,115,115])=false:=by rw[aK,beq_eq_false_iff_ne];exact apy
 have arG:¬(strOf u.au).toList=[119,115,115]:=by rw[aK];exact apy
 have ari:((strOf u.au).toList==[98,108,111,98])=true:=by rw[aK,hs];first|done|rfl
 have arj:(strOf u.au).toList=[98,108,111,98]:=by rw[aK,hs];first|done|rfl
 have HE:=hid hE
 have HPT:=hid hP
 clear hs hE hP X4 TT vw nws apy
 go_enter Tryz.func23,Tryz.ntmps23
 go_upto_region 1 with(fail)
 generalize bI:World.alloc (World.alloc w _) _=v1
 have h1_:UB v1 w.heap.size u (.slice A n c)∧OB v1 (w.heap.size+1) ⟨#[]⟩ ⟨#[]⟩ 0 0∧Below w.heap.size w v1:=by
  subst bI
  exact laid2 w _ _ _ _
 clear bI
 have X1:=hid h1_.1
 have X2:=hid h1_.2.1
 have hb:=h1_.2.2
 clear h1_
 have HB1:=hid hb
 clear hb
 have asI:=hid (HE.out.below HB1.out)
 have aqL:=hid (HPT.out.below HB1.out)
 obtain⟨d0,d1,d2,d3,d4,d5,d6,d7,d8,d9,d10,d11,d12⟩:=X1.out.facts
 go_wp2_with fail
 clear d0 d1 d2 d3 d4 d5 d6 d7 d8 d9 d10 d11 d12
 refine(TB.out _ aqL.out).mono ?_
 rintro e w2 ⟨rfl,hb⟩
 have HB2:=hid (bel HB1.out hb)
 have Xb:=hid (X1.out.below hb)
 have Pn:=hid (X2.out.below hb)
 have xY:=hid (asI.out.below hb)
 have WY:=hid (aqL.out.below hb)
 clear hb
 go_wp2_with fail
 refine(HP.out _ xY.out).mono ?_
 rintro e w3 ⟨A2,n2,c2,rfl,hpt,hb⟩
 have HB3:=hid (bel HB2.out hb)
 have acW:=hid (Xb.out.below hb)
 have aqT:=hid (Pn.out.below hb)
 have vV:=hid (xY.out.below hb)
 have zJ:=hid (WY.out.below hb)
 clear hb
 clear hpt
 go_upto_region 12 with(fail)
 generalize bI:World.alloc _ _=v4
 have hxa:UB v4 (w3.heap.size) v (.slice A2 n2 c2):=by rw[←bI];exact heap_alloc_new _ _
 have hb:Below w3.heap.size w3 v4:=by rw[←bI];exact(Below.refl _ _).alloc (Nat.le_refl _) _
 have X3:=hid hxa
 clear bI hxa
 have HB4:=hid (bel HB3.out hb)
 have Pj:=hid (acW.out.below hb)
 have arv:=hid (aqT.out.below hb)
 have Hw:=hid (vV.out.below hb)
 have O7:=hid (zJ.out.below hb)
 clear hb
 go_wp2_with (refine ahR arv.out ⟨#[]⟩ ⟨#[]⟩ 0 0 (.tmp 2) (.tmp 45) rfl rfl rfl rfl ?_)
 try simp only[Exit.inBlock,Exit.then]
 exact bodyPost_ret (w:=World.setRow v4 (w.heap.size+1) #[.string ⟨#[]⟩,.string ⟨#[]⟩,.int .i64 0,.int .i64 0]) (apE rfl (OB.row arv.out _ _ _ _) false _ rfl rfl) rfl ⟨rfl,below_setRow HB4.out (Nat.le_succ _) _⟩
theorem aph (u v:U) (T:ByteArray) (A:Option Addr) (n c:Nat) (w:World) (hs:u.au=[98,108,111,98]) (TB:Hid (∀w:World,Pt w u A n c→Calls Tryz.prog 67 #[.agg #[.string (strOf u.au),.string (strOf u.usr),.string (strOf u.MX),.string (strOf u.hst),.bool u.hh,.int .i64 u.port,.bool u.opq,.string (strOf u.txt),.slice A n c,.bool u.hq,.bool u.hf,.string (strOf u.dY),.string (strOf u.fB)]] w fun e w'=>e=.returned (.string T)∧Below w.heap.size w w')) (HP:Hid (∀w,Env w→Calls Tryz.prog 16 #[.string T,.pointer none] w fun e w'=>∃A' n' c',e=.returned (.tuple #[.agg #[.string (strOf v.au),.string (strOf v.usr),.string (strOf v.MX),.string (strOf v.hst),.bool v.hh,.int .i64 v.port,.bool v.opq,.string (strOf v.txt),.slice A' n' c',.bool v.hq,.bool v.hf,.string (strOf v.dY),.string (strOf v.fB)],.int .i64 0])∧Pt w' v A' n' c'∧Below w.heap.size w w')) (hv:v.au≠[104,116,116,112]∧v.au≠[104,116,116,112,115]) (hE:Env w) (hP:Pt w u A n c):Calls Tryz.prog 23 #[.agg #[.string (strOf u.au),.string (strOf u.usr),.string (strOf u.MX),.string (strOf u.hst),.bool u.hh,.int .i64 u.port,.bool u.opq,.string (strOf u.txt),.slice A n c,.bool u.hq,.bool u.hf,.string (strOf u.dY),.string (strOf u.fB)]] w fun e w'=>e=.returned (.tuple #[.agg #[.string ⟨#[]⟩,.string ⟨#[]⟩,.int .i64 0,.int .i64 0],.bool false])∧Below w.heap.size w w':=by
 have X4:¬u.au=[102,116,112]:=by rw[hs];decide
 have aoQ:((strOf u.au).toList==[102,116,112])=false:=by rw[aK,beq_eq_false_iff_ne];exact X4
 have apb:¬(strOf u.au).toList=[102,116,112]:=by rw[aK];exact X4
 have TT:¬u.au=[104,116,116,112]:=by rw[hs];decide
 have ai2:((strOf u.au).toList==[104,116,116,112])=false:=by rw[aK,beq_eq_false_iff_ne];exact TT
 have aoM:¬(strOf u.au).toList=[104,116,116,112]:=by rw[aK];exact TT
 have vw:¬u.au=[104,116,116,112,115]:=by rw[hs];decide
 have apk:((strOf u.au).toList==[104,116,116,112,115])=false:=by rw[aK,beq_eq_false_iff_ne];exact vw
 have apu:¬(strOf u.au).toList=[104,116,116,112,115]:=by rw[aK];exact vw
 have nws:¬u.au=[119,115]:=by rw[hs];decide
 have ar2:((strOf u.au).toList==[119,115])=false:=by rw[aK,beq_eq_false_iff_ne];exact nws
 have ar5:¬(strOf u.au).toList=[119,115]:=by rw[aK];exact nws
 have apy:¬u.au=[119,115,115]:=by rw[hs];decide
 have arB:((strOf u.au).toList==[119,115,115])=false:=by rw[aK,beq_eq_false_iff_ne];exact apy
 have arG:¬(strOf u.au).toList=[119,115,115]:=by rw[aK];exact apy
 have ari:((strOf u.au).toList==[98,108,111,98])=true:=by rw[aK,hs];first|done|rfl
 have arj:(strOf u.au).toList=[98,108,111,98]:=by rw[aK,hs];first|done|rfl
 obtain⟨hv1,hv2⟩:=hv
 have e0hv1:((strOf v.au).toList==[104,116,116,112])=false:=by rw[aK,beq_eq_false_iff_ne];exact hv1
 have e1hv1:¬(strOf v.au).toList=[104,116,116,112]:=by rw[aK];exact hv1
 have e0hv2:((strOf v.au).toList==[104,116,116,112,115])=false:=by rw[aK,beq_eq_false_iff_ne];exact hv2
 have e1hv2:¬(strOf v.au).toList=[104,116,116,112,115]:=by rw[aK];exact hv2
 clear hv1 hv2
 have HE:=hid hE
 have HPT:=hid hP
 clear hs hE hP X4 TT vw nws apy
 go_enter Tryz.func23,Tryz.ntmps23
 go_upto_region 1 with(fail)
 generalize bI:World.alloc (World.alloc w _) _=v1
 have h1_:UB v1 w.heap.size u (.slice A n c)∧OB v1 (w.heap.size+1) ⟨#[]⟩ ⟨#[]⟩ 0 0∧Below w.heap.size w v1:=by
  subst bI
  exact laid2 w _ _ _ _
 clear bI
 have X1:=hid h1_.1
 have X2:=hid h1_.2.1
 have hb:=h1_.2.2
 clear h1_
 have HB1:=hid hb
 clear hb
 have asI:=hid (HE.out.below HB1.out)
 have aqL:=hid (HPT.out.below HB1.out)
 obtain⟨d0,d1,d2,d3,d4,d5,d6,d7,d8,d9,d10,d11,d12⟩:=X1.out.facts
 go_wp2_with fail
 clear d0 d1 d2 d3 d4 d5 d6 d7 d8 d9 d10 d11 d12
 refine(TB.out _ aqL.out).mono ?_
 rintro e w2 ⟨rfl,hb⟩
 have HB2:=hid (bel HB1.out hb)
 have Xb:=hid (X1.out.below hb)
 have Pn:=hid (X2.out.below hb)
 have xY:=hid (asI.out.below hb)
 have WY:=hid (aqL.out.below hb)
 clear hb
 go_wp2_with fail
 refine(HP.out _ xY.out).mono ?_
 rintro e w3 ⟨A2,n2,c2,rfl,hpt,hb⟩
 have HB3:=hid (bel HB2.out hb)
 have acW:=hid (Xb.out.below hb)
 have aqT:=hid (Pn.out.below hb)
 have vV:=hid (xY.out.below hb)
 have zJ:=hid (WY.out.below hb)
 clear hb
 clear hpt
 go_upto_region 12 with(fail)
 generalize bI:World.alloc _ _=v4
 have hxa:UB v4 (w3.heap.size) v (.slice A2 n2 c2):=by rw[←bI];exact heap_alloc_new _ _
 have hb:Below w3.heap.size w3 v4:=by rw[←bI];exact(Below.refl _ _).alloc (Nat.le_refl _) _
 have X3:=hid hxa
 clear bI hxa
 have HB4:=hid (bel HB3.out hb)
 have Pj:=hid (acW.out.below hb)
 have arv:=hid (aqT.out.below hb)
 have Hw:=hid (vV.out.below hb)
 have O7:=hid (zJ.out.below hb)
 clear hb
 go_wp2_with (refine ahR arv.out ⟨#[]⟩ ⟨#[]⟩ 0 0 (.tmp 2) (.tmp 45) rfl rfl rfl rfl ?_)
 try simp only[Exit.inBlock,Exit.then]
 exact bodyPost_ret (w:=World.setRow v4 (w.heap.size+1) #[.string ⟨#[]⟩,.string ⟨#[]⟩,.int .i64 0,.int .i64 0]) (apE rfl (OB.row arv.out _ _ _ _) false _ rfl rfl) rfl ⟨rfl,below_setRow HB4.out (Nat.le_succ _) _⟩
theorem apD (u v:U) (T:ByteArray) (A:Option Addr) (n c:Nat) (w:World) (hs:u.au=[98,108,111,98]) (TB:Hid (∀w:World,Pt w u A n c→Calls Tryz.prog 67 #[.agg #[.string (strOf u.au),.string (strOf u.usr),.string (strOf u.MX),.string (strOf u.hst),.bool u.hh,.int .i64 u.port,.bool u.opq,.string (strOf u.txt),.slice A n c,.bool u.hq,.bool u.hf,.string (strOf u.dY),.string (strOf u.fB)]] w fun e w'=>e=.returned (.string T)∧Below w.heap.size w w')) (HP:Hid (∀w,Env w→Calls Tryz.prog 16 #[.string T,.pointer none] w fun e w'=>∃A' n' c',e=.returned (.tuple #[.agg #[.string (strOf v.au),.string (strOf v.usr),.string (strOf v.MX),.string (strOf v.hst),.bool v.hh,.int .i64 v.port,.bool v.opq,.string (strOf v.txt),.slice A' n' c',.bool v.hq,.bool v.hf,.string (strOf v.dY),.string (strOf v.fB)],.int .i64 0])∧Pt w' v A' n' c'∧Below w.heap.size w w')) (hv:v.au=[104,116,116,112]) (hE:Env w) (hP:Pt w u A n c):Calls Tryz.prog 23 #[.agg #[.string (strOf u.au),.string (strOf u.usr),.string (strOf u.MX),.string (strOf u.hst),.bool u.hh,.int .i64 u.port,.bool u.opq,.string (strOf u.txt),.slice A n c,.bool u.hq,.bool u.hf,.string (strOf u.dY),.string (strOf u.fB)]] w fun e w'=>e=.returned (.tuple #[.agg #[.string (strOf v.au),.string (strOf v.hst),.int .i64 v.port,.int .i64 0],.bool true])∧Below w.heap.size w w':=by
 have X4:¬u.au=[102,116,112]:=by rw[hs];decide
 have aoQ:((strOf u.au).toList==[102,116,112])=false:=by rw[aK,beq_eq_false_iff_ne];exact X4
 have apb:¬(strOf u.au).toList=[102,116,112]:=by rw[aK];exact X4
 have TT:¬u.au=[104,116,116,112]:=by rw[hs];decide
 have ai2:((strOf u.au).toList==[104,116,116,112])=false:=by rw[aK,beq_eq_false_iff_ne];exact TT
 have aoM:¬(strOf u.au).toList=[104,116,116,112]:=by rw[aK];exact TT
 have vw:¬u.au=[104,116,116,112,115]:=by rw[hs];decide
 have apk:((strOf u.au).toList==[104,116,116,112,115])=false:=by rw[aK,beq_eq_false_iff_ne];exact vw
 have apu:¬(strOf u.au).toList=[104,116,116,112,115]:=by rw[aK];exact vw
 have nws:¬u.au=[119,115]:=by rw[hs];decide
 have ar2:((strOf u.au).toList==[119,115])=false:=by rw[aK,beq_eq_false_iff_ne];exact nws
 have ar5:¬(strOf u.au).toList=[119,115]:=by rw[aK];exact nws
 have apy:¬u.au=[119,115,115]:=by rw[hs];decide
 have arB:((strOf u.au).toList==[119,115,115])=false:=by rw[aK,beq_eq_false_iff_ne];exact apy
 have arG:¬(strOf u.au).toList=[119,115,115]:=by rw[aK];exact apy
 have ari:((strOf u.au).toList==[98,108,111,98])=true:=by rw[aK,hs];first|done|rfl
 have arj:(strOf u.au).toList=[98,108,111,98]:=by rw[aK,hs];first|done|rfl
 have e0hv:((strOf v.au).toList==[104,116,116,112])=true:=by rw[aK,hv];first|done|rfl
 have e1hv:(strOf v.au).toList=[104,116,116,112]:=by rw[aK,hv];first|done|rfl
 have HOT:Hid (∀(A:Option Addr) (n c:Nat) (w:World),Calls Tryz.prog 23 #[.agg #[.string (strOf v.au),.string (strOf v.usr),.string (strOf v.MX),.string (strOf v.hst),.bool v.hh,.int .i64 v.port,.bool v.opq,.string (strOf v.txt),.slice A n c,.bool v.hq,.bool v.hf,.string (strOf v.dY),.string (strOf v.fB)]] w fun e w'=>e=.returned (.tuple #[.agg #[.string (strOf v.au),.string (strOf v.hst),.int .i64 v.port,.int .i64 0],.bool true])∧Below w.heap.size w w'):=fun A n c w=>asa v A n c w (.inl hv)
 have HE:=hid hE
 have HPT:=hid hP
 clear hs hv hE hP X4 TT vw nws apy
 go_enter Tryz.func23,Tryz.ntmps23
 go_upto_region 1 with(fail)
 generalize bI:World.alloc (World.alloc w _) _=v1
 have h1_:UB v1 w.heap.size u (.slice A n c)∧OB v1 (w.heap.size+1) ⟨#[]⟩ ⟨#[]⟩ 0 0∧Below w.heap.size w v1:=by
  subst bI
  exact laid2 w _ _ _ _
 clear bI
 have X1:=hid h1_.1
 have X2:=hid h1_.2.1
 have hb:=h1_.2.2
 clear h1_
 have HB1:=hid hb
 clear hb
 have asI:=hid (HE.out.below HB1.out)
 have aqL:=hid (HPT.out.below HB1.out)
 obtain⟨d0,d1,d2,d3,d4,d5,d6,d7,d8,d9,d10,d11,d12⟩:=X1.out.facts
 go_wp2_with fail
 clear d0 d1 d2 d3 d4 d5 d6 d7 d8 d9 d10 d11 d12
 refine(TB.out _ aqL.out).mono ?_
 rintro e w2 ⟨rfl,hb⟩
 have HB2:=hid (bel HB1.out hb)
 have Xb:=hid (X1.out.below hb)
 have Pn:=hid (X2.out.below hb)
 have xY:=hid (asI.out.below hb)
 have WY:=hid (aqL.out.below hb)
 clear hb
 go_wp2_with fail
 refine(HP.out _ xY.out).mono ?_
 rintro e w3 ⟨A2,n2,c2,rfl,hpt,hb⟩
 have HB3:=hid (bel HB2.out hb)
 have acW:=hid (Xb.out.below hb)
 have aqT:=hid (Pn.out.below hb)
 have vV:=hid (xY.out.below hb)
 have zJ:=hid (WY.out.below hb)
 clear hb
 clear hpt
 go_upto_region 10 with(fail)
 generalize bI:World.alloc _ _=v4
 have hxa:UB v4 (w3.heap.size) v (.slice A2 n2 c2):=by rw[←bI];exact heap_alloc_new _ _
 have hb:Below w3.heap.size w3 v4:=by rw[←bI];exact(Below.refl _ _).alloc (Nat.le_refl _) _
 have X3:=hid hxa
 clear bI hxa
 have HB4:=hid (bel HB3.out hb)
 have Pj:=hid (acW.out.below hb)
 have arv:=hid (aqT.out.below hb)
 have Hw:=hid (vV.out.below hb)
 have O7:=hid (zJ.out.below hb)
 clear hb
 obtain⟨d0,d1,d2,d3,d4,d5,d6,d7,d8,d9,d10,d11,d12⟩:=X3.out.facts
 go_wp2_with fail
 clear d0 d1 d2 d3 d4 d5 d6 d7 d8 d9 d10 d11 d12
 refine(HOT.out _ _ _ _).mono ?_
 rintro e w5 ⟨rfl,hb⟩
 have iG:=hid (bel HB4.out hb)
 have Pm:=hid (Pj.out.below hb)
 have ar1:=hid (arv.out.below hb)
 have Uu:=hid (Hw.out.below hb)
 have O8:=hid (O7.out.below hb)
 have X3_5:=hid (X3.out.below hb)
 clear hb
 go_wp2_with (refine ahR ar1.out (strOf v.au) (strOf v.hst) v.port 0 (.tmp 2) (.tmp 43) rfl rfl rfl rfl ?_)
 try simp only[Exit.inBlock,Exit.then]
 exact bodyPost_ret (w:=World.setRow w5 (w.heap.size+1) #[.string (strOf v.au),.string (strOf v.hst),.int .i64 v.port,.int .i64 0]) (apE rfl (OB.row ar1.out _ _ _ _) true _ rfl rfl) rfl ⟨rfl,below_setRow iG.out (Nat.le_succ _) _⟩
end Go.Proofs.YtgamccijegollaaGreatDoor.atr
namespace Go.Proofs.YtgamccijegollaaGreatDoor.aj6
open Go.RowKit Base dI cO aco J5 wS acK atP NJ wo zD
theorem in0 (c:UInt8) (h1:32≤c.toNat) (h2:c.toNat≤126):ji 0 c.toNat=false:=dn (p:=fun c=>32≤c.toNat→c.toNat≤126→ji 0 c.toNat=false) (by decide+kernel) c h1 h2
def zC:List UInt8:=[98,108,111,98]
theorem bare_ok {u:U} (h:Ok u):Ok (wI u):=by
 obtain⟨a1,a2,a3,a4,a5,a6,a7,a8,a9,a10,a11,_,_,_,_⟩:=h
 exact⟨a1,a2,a3,a4,a5,a6,a7,a8,a9,a10,a11,fun c hc=>(by cases hc),fun c hc=>(by cases hc),fun _=>rfl,fun _=>rfl⟩
theorem aef (u:U):fQ (wI u)=u.au++58::pX u:=by
 rw[Ll,yD]
 show u.au++[58]++KU u++aZ.pF u.opq (strOf u.txt) u.aO++[]++[]=_
 unfold pX
 simp
theorem ac3 {u:U} (h:Ok u):(∀c ∈ fQ (wI u),c≠63∧c≠35∧32≤c.toNat∧c.toNat≤126)∧Lib.hasSuffix (fQ (wI u)) [32]=false∧∃c t,fQ (wI u)=c::t∧c≠47:=by
 obtain⟨hr,hrs⟩:=Rt h
 obtain⟨⟨c,t,e,hc⟩,hs2⟩:=V4 h.au
 rw[aef]
 refine⟨fun d hd=>?_,?_,c,t++58::pX u,by rw[e];rfl,?_⟩
 ·simp only[List.mem_append,List.mem_cons]at hd
  rcases hd with hd|rfl|hd
  ·have:=hs2 d hd
   exact⟨this.2.1,this.2.2.1,by omega,this.2.2.2.2⟩
  ·decide
  exact hr d hd
 ·rcases jC (pX u)with e2|⟨M,d,e2⟩
  ·rw[e2,eP];decide
  rw[e2,eP]at hrs
  rw[e2,show u.au++58::(M++[d])=(u.au++58::M)++[d]from by simp,eP]
  exact hrs
 rintro rfl
 have h1:=h.au
 rw[e]at h1
 unfold lI at h1
 rw[Bool.and_eq_true]at h1
 exact absurd h1.1 (by decide+kernel)
def o7 (T:List UInt8):U:={U0 with au:=zC,port:= -1,opq:=true,txt:=T}
theorem auP {u:U} (h:Ok u):wS.url (zC++58::fQ (wI u)) none=some (o7 (fQ (wI u))):=by
 obtain⟨hc,hs,c,t,e,h47⟩:=ac3 h
 generalize hT:fQ (wI u)=T at hc hs e
 have hall:∀d ∈ zC++58::T,d≠63∧d≠35∧32≤d.toNat∧d.toNat≤126:=by
  intro d hd
  simp only[List.mem_append,List.mem_cons]at hd
  rcases hd with hd|rfl|hd
  ·revert d;decide
  ·decide
  exact hc d hd
 have hsuf:Lib.hasSuffix (zC++58::T) [32]=false:=by
  rcases jC T with e2|⟨M,d,e2⟩
  ·rw[e2]at e;cases e
  rw[e2,eP]at hs
  rw[e2,show zC++58::(M++[d])=(zC++58::M)++[d]from by simp,eP]
  exact hs
 have hcl:clean (zC++58::T)=zC++58::T:=Dc (fun d hd=>(hall d hd).2.2) ⟨98,[108,111,98]++58::T,rfl,by decide⟩ hsuf
 have hap:wS.apart (zC++58::T)=⟨zC,T,[],[],false,false⟩:=by
  unfold wS.apart
  simp only
  rw[iP 35 _ fun d hd=>(hall d hd).2.1]
  simp only
  rw[iP 63 _ fun d hd=>(hall d hd).1]
  simp only
  rw[kW 58 zC T (by decide)]
  simp only
  rw[if_pos (by decide+kernel)]
  congr 1
 have he0:FM.enc 0 T=T:=Hz.lV 0 _ fun d hd=>by
  have:=hc d hd
  exact in0 d this.2.2.1 this.2.2.2
 have hp:∀M:List UInt8,Lib.hasPrefix T (47::M)=false:=fun M=>by
  rw[e]
  show((47==c)&&_)=false
  rw[beq_eq_false_iff_ne.2 (fun x=>h47 x.symm)]
  rfl
 unfold wS.url
 rw[hcl,hap]
 unfold wS.resolve wS.plain
 simp only
 rw[if_neg (by decide),if_neg (by decide),if_pos (by decide),hp,if_neg (by decide),hp,if_neg (by decide)]
 have ho:wS.opq (false||false) T=T:=by
  unfold wS.opq
  rw[he0,if_neg (fun x=>by cases x.2)]
 rw[ho]
 rfl
theorem inner {u:U} (h:Ok u):wS.url (fQ (wI u)) none=some (wI u):=zy (bare_ok h)
end Go.Proofs.YtgamccijegollaaGreatDoor.aj6
namespace Go.Proofs.YtgamccijegollaaGreatDoor.OrgY
open Go.RowKit Base Dp cO aco Pg sU wS mW tK yx jQ pO vZ WQ oN NJ wo UG Kq aj6 as9 atr
theorem asM (u:U) {N:Nat} (hF:Fit u N) (hN:N≤1073741824):Hid (∀(w:World) (A:Option Addr) (n c:Nat),Pt w u A n c→Calls Tryz.prog 67 #[.agg #[.string (strOf u.au),.string (strOf u.usr),.string (strOf u.MX),.string (strOf u.hst),.bool u.hh,.int .i64 u.port,.bool u.opq,.string (strOf u.txt),.slice A n c,.bool u.hq,.bool u.hf,.string (strOf u.dY),.string (strOf u.fB)]] w fun e w'=>e=.returned (.string (strOf (aZ.pF u.opq (strOf u.txt) u.aO)))∧Below w.heap.size w w'):=fun w A n c hP=>by
 obtain⟨k1,k2,k3,k4,k5,k6,k7,k8⟩:=Vg hF hN
 exact UrlB.DU (strOf u.au) (strOf u.usr) (strOf u.MX) (strOf u.hst) u.hh u.port u.opq (strOf u.txt) A n c u.aO u.hq u.hf (strOf u.dY) (strOf u.fB) w hP.aO.1 hP.aO.2.1 hP.aO.2.2 k5 k8
theorem arp {u:U} {N:Nat} (h:Fit u N):(aZ.pF u.opq (strOf u.txt) u.aO).length≤N:=by
 have h1:=h.all
 unfold aZ.pF
 split
 ·have:(strOf u.txt).data.toList.length=u.txt.length:=by rw[show(strOf u.txt).data.toList.length=(strOf u.txt).size from Array.length_toList,o9]
  omega
 have h2:(aZ.aO u.aO).length=pl u.aO:=rfl
 omega
end Go.Proofs.YtgamccijegollaaGreatDoor.OrgY
namespace Go.Proofs.YtgamccijegollaaGreatDoor.aj3
open Go.RowKit Base Dp dI cO aco wS mW Pbx tK yx sU pO vZ WQ acK NJ wo aj6
def uZ (c:UInt8):Bool:=decide (c≠63)&&(decide (c≠35)&&(decide (33≤c.toNat)&&decide (c.toNat≤126)))
theorem nC {c:UInt8} (h:uZ c=true):c≠63∧c≠35∧33≤c.toNat∧c.toNat≤126:=by simpa[uZ]using h
structure Fine (S R:List UInt8):Prop where
 au:S.all NT=true
 let0:lI S=true
 low:cO.lower S=S
 fs:S.all uZ=true
 amA:∀c ∈ S,c≠58
 file:S≠FILE
 spc:special S=false
 r:R.all uZ=true
 r0:R≠[]
 r47:Lib.hasPrefix R [47]=false
theorem ZK {S R F:List UInt8} (h:Fine S R) (hf:F.all uZ=true):(∀c ∈ S++58::R++F,33≤c.toNat∧c.toNat≤126):=by
 intro c hc
 simp only[List.mem_append,List.mem_cons]at hc
 rcases hc with(hc|rfl|hc)|hc
 ·have:=nC (List.all_eq_true.1 h.fs c hc);exact this.2.2
 ·decide
 ·have:=nC (List.all_eq_true.1 h.r c hc);exact this.2.2
 have:=nC (List.all_eq_true.1 hf c hc);exact this.2.2
theorem PZ {T:List UInt8} (h0:T≠[]) (h:∀c ∈ T,33≤c.toNat∧c.toNat≤126):clean T=T:=by
 refine Dc (fun c hc=>⟨by have:=h c hc;omega,(h c hc).2⟩) ?_ ?_
 ·match T,h0,h with
  |c::t,_,h=>
   refine⟨c,t,rfl,?_⟩
   have:=h c (List.mem_cons_self ..)
   simp only[fO,decide_eq_false_iff_not];omega
 rcases jC T with e|⟨M,d,e⟩
 ·rw[e];rfl
 rw[e,eP,decide_eq_false_iff_not]
 rintro rfl
 have:=h 32 (by rw[e];simp)
 exact absurd this.1 (by decide)
theorem ZO {S R:List UInt8} (h:Fine S R):wS.apart (S++58::R)=⟨S,R,[],[],false,false⟩:=by
 have hall:∀d ∈ S++58::R,d≠63∧d≠35:=by
  intro d hd
  simp only[List.mem_append,List.mem_cons]at hd
  rcases hd with hd|rfl|hd
  ·have:=nC (List.all_eq_true.1 h.fs d hd);exact⟨this.1,this.2.1⟩
  ·decide
  have:=nC (List.all_eq_true.1 h.r d hd);exact⟨this.1,this.2.1⟩
 unfold wS.apart
 simp only
 rw[iP 35 _ fun d hd=>(hall d hd).2]
 simp only
 rw[iP 63 _ fun d hd=>(hall d hd).1]
 simp only
 rw[kW 58 S R h.amA]
 simp only
 rw[if_pos (by rw[h.let0];rfl),h.low]
theorem EC {R:List UInt8} (h:R.all uZ=true):FM.enc 0 R=R:=Hz.lV 0 _ fun d hd=>by
 have:=nC (List.all_eq_true.1 h d hd)
 exact in0 d (by omega) this.2.2.2
def opU (S R:List UInt8):U:={U0 with au:=S,port:= -1,opq:=true,txt:=R}
end Go.Proofs.YtgamccijegollaaGreatDoor.aj3
