/- Texts that belong together: Ce, YX, B64P, acp, B64G. -/
import Derived.Test.YtgamccijegollaaGreatDoorFNAAL
import Derived.Test.YtgamccijegollaaGreatDoorFNAAH
import Derived.Test.YtgamccijegollaaGreatDoorFNAAA
import Derived.Test.YtgamccijegollaaGreatDoorFNAAC
import Derived.Test.YtgamccijegollaaGreatDoorFNAAF
set_option linter.unusedSimpArgs false
set_option linter.unusedVariables false
set_option maxRecDepth 100000
set_option maxHeartbeats 64000000
namespace Go.Proofs.YtgamccijegollaaGreatDoor.Ce
open Go.RowKit Base Dp cO pU Zz rC qg oG ajm JY
theorem below_setRow {B g:Nat} {w0 w:World} (h:Below B w0 w) (hg:B≤g) (ds:Array Value):Below B w0 (w.setRow g ds):=by
 refine⟨h.os,h.tape,h.output,?_,fun k hk=>(setRow_other w g k ds (by omega)).trans (h.block k hk)⟩
 simpa[World.setRow]using h.size
theorem aK (L:List UInt8):(strOf L).toList=L:=by rw[Lib.toList_data];rfl
theorem dl (s:ByteArray):s.data.toList.length=s.size:=Array.length_toList
def Z3 (T:TypeId) (w:World) (g:Nat):Prop:=B3 T w g (.string ⟨#[]⟩) (.string ⟨#[]⟩) (.slice none 0 0)
theorem Ru {w:World} {g b:Nat} (hne:b≠g) (ds:Array Value) (k:Nat):(w.setRow g ds).cell? ⟨b,k,none⟩=w.cell? ⟨b,k,none⟩:=by
 simp only[World.cell?,setRow_other w g b ds hne]
theorem Ou {w:World} {A:Option Addr} {n p:Nat} {l:List (ByteArray×ByteArray)} {T:TypeId} (hne:∀q ∈ l,q.1.data.toList≠[]) {a':Option Addr} {b' c':Nat} (h:zH w A n l) (hz:B3 T w p (.string ⟨#[]⟩) (.string ⟨#[]⟩) (.slice a' b' c')) (ds:Array Value):zH (w.setRow p ds) A n l:=by
 refine⟨h.1,fun j hj=>?_⟩
 obtain⟨g,off,e,hlt,h1,h2⟩:=h.2 j hj
 have hgp:g≠p:=by
  rintro rfl
  have hc:=cell_of_row w g (off+j*2) _ _ _ hz
  rw[h1]at hc
  have hn:=hne l[j] (List.getElem_mem hj)
  generalize off+j*2=i at hc
  match i,hc with
  |0,hc=>
   simp at hc
   exact hn (by rw[hc])
  |1,hc=>
   simp at hc
   exact hn (by rw[hc])
  |2,hc=>simp at hc
  |_+3,hc=>simp at hc
 exact⟨g,off,e,by simpa[World.setRow]using hlt,(Ru hgp ds _).trans h1,(Ru hgp ds _).trans h2⟩
theorem Gs {T:TypeId} {w:World} {g:Nat} {a b c:Value} (h:B3 T w g a b c) (x y z:Value):B3 T (w.setRow g #[x,y,z]) g x y z:=setRow_heap w g #[a,b,c] #[x,y,z] _ (0,0) h
theorem vU {w:World} {g:Nat} {ops:Array Oper} {rest:List Oper} {o:Oper} {a:Act} {Q:Exit→Act→World→Prop} {p q r:Value} (hU:B3 44 w g p q r) (S1 S2:ByteArray) (A:Option Addr) (n c:Nat) (x y:Operand) (ho:o.op=.store 44 x y) (hgd:o.guard=none)
  (hx:a.eval x=.pointer (some ⟨g,0,none⟩)) (hy:a.eval y=.agg #[.string S1,.string S2,.slice A n c])
  (h:wpList Tryz.prog ops Q rest (a.put o.dst undef) (w.setRow g #[.string S1,.string S2,.slice A n c])):wpList Tryz.prog ops Q (o::rest) a w:=
 wpList_store_row hgd 44 x y ho g #[.string S1,.string S2,.slice A n c] hx hy 44 #[p,q,r] hU (by kernel_rfl) rfl (by simp[Value.oneCell']) h
def MtA (M:MT) (e:Ending) (w':World):Prop:=∃A c,e=.returned (.agg #[.string (strOf M.ty),.string (strOf M.sub),.slice A M.ps.length c])∧M.ps.length≤c∧c≤maxLen∧zH w' A M.ps.length (nY M.ps)
theorem anl {fn:Func} {a:Tmp} (hf:fn.results=#[.cell a 44]) {w:World} {g:Nat} {p q r:Value} (hU:B3 44 w g p q r) (tmps:Array Value) (h2:tmps.getD a undef=.pointer (some ⟨g,0,none⟩)):
  (results fn tmps).run Tryz.prog w=.ok (.agg #[p,q,r]) w:=
 results_cell_row hf tmps w g _ _ _ _ h2 hU Tryz.underlying44 rfl (by
  rw[show(Tryz.prog.info? 44).map (·.size)=some 3 by kernel_rfl]
  rfl)
theorem Jp {w:World} {A:Option Addr} {n p:Nat} {L:List UInt8} {T:TypeId} (h:aY w A n (ah L)) (hz:Z3 T w p) (ds:Array Value):aY (w.setRow p ds) A n (ah L):=by
 refine⟨h.1,fun j hj=>?_⟩
 obtain⟨g,off,e,hlt,h1⟩:=h.2 j hj
 have hgp:g≠p:=by
  rintro rfl
  have hc:=cell_of_row w g (off+j) _ _ _ hz
  rw[h1]at hc
  have hv:∃z:Int,(ah L)[j]=.int .u8 z:=⟨((L[j]'(by simpa[ah]using hj)).toNat:Int),by simp[ah]⟩
  obtain⟨z,hv⟩:=hv
  rw[hv]at hc
  generalize off+j=i at hc
  match i,hc with
  |0,hc=>simp at hc
  |1,hc=>simp at hc
  |2,hc=>simp at hc
  |_+3,hc=>simp at hc
 exact⟨g,off,e,by simpa[World.setRow]using hlt,(Ru hgp ds _).trans h1⟩
theorem QM (M:MT) (h:sV.fD M.ty M.sub M.ps=true):∀q ∈ nY M.ps,q.1.data.toList≠[]:=by
 intro q hq
 unfold nY at hq
 obtain⟨p,hp,rfl⟩:=List.mem_map.1 hq
 obtain⟨k,hk,rfl⟩:=List.getElem_of_mem hp
 unfold sV.fD at h
 rw[Bool.and_eq_true,Bool.and_eq_true]at h
 have:=sV.D6 h.2.2 k hk
 unfold sV.yU at this
 rw[List.getElem?_eq_getElem hk]at this
 simp only[Bool.and_eq_true]at this
 exact sV.En (sV.nK this.1).1
theorem adt:sV.fD fall.ty fall.sub fall.ps=true:=by decide
theorem LZ (H:List UInt8):sV.fD (typ H).ty (typ H).sub (typ H).ps=true:=by
 unfold typ
 cases h:mime (Es H)with
 |none=>exact adt
 |some M=>exact sV.adZ h
theorem aeJ (s:ByteArray) (w:World) (hs:s.size≤100000000):Calls Tryz.prog 76 #[.string s] w fun e w'=>(∃X,e=.returned (.tuple #[.string X,.bool (YT s.data.toList)])∧(YT s.data.toList=true→X=strOf (Us s.data.toList)))∧Below w.heap.size w w':=by
 obtain⟨ob,hob⟩:∃x,x=YT s.data.toList:=⟨_,rfl⟩
 obtain⟨ox,hox⟩:∃x,x=strOf (Us s.data.toList):=⟨_,rfl⟩
 rw[←hob,←hox]
 by_cases h6:s.size<6
 ·have HO:Hid (ob=false):=by
   show _=_
   rw[hob]
   unfold YT
   rw[decide_eq_false (by rw[dl];omega)]
   rfl
  have hi:(s.size:Int) - 6<0:=by omega
  clear hob hox
  go_enter Tryz.func76,Tryz.ntmps76
  go_wp2
  go_ret2
  exact⟨⟨_,by rw[HO.out];first|done|rfl,fun h=>by rw[HO.out]at h;cases h⟩,Below.refl _ _⟩
 obtain⟨k,hk⟩:∃k,s.size=k+6:=⟨s.size - 6,by omega⟩
 have hsz:(s.size:Int) - 6=(k:Int):=by omega
 have hk0:¬(k:Int)<0:=by omega
 have hk1:(k:Int)≤(s.size:Int):=by omega
 have hk2:k≤s.size:=by omega
 have hx:=ext_from s k s.size rfl
 have hy:=ext_to s k
 obtain⟨D,hD⟩:∃D,D=strOf (s.data.toList.drop k):=⟨_,rfl⟩
 obtain⟨H,hH⟩:∃H,H=strOf (s.data.toList.take k):=⟨_,rfl⟩
 obtain⟨X,hX⟩:∃X,X=strOf (lower (s.data.toList.drop k)):=⟨_,rfl⟩
 obtain⟨V,hV⟩:∃V,V=ahd s.data.toList:=⟨_,rfl⟩
 have hVl:V.length≤s.size:=by rw[hV];have:=ae6 s.data.toList;rw[dl]at this;exact this
 have hVe:Lib.trimRightS (s.data.toList.take k) [32]=V:=by rw[hV];unfold ahd;rw[dl,show s.size - 6=k by omega]
 have HLO:Hid (∀w:World,Calls Tryz.prog 113 #[.string D] w fun e w'=>e=.returned (.string X)∧Below w.heap.size w w'):=fun w=>by
  rw[hX,hD]
  exact gI _ w (by rw[o9,List.length_drop,dl];unfold maxLen;omega)
 have HTR:Hid (∀w:World,Calls Tryz.prog 172 #[.string H,.string ⟨#[32]⟩] w fun e w'=>e=.returned (.string (strOf V))∧Below w.heap.size w w'):=fun w=>by
  have h:=Tryz.strings_TrimRight_set H ⟨#[32]⟩ w (by rw[hH,o9,List.length_take,dl];omega) (by decide) (ascii_of_all (by decide))
  rw[show H.data.toList=s.data.toList.take k by rw[hH];rfl,show(⟨#[32]⟩:ByteArray).data.toList=[32]from rfl,hVe]at h
  exact h
 have Y5:Hid (∀w:World,Calls Tryz.prog 171 #[.string (strOf V),.string ⟨#[59]⟩] w fun e w'=>e=.returned (.tuple #[.string (strOf (Lib.trimSuffix V [59])),.bool (Lib.hasSuffix V [59])])∧w'=w):=fun w=>
  Tryz.strings_CutSuffix (strOf V) ⟨#[59]⟩ w (by rw[o9];omega)
 obtain⟨R,hR⟩:∃R,R=Lib.trimSuffix V [59]:=⟨_,rfl⟩
 obtain⟨sb,hsb⟩:∃x,x=Lib.hasSuffix V [59]:=⟨_,rfl⟩
 rw[←hR,←hsb]at Y5
 have hB:YT s.data.toList=(decide (lower (s.data.toList.drop k)=Gt)&&sb):=by
  unfold YT
  rw[dl,decide_eq_true (by omega),show s.size - 6=k by omega,←hV,←hsb]
  rfl
 have hxo:ox=strOf R:=by rw[hox,hR,hV];rfl
 rw[←hD]at hx
 rw[←hH]at hy
 by_cases hb:lower (s.data.toList.drop k)=Gt
 ·have q1:(X.toList==[98,97,115,101,54,52])=true:=by rw[hX,aK,hb];rfl
  have q2:X.toList=[98,97,115,101,54,52]:=by rw[hX,aK,hb];rfl
  have HO:Hid (ob=sb∧ox=strOf R):=⟨by rw[hob,hB,hb,decide_eq_true rfl];rfl,hxo⟩
  clear hob hox hD hH hX hV hVl hVe hR hsb hB hxo hb h6 hk
  go_enter Tryz.func76,Tryz.ntmps76
  go_wp2_with fail
  refine(HLO.out _).mono ?_
  rintro e w1 ⟨rfl,hb1⟩
  have HB1:=hid hb1
  clear hb1
  go_wp2_with fail
  refine(HTR.out _).mono ?_
  rintro e w2 ⟨rfl,hb2⟩
  have HB2:=hid (bel HB1.out hb2)
  clear hb2
  go_wp2_with fail
  refine(Y5.out _).mono ?_
  rintro e w3 ⟨rfl,hw3⟩
  subst hw3
  go_wp2
  go_ret2
  exact⟨⟨_,by rw[HO.out.1];first|done|rfl,fun _=>HO.out.2.symm⟩,HB2.out⟩
 have q1:(X.toList==[98,97,115,101,54,52])=false:=by rw[hX,aK,beq_eq_false_iff_ne];exact hb
 have q2:¬X.toList=[98,97,115,101,54,52]:=by rw[hX,aK];exact hb
 have HO:Hid (ob=false):=by show _=_;rw[hob,hB,decide_eq_false hb];rfl
 clear hob hox hD hH hX hV hVl hVe hR hsb hB hxo hb h6 hk
 go_enter Tryz.func76,Tryz.ntmps76
 go_wp2_with fail
 refine(HLO.out _).mono ?_
 rintro e w1 ⟨rfl,hb1⟩
 have HB1:=hid hb1
 clear hb1
 go_wp2
 go_ret2
 exact⟨⟨_,by rw[HO.out];first|done|rfl,fun h=>by rw[HO.out]at h;cases h⟩,HB1.out⟩
theorem IC (w:World):Calls Tryz.prog 30 #[] w fun e w'=>MtA fall e w'∧Below w.heap.size w w':=by
 go_enter Tryz.func30,Tryz.ntmps30
 go_wp2
 obtain⟨h1,h2,h3⟩:=mW.laid2 w #[.string ⟨#[116,101,120,116]⟩,.string ⟨#[112,108,97,105,110]⟩,.slice (some ⟨w.heap.size+1,0,none⟩) 1 1] #[.string ⟨#[99,104,97,114,115,101,116]⟩,.string ⟨#[85,83,45,65,83,67,73,73]⟩] 44 130
 have hlt:=(Array.getElem?_eq_some_iff.1 h2).1
 refine bodyPost_ret (anl rfl h1 _ rfl) rfl ⟨⟨some ⟨w.heap.size+1,0,none⟩,1,rfl,Nat.le_refl _,by decide,rfl,fun j hj=>?_⟩,h3⟩
 obtain rfl:j=0:=by simp[nY,fall]at hj;omega
 exact⟨w.heap.size+1,0,rfl,hlt,cell_of_row _ (w.heap.size+1) 0 _ _ _ h2,cell_of_row _ (w.heap.size+1) 1 _ _ _ h2⟩
theorem aeI (s:ByteArray) (w:World) (hs:s.size≤1000000):Calls Tryz.prog 78 #[.string s] w fun e w'=>MtA (typ s.data.toList) e w'∧Below w.heap.size w w':=by
 obtain⟨M,hM⟩:∃M,M=typ s.data.toList:=⟨_,rfl⟩
 have Za:=hid (QM M (by rw[hM];exact LZ _))
 rw[←hM]
 obtain⟨o,ho⟩:∃o,o=mime (Es s.data.toList):=⟨_,rfl⟩
 have HMO:Hid (M=o.getD fall):=by show _=_;rw[hM,ho];rfl
 obtain⟨X,hX⟩:∃X,X=strOf (Es s.data.toList):=⟨_,rfl⟩
 have TB:Hid (∀w:World,Calls Tryz.prog 176 #[.string X] w fun e w'=>MtR o e w'∧Below w.heap.size w w'):=fun w=>by
  have h:=oG.parse_any X w (by rw[hX,o9];have:=aiX s.data.toList;rw[dl]at this;omega)
  rw[show X.data.toList=Es s.data.toList by rw[hX];rfl,←ho]at h
  exact h
 obtain⟨pb,hpb⟩:∃x,x=Lib.hasPrefix s.data.toList [59]:=⟨_,rfl⟩
 have HHP:Hid (∀w:World,Calls Tryz.prog 116 #[.string s,.string ⟨#[59]⟩] w fun e w'=>e=.returned (.bool pb)∧w'=w):=fun w=>by rw[hpb];exact Tryz.strings_HasPrefix s ⟨#[59]⟩ w
 have HXT:Hid (pb=true→X=strOf (tp++s.data.toList)):=by
  show _→_
  intro h
  rw[hX]
  unfold Es
  rw[←hpb,if_pos h]
 have HXF:Hid (pb=false→X=s):=by
  show _→_
  intro h
  rw[hX]
  unfold Es
  rw[←hpb,h,if_neg (by decide),aG]
 have MC:=hid hs
 clear hM ho hX hpb hs
 go_enter Tryz.func78,Tryz.ntmps78
 go_upto_region 1 with(fail)
 generalize hw:World.alloc w _=w1
 have h1:Z3 44 w1 w.heap.size∧Below w.heap.size w w1:=by
  subst hw
  exact⟨heap_alloc_new _ _,(Below.refl _ _).alloc (Nat.le_refl _) _⟩
 clear hw
 have kP:=hid h1.1
 have HB1:=hid h1.2
 clear h1
 go_wp2_with fail
 refine(HHP.out _).mono ?_
 rintro e wx ⟨rfl,hwx⟩
 obtain rfl:w1=wx:=by first|exact hwx|exact hwx.symm
 clear hwx
 cases pb
 focus
  obtain rfl:X=s:=HXF.out rfl
  clear HXT HXF
  go_wp2_with fail
 rotate_left
 focus
  have a1:∀w:World,(Op.stringOp .add ⟨#[116,101,120,116,47,112,108,97,105,110]⟩ s).run Tryz.prog w=.ok (.string X) w:=fun w=>by
   rw[HXT.out rfl]
   exact dL ⟨#[116,101,120,116,47,112,108,97,105,110]⟩ s w (by have:=MC.out;show 10+s.size≤_;omega)
  clear HXT HXF
  go_wp2_with fail
  clear a1
 rotate_left
 all_goals
  refine(TB.out _).mono ?_
  rintro e w2 ⟨⟨A,c,rfl,k1,k2,k3⟩,hb2⟩
  have gY:Hid (Z3 44 w2 w.heap.size):=B3.below kP.out hb2
  have HB2:=hid (bel HB1.out hb2)
  have HP2:=hid k3
  clear kP HB1 hb2 k3
  cases o with
  |none=>
   have HM:Hid (M=fall):=HMO.out
   clear HMO HP2
   go_upto_region 4 with(fail)
   generalize bI:World.alloc w2 _=w3
   have hb3:Below w2.heap.size w2 w3:=by rw[←bI];exact(Below.refl _ _).alloc (Nat.le_refl _) _
   have jI:Hid (Z3 44 w3 w.heap.size):=B3.below gY.out hb3
   have HB3:=hid (bel HB2.out hb3)
   clear bI gY HB2 hb3
   go_wp2_with fail
   refine(IC _).mono ?_
   rintro e w4 ⟨⟨A4,c4,rfl,j1,j2,j3⟩,hb4⟩
   have JQ:Hid (Z3 44 w4 w.heap.size):=B3.below jI.out hb4
   have HB4:=hid (bel HB3.out hb4)
   have HP4:=hid j3
   clear jI HB3 hb4 j3
   go_wp2_with (refine vU JQ.out (strOf fall.ty) (strOf fall.sub) A4 fall.ps.length c4 (.tmp 2) (.tmp 16) rfl rfl rfl rfl ?_)
   try simp only[Exit.inBlock,Exit.then]
   exact bodyPost_ret (w:=World.setRow w4 w.heap.size #[.string (strOf fall.ty),.string (strOf fall.sub),.slice A4 fall.ps.length c4]) (anl rfl (Gs JQ.out _ _ _) _ rfl) rfl ⟨by rw[HM.out];exact⟨A4,c4,rfl,j1,j2,Ou (by rw[←HM.out];exact Za.out) HP4.out JQ.out _⟩,below_setRow HB4.out (Nat.le_refl _) _⟩
  |some N=>
   obtain rfl:M=N:=HMO.out
   clear HMO
   go_upto_region 4 with(fail)
   generalize bI:World.alloc w2 _=w3
   have hxa:B3 44 w3 w2.heap.size (.string (strOf M.ty)) (.string (strOf M.sub)) (.slice A M.ps.length c):=by rw[←bI];exact heap_alloc_new _ _
   have hb3:Below w2.heap.size w2 w3:=by rw[←bI];exact(Below.refl _ _).alloc (Nat.le_refl _) _
   have jI:Hid (Z3 44 w3 w.heap.size):=B3.below gY.out hb3
   have HB3:=hid (bel HB2.out hb3)
   have Zb:Hid (zH w3 A M.ps.length (nY M.ps)):=zH.below HP2.out hb3
   clear bI gY HB2 HP2 hb3
   obtain⟨d0,d1,d2⟩:=hxa.facts
   go_wp2_with (refine vU jI.out (strOf M.ty) (strOf M.sub) A M.ps.length c (.tmp 2) (.tmp 15) rfl rfl rfl rfl ?_)
   try simp only[Exit.inBlock,Exit.then]
   exact bodyPost_ret (w:=World.setRow w3 w.heap.size #[.string (strOf M.ty),.string (strOf M.sub),.slice A M.ps.length c]) (anl rfl (Gs jI.out _ _ _) _ rfl) rfl ⟨⟨A,c,rfl,k1,k2,Ou Za.out Zb.out jI.out _⟩,below_setRow HB3.out (Nat.le_refl _) _⟩
end Go.Proofs.YtgamccijegollaaGreatDoor.Ce
namespace Go.Proofs.YtgamccijegollaaGreatDoor.YX
open Go.RowKit Base Dp cO pU Zz rC qg oG ajm JY Ce wS mW pO
theorem abp {fn:Func} {a b d:Tmp} (hf:fn.results=#[.cell a 44,.tmp b,.tmp d]) {w:World} {g:Nat} {p q r:Value} (hU:B3 44 w g p q r) (v x:Value) (tmps:Array Value) (h2:tmps.getD a undef=.pointer (some ⟨g,0,none⟩)) (h3:tmps.getD b undef=v) (h4:tmps.getD d undef=x):
  (results fn tmps).run Tryz.prog w=.ok (.tuple #[.agg #[p,q,r],v,x]) w:=by
 have hp':tmps[a]?.getD undef=.pointer (some ⟨g,0,none⟩):=by simpa using h2
 have hq':tmps[b]?.getD undef=v:=by simpa using h3
 have hr':tmps[d]?.getD undef=x:=by simpa using h4
 simp[results,hf,hp',hq',hr',asAddr,hU.load]
theorem VT {L:List UInt8} (h:(fG 44 L).2.2=false):proc L=none:=by
 unfold proc
 rw[h,if_neg (by decide)]
theorem aik {L H0 R0:List UInt8} (h:fG 44 L=(H0,R0,true)):proc L=(if YT (Lib.trimS H0 ws)=true then(if Nw.Hr (fU.dec R0)=true then some (typ (Us (Lib.trimS H0 ws)),Nw.dB (fU.dec R0))else none)else some (typ (Lib.trimS H0 ws),fU.dec R0)):=by
 unfold proc
 rw[h,if_pos rfl]
theorem KC {e:Ending} {w':World} {er:Int} (he:e=.returned (.tuple #[.agg #[.string ⟨#[]⟩,.string ⟨#[]⟩,.slice none 0 0],.slice none 0 0,.int .i64 er])):DatR oG.Oe [] er e w':=
 ⟨none,0,none,0,he,Nat.le_refl _,Nat.zero_le _,⟨rfl,fun j hj=>by simp[nY,Oe]at hj⟩,Nat.le_refl _,Nat.zero_le _,aY.nil _⟩
theorem aa9 (u:U) (A:Option Addr) (n c:Nat) (BL L:List UInt8) (w:World) (hB:∀w1:World,Below w.heap.size w w1→Calls Tryz.prog 73 #[.agg #[.string (strOf u.au),.string (strOf u.usr),.string (strOf u.MX),.string (strOf u.hst),.bool u.hh,.int .i64 u.port,.bool u.opq,.string (strOf u.txt),.slice A n c,.bool u.hq,.bool u.hf,.string (strOf u.dY),.string (strOf u.fB)]] w1 fun e w'=>e=.returned (.string (strOf BL))∧Below w1.heap.size w1 w') (hL:Lib.trimPrefix BL vX=L) (hLs:L.length≤850000) (hM:Max w):
  Calls Tryz.prog 27 #[.agg #[.string (strOf u.au),.string (strOf u.usr),.string (strOf u.MX),.string (strOf u.hst),.bool u.hh,.int .i64 u.port,.bool u.opq,.string (strOf u.txt),.slice A n c,.bool u.hq,.bool u.hf,.string (strOf u.dY),.string (strOf u.fB)]] w fun e w'=>DatR (ans u.au L).1 (ans u.au L).2 (err u.au L) e w'∧Below w.heap.size w w':=by
 have HBA:=hid hB
 have HM:=hid hM
 obtain⟨P,hP⟩:∃P,P=ans u.au L:=⟨_,rfl⟩
 obtain⟨er,her⟩:∃x,x=err u.au L:=⟨_,rfl⟩
 rw[←hP,←her]
 clear hB hM
 by_cases hs:u.au=DATA
 ·
  have q1:((strOf u.au).toList==[100,97,116,97])=true:=by rw[aK,hs];rfl
  have q2:(strOf u.au).toList=[100,97,116,97]:=by rw[aK,hs];rfl
  have hP1:P=(proc L).getD (oG.Oe,[]):=by rw[hP];unfold ans;rw[if_pos hs]
  have IW:er=if (proc L).isSome=true then 0 else 2:=by rw[her];unfold err;rw[if_pos hs]
  clear hP her hs
  obtain⟨X,hX⟩:∃X,X=strOf L:=⟨_,rfl⟩
  obtain⟨Y,hY⟩:∃Y,Y=strOf BL:=⟨_,rfl⟩
  rw[←hY]at HBA
  have HTP:Hid (∀w:World,Calls Tryz.prog 72 #[.string Y,.string ⟨#[100,97,116,97,58]⟩] w fun e w'=>e=.returned (.string X)∧w'=w):=fun w=>by
   have h:=Tryz.strings_TrimPrefix Y ⟨#[100,97,116,97,58]⟩ w
   rw[show Y.data.toList=BL by rw[hY];rfl,show(⟨#[100,97,116,97,58]⟩:ByteArray).data.toList=vX from rfl,hL]at h
   rw[hX]
   exact h
  obtain⟨H0,R0,cb,hcut⟩:∃a b c,fG 44 L=(a,b,c):=⟨_,_,_,rfl⟩
  have hcl:=zT 44 L
  rw[hcut]at hcl
  simp only at hcl
  have hX2:X.data.toList=L:=by rw[hX];rfl
  have HCU:Hid (∀w:World,Max w→Calls Tryz.prog 71 #[.string X,.string ⟨#[44]⟩] w fun e w'=>e=.returned (.tuple #[.string (strOf H0),.string (strOf R0),.bool cb])∧Below w.heap.size w w'):=fun w ⟨m,hm⟩=>(Tryz.strings_Cut X ⟨#[44]⟩ m w (by rw[hX,o9];omega) hm).mono fun e w' ⟨h1,q,h2⟩=>⟨by rw[h1,hX2,show(⟨#[44]⟩:ByteArray).data.toList=[44]from rfl,yG,hcut];rfl,by rw[h2];exact Base.below_drewN (Below.refl _ _) _⟩
  clear hX hY hX2 hL
  go_enter Tryz.func27,Tryz.ntmps27
  go_upto_region 1 with(fail)
  generalize hw:World.alloc (World.alloc w _) _=w1
  have h1:UB w1 w.heap.size u (.slice A n c)∧Z3 44 w1 (w.heap.size+1)∧Below w.heap.size w w1:=by
   subst hw
   exact mW.laid2 w _ _ _ _
  clear hw
  have HU1:=hid h1.1
  have kP:=hid h1.2.1
  have HB1:=hid h1.2.2
  clear h1
  obtain⟨d0,d1,d2,d3,d4,d5,d6,d7,d8,d9,d10,d11,d12⟩:=HU1.out.facts
  go_wp2_with fail
  clear q1 q2 d0 d1 d2 d3 d4 d5 d6 d7 d8 d9 d10 d11 d12
  refine(HBA.out _ HB1.out).mono ?_
  rintro e w2 ⟨rfl,hb2⟩
  have cu:=hid (HM.out.below HB1.out)
  clear HU1 HBA HM
  have gY:Hid (Z3 44 w2 (w.heap.size+1)):=B3.below kP.out hb2
  have HB2:=hid (bel HB1.out hb2)
  replace cu:=hid (cu.out.below hb2)
  clear kP HB1 hb2
  go_wp2_with fail
  refine(HTP.out _).mono ?_
  rintro e wx ⟨rfl,hwx⟩
  obtain rfl:w2=wx:=by first|exact hwx|exact hwx.symm
  clear hwx HTP
  go_wp2_with fail
  refine(HCU.out _ cu.out).mono ?_
  rintro e w3 ⟨rfl,hb3⟩
  clear HCU cu
  have jI:Hid (Z3 44 w3 (w.heap.size+1)):=B3.below gY.out hb3
  have HB3:=hid (bel HB2.out hb3)
  clear gY HB2 hb3 
  cases cb with
  |false=>
   have HP:Hid (P=(oG.Oe,[])):=by show _=_;rw[hP1,VT (by rw[hcut])];rfl
   have HR:Hid (er=2):=by show _=_;rw[IW,VT (by rw[hcut])];rfl
   clear hP1 IW hcut hcl hLs
   go_wp2_with (refine vU jI.out ⟨#[]⟩ ⟨#[]⟩ none 0 0 (.tmp 2) (.tmp 27) rfl rfl rfl rfl ?_)
   try simp only[Exit.inBlock,Exit.then]
   exact bodyPost_ret (w:=World.setRow w3 (w.heap.size+1) #[.string ⟨#[]⟩,.string ⟨#[]⟩,.slice none 0 0]) (abp rfl (Gs jI.out _ _ _) (.slice none 0 0) (.int .i64 2) _ rfl rfl rfl) rfl ⟨by rw[HP.out,HR.out];exact KC rfl,below_setRow HB3.out (by omega) _⟩
  | true=>
   rw[aik hcut]at hP1 IW
   obtain⟨H,hH⟩:∃H,H=Lib.trimS H0 ws:=⟨_,rfl⟩
   obtain⟨B,hB⟩:∃B,B=fU.dec R0:=⟨_,rfl⟩
   rw[←hH,←hB]at hP1 IW
   have hHl:H.length≤850000:=by rw[hH];have:=aiQ ws H0;omega
   have hBl:B.length≤850000:=by rw[hB];have:=fU.ku R0;omega
   obtain⟨SH,hSH⟩:∃S,S=strOf H:=⟨_,rfl⟩
   have hSd:SH.data.toList=H:=by rw[hSH];rfl
   have XK:SH.size≤850000:=by rw[hSH,o9];exact hHl
   have HTS:Hid (∀w:World,Calls Tryz.prog 74 #[.string (strOf H0),.string ⟨#[9,10,12,13,32]⟩] w fun e w'=>e=.returned (.string SH)∧Below w.heap.size w w'):=fun w=>by
    have h:=Tryz.strings_Trim_set (strOf H0) ⟨#[9,10,12,13,32]⟩ w (by rw[o9];omega) (by decide) (ascii_of_all (by decide))
    rw[show(strOf H0).data.toList=H0 from rfl,show(⟨#[9,10,12,13,32]⟩:ByteArray).data.toList=ws from rfl,←hH]at h
    rw[hSH]
    exact h
   have YM:Hid (∀w:World,Calls Tryz.prog 75 #[.string (strOf R0)] w fun e w'=>∃v,e=.returned v∧w'.ownsRow w.heap.size 5 1 v B.length (ah B)∧Below w.heap.size w w'):=fun w=>by
    rw[hB]
    exact fU.decode_any (strOf R0) w (by rw[o9];omega)
   have HUN:Hid (∀w:World,Calls Tryz.prog 76 #[.string SH] w fun e w'=>(∃X,e=.returned (.tuple #[.string X,.bool (YT H)])∧(YT H=true→X=strOf (Us H)))∧Below w.heap.size w w'):=fun w=>by
    have h:=aeJ SH w (by omega)
    rw[hSd]at h
    exact h
   obtain⟨ib,hib⟩:∃x,x=YT H:=⟨_,rfl⟩
   rw[←hib]at HUN hP1 IW
   have HTY:Hid (∀(s:ByteArray) (w:World),s.size≤1000000→Calls Tryz.prog 78 #[.string s] w fun e w'=>MtA (typ s.data.toList) e w'∧Below w.heap.size w w'):=fun s w h=>aeI s w h
   have hul:(Us H).length≤850000:=by have:=ajc H;omega
   have Z4:=hid hBl
   clear hcut hcl hLs hH hB hSH hib hHl hBl
   go_wp2_with fail
   refine(HTS.out _).mono ?_
   rintro e w4 ⟨rfl,hb4⟩
   clear HTS
   have JQ:Hid (Z3 44 w4 (w.heap.size+1)):=B3.below jI.out hb4
   have HB4:=hid (bel HB3.out hb4)
   clear jI HB3 hb4 
   go_wp2_with fail
   refine(YM.out _).mono ?_
   rintro e w5 ⟨v5,rfl,hown,hb5⟩
   obtain⟨A5,c5,rfl,m1,m2,hr5⟩:=aJ hown
   clear YM hown
   have Zk:Hid (Z3 44 w5 (w.heap.size+1)):=B3.below JQ.out hb5
   have iG:=hid (bel HB4.out hb5)
   clear JQ HB4 hb5 
   have HD5:=hid hr5
   clear hr5
   go_wp2_with fail
   refine(HUN.out _).mono ?_
   rintro e w6 ⟨⟨X6,rfl,hX6⟩,hb6⟩
   have HX6e:=hid hX6
   clear HUN hX6
   have HX6:Hid (Z3 44 w6 (w.heap.size+1)):=B3.below Zk.out hb6
   have nN:=hid (bel iG.out hb6)
   have HD6:=hid (HD5.out.below hb6)
   clear Zk iG hb6 HD5
   cases ib with
   |true=>
    rw[if_pos rfl]at hP1 IW
    obtain rfl:X6=strOf (Us H):=HX6e.out rfl
    clear HX6e
    have hs6:=aF (P:=Tryz.prog) 45 9 5 Tryz.underlying45 Tryz.underlying5 Tryz.underlying9 _ c5 HD6.out
    obtain⟨SB,hSB⟩:∃S,S=strOf B:=⟨_,rfl⟩
    rw[←hSB]at hs6
    obtain⟨ok,hok⟩:∃x,x=Nw.Hr B:=⟨_,rfl⟩
    obtain⟨D,hD⟩:∃x,x=Nw.dB B:=⟨_,rfl⟩
    have HBD:Hid (∀w:World,Calls Tryz.prog 77 #[.string SB] w fun e w'=>∃v,e=.returned (.tuple #[v,.bool ok])∧w'.ownsRow w.heap.size 5 1 v D.length (ah D)∧Below w.heap.size w w'):=fun w=>by
     have h:=Nw.decode_any SB w (by rw[hSB,o9];have:=Z4.out;omega)
     rw[show SB.data.toList=B by rw[hSB];rfl,←hok,←hD]at h
     exact h
    rw[←hok,←hD]at hP1
    rw[←hok]at IW
    clear hSB hok hD
    go_wp2_with fail
    clear hs6
    refine(HBD.out _).mono ?_
    rintro e w7 ⟨v7,rfl,hown,hb7⟩
    obtain⟨A7,c7,rfl,l1,l2,hr7⟩:=aJ hown
    clear HBD hown HD6
    have Gg:Hid (Z3 44 w7 (w.heap.size+1)):=B3.below HX6.out hb7
    have kZ:=hid (bel nN.out hb7)
    clear HX6 nN hb7 
    have HD7:=hid hr7
    clear hr7
    cases ok with
    |false=>
     have HP:Hid (P=(oG.Oe,[])):=by show _=_;rw[hP1];rfl
     have HR:Hid (er=2):=by show _=_;rw[IW];rfl
     clear hP1 IW HTY
     go_wp2_with (refine vU Gg.out ⟨#[]⟩ ⟨#[]⟩ none 0 0 (.tmp 2) (.tmp 46) rfl rfl rfl rfl ?_)
     try simp only[Exit.inBlock,Exit.then]
     exact bodyPost_ret (w:=World.setRow w7 (w.heap.size+1) #[.string ⟨#[]⟩,.string ⟨#[]⟩,.slice none 0 0]) (abp rfl (Gs Gg.out _ _ _) (.slice none 0 0) (.int .i64 2) _ rfl rfl rfl) rfl ⟨by rw[HP.out,HR.out];exact KC rfl,below_setRow kZ.out (by omega) _⟩
    |true=>
     have HP:Hid (P=(typ (Us H),D)):=by show _=_;rw[hP1];rfl
     have HR:Hid (er=0):=by show _=_;rw[IW];rfl
     clear hP1 IW
     have HT2:Hid (∀w:World,Calls Tryz.prog 78 #[.string (strOf (Us H))] w fun e w'=>MtA (typ (Us H)) e w'∧Below w.heap.size w w'):=fun w=>HTY.out (strOf (Us H)) w (by rw[o9];omega)
     clear HTY
     go_wp2_with fail
     refine(HT2.out _).mono ?_
     rintro e w8 ⟨⟨Am,cm,rfl,j1,j2,hpm⟩,hb8⟩
     have HX8:Hid (Z3 44 w8 (w.heap.size+1)):=B3.below Gg.out hb8
     have H7:=hid (bel kZ.out hb8)
     have HD8:=hid (HD7.out.below hb8)
     clear Gg kZ hb8 HD7
     have HPM:=hid hpm
     clear hpm HT2
     go_wp2_with (refine vU HX8.out (strOf (typ (Us H)).ty) (strOf (typ (Us H)).sub) Am (typ (Us H)).ps.length cm (.tmp 2) (.tmp 50) rfl rfl rfl rfl ?_)
     try simp only[Exit.inBlock,Exit.then]
     exact bodyPost_ret (w:=World.setRow w8 (w.heap.size+1) #[.string (strOf (typ (Us H)).ty),.string (strOf (typ (Us H)).sub),.slice Am (typ (Us H)).ps.length cm]) (abp rfl (Gs HX8.out _ _ _) (.slice A7 D.length c7) (.int .i64 0) _ rfl rfl rfl) rfl ⟨by rw[HP.out,HR.out];exact⟨Am,cm,A7,c7,rfl,j1,j2,Ou (QM _ (LZ _)) HPM.out HX8.out _,l1,l2,Jp HD8.out HX8.out _⟩,below_setRow H7.out (by omega) _⟩
   |false=>
    rw[if_neg (show ¬(false=true)by decide)]at hP1 IW
    clear HX6e
    have HP:Hid (P=(typ H,B)):=by show _=_;rw[hP1];rfl
    have HR:Hid (er=0):=by show _=_;rw[IW];rfl
    clear hP1 IW
    have HT2:Hid (∀w:World,Calls Tryz.prog 78 #[.string SH] w fun e w'=>MtA (typ H) e w'∧Below w.heap.size w w'):=fun w=>by
     have h:=HTY.out SH w (by omega)
     rw[hSd]at h
     exact h
    clear HTY
    go_wp2_with fail
    refine(HT2.out _).mono ?_
    rintro e w7 ⟨⟨Am,cm,rfl,j1,j2,hpm⟩,hb7⟩
    have Gg:Hid (Z3 44 w7 (w.heap.size+1)):=B3.below HX6.out hb7
    have kZ:=hid (bel nN.out hb7)
    have HD7:=hid (HD6.out.below hb7)
    clear HX6 nN hb7 HD6
    have HPM:=hid hpm
    clear hpm HT2
    go_wp2_with (refine vU Gg.out (strOf (typ H).ty) (strOf (typ H).sub) Am (typ H).ps.length cm (.tmp 2) (.tmp 50) rfl rfl rfl rfl ?_)
    try simp only[Exit.inBlock,Exit.then]
    exact bodyPost_ret (w:=World.setRow w7 (w.heap.size+1) #[.string (strOf (typ H).ty),.string (strOf (typ H).sub),.slice Am (typ H).ps.length cm]) (abp rfl (Gs Gg.out _ _ _) (.slice A5 B.length c5) (.int .i64 0) _ rfl rfl rfl) rfl ⟨by rw[HP.out,HR.out];exact⟨Am,cm,A5,c5,rfl,j1,j2,Ou (QM _ (LZ _)) HPM.out Gg.out _,m1,m2,Jp HD7.out Gg.out _⟩,below_setRow kZ.out (by omega) _⟩
 ·
  have q1:((strOf u.au).toList==[100,97,116,97])=false:=by rw[aK,beq_eq_false_iff_ne];exact hs
  have q2:¬(strOf u.au).toList=[100,97,116,97]:=by rw[aK];exact hs
  have HP:Hid (P=(oG.Oe,[])):=by show _=_;rw[hP];unfold ans;rw[if_neg hs]
  have HR:Hid (er=1):=by show _=_;rw[her];unfold err;rw[if_neg hs]
  clear hP her hs hL HBA HM
  go_enter Tryz.func27,Tryz.ntmps27
  go_upto_region 1 with(fail)
  generalize hw:World.alloc (World.alloc w _) _=w1
  have h1:UB w1 w.heap.size u (.slice A n c)∧Z3 44 w1 (w.heap.size+1)∧Below w.heap.size w w1:=by
   subst hw
   exact mW.laid2 w _ _ _ _
  clear hw
  have HU1:=hid h1.1
  have kP:=hid h1.2.1
  have HB1:=hid h1.2.2
  clear h1
  obtain⟨d0,d1,d2,d3,d4,d5,d6,d7,d8,d9,d10,d11,d12⟩:=HU1.out.facts
  go_wp2_with (refine vU kP.out ⟨#[]⟩ ⟨#[]⟩ none 0 0 (.tmp 2) (.tmp 16) rfl rfl rfl rfl ?_)
  try simp only[Exit.inBlock,Exit.then]
  exact bodyPost_ret (w:=World.setRow w1 (w.heap.size+1) #[.string ⟨#[]⟩,.string ⟨#[]⟩,.slice none 0 0]) (abp rfl (Gs kP.out _ _ _) (.slice none 0 0) (.int .i64 1) _ rfl rfl rfl) rfl ⟨by rw[HP.out,HR.out];exact KC rfl,below_setRow HB1.out (by omega) _⟩
end Go.Proofs.YtgamccijegollaaGreatDoor.YX
namespace Go.Proofs.YtgamccijegollaaGreatDoor.B64P
open Go.RowKit Base Dp BZ Nw
def bitsOf (n:Nat):List Bool:=[n / 32%2==1,n / 16%2==1,n / 8%2==1,n / 4%2==1,n / 2%2==1,n%2==1]
def b2 (b:Bool) (k:Nat):Nat:=if b then k else 0
def byteAt (B:List Bool) (j:Nat):Nat:=
 b2 (B.getD (8*j) false) 128+b2 (B.getD (8*j+1) false) 64+b2 (B.getD (8*j+2) false) 32+b2 (B.getD (8*j+3) false) 16+
 b2 (B.getD (8*j+4) false) 8+b2 (B.getD (8*j+5) false) 4+b2 (B.getD (8*j+6) false) 2+b2 (B.getD (8*j+7) false) 1
def pack (B:List Bool) (m:Nat):List UInt8:=(List.range m).map fun j=>UInt8.ofNat (byteAt B j)
theorem Ih (k:Nat):b2 false k=0:=rfl
def U2:List Nat→List UInt8
 |a::b::c::d::t=>[UInt8.ofNat (a*4+b / 16),UInt8.ofNat (b%16*16+c / 4),UInt8.ofNat (c%4*64+d)]++U2 t
 |[a,b,c]=>[UInt8.ofNat (a*4+b / 16),UInt8.ofNat (b%16*16+c / 4)]
 |[a,b]=>[UInt8.ofNat (a*4+b / 16)]
 |_=>[]
def gQ (N:List Nat):List Bool:=N.flatMap bitsOf
theorem Xu (X R:List Bool) (j:Nat) (h:X.length=24):byteAt (X++R) (j+3)=byteAt R j:=by
 have g:∀i,(X++R).getD (24+i) false=R.getD i false:=by
  intro i
  simp only[List.getD_eq_getElem?_getD]
  rw[List.getElem?_append_right (by omega)]
  congr 2
  omega
 unfold byteAt
 have e:8*(j+3)=24+8*j:=by omega
 rw[e]
 simp only[Nat.add_assoc,g]
theorem ad9 (X R:List Bool) (m:Nat) (h:X.length=24):pack (X++R) (m+3)=[UInt8.ofNat (byteAt (X++R) 0),UInt8.ofNat (byteAt (X++R) 1),UInt8.ofNat (byteAt (X++R) 2)]++pack R m:=by
 unfold pack
 have e:List.range (m+3)=[0,1,2]++(List.range m).map (·+3):=by
  rw[Nat.add_comm m 3,List.range_add]
  congr 1
  apply List.map_congr_left
  intro a _
  omega
 rw[e,List.map_append,List.map_map]
 congr 1
 apply List.map_congr_left
 intro j _
 simp only[Function.comp]
 rw[Xu X R j h]
theorem zL (n k:Nat):b2 (n%2==1) k=n%2*k:=by
 unfold b2
 rcases Nat.mod_two_eq_zero_or_one n with h|h<;>simp[h]
theorem akY (a b:Nat) (R:List Bool) (_ha:a<64) (_hb:b<64):byteAt (bitsOf a++(bitsOf b++R)) 0=a*4+b / 16:=by
 unfold byteAt bitsOf
 simp only[List.cons_append,List.nil_append,List.getD_cons_zero,List.getD_cons_succ,Nat.mul_zero,Nat.zero_add,zL]
 omega
theorem byte1 (a b c:Nat) (R:List Bool) (_ha:a<64) (_hb:b<64) (_hc:c<64):byteAt (bitsOf a++(bitsOf b++(bitsOf c++R))) 1=b%16*16+c / 4:=by
 unfold byteAt bitsOf
 simp only[List.cons_append,List.nil_append,List.getD_cons_zero,List.getD_cons_succ,Nat.mul_one,Nat.reduceAdd,zL]
 omega
theorem byte2 (a b c d:Nat) (R:List Bool) (ha:a<64) (hb:b<64) (hc:c<64) (hd:d<64):byteAt (bitsOf a++(bitsOf b++(bitsOf c++(bitsOf d++R)))) 2=c%4*64+d:=by
 unfold byteAt bitsOf
 simp only[List.cons_append,List.nil_append,List.getD_cons_zero,List.getD_cons_succ,Nat.reduceMul,Nat.reduceAdd,zL]
 omega
theorem aaX (N:List Nat) (h:∀n ∈ N,n<64):pack (gQ N) (6*N.length / 8)=U2 N:=by
 have H:∀(k:Nat) (N:List Nat),N.length≤k→(∀n ∈ N,n<64)→pack (gQ N) (6*N.length / 8)=U2 N:=by
  intro k
  induction k with
  |zero=>intro N h _;obtain rfl:N=[]:=List.eq_nil_of_length_eq_zero (by omega);rfl
  |succ k ih=>
   intro N hl h
   match N,hl,h with
   |[],_,_=>rfl
   |[a],_,_=>simp[pack,U2]
   |[a,b],_,h=>
    have ha:=h a (by simp)
    have hb:=h b (by simp)
    have e0:6*[a,b].length / 8=1:=by simp
    have e:gQ [a,b]=bitsOf a++(bitsOf b++[]):=by simp[gQ]
    rw[e,e0]
    simp only[pack,U2,List.range_succ,List.range_zero,List.nil_append,List.map_cons,List.map_nil]
    rw[akY a b _ ha hb]
   |[a,b,c],_,h=>
    have ha:=h a (by simp)
    have hb:=h b (by simp)
    have hc:=h c (by simp)
    have e0:6*[a,b,c].length / 8=2:=by simp
    have e:gQ [a,b,c]=bitsOf a++(bitsOf b++(bitsOf c++[])):=by simp[gQ]
    rw[e,e0]
    simp only[pack,U2,List.range_succ,List.range_zero,List.nil_append,List.cons_append,List.map_cons,List.map_nil]
    rw[akY a b _ ha hb,byte1 a b c _ ha hb hc]
   |a::b::c::d::t,hl,h=>
    have ha:=h a (by simp)
    have hb:=h b (by simp)
    have hc:=h c (by simp)
    have hd:=h d (by simp)
    have ht:=ih t (by simp at hl;omega) (fun n hn=>h n (by simp[hn]))
    have e:gQ (a::b::c::d::t)=(bitsOf a++(bitsOf b++(bitsOf c++bitsOf d)))++gQ t:=by simp[gQ]
    have e2:6*(a::b::c::d::t).length / 8=6*t.length / 8+3:=by simp only[List.length_cons];omega
    rw[e,e2,ad9 _ _ _ rfl,ht,U2]
    have e3:(bitsOf a++(bitsOf b++(bitsOf c++bitsOf d)))++gQ t=bitsOf a++(bitsOf b++(bitsOf c++(bitsOf d++gQ t))):=by simp
    rw[e3,akY a b _ ha hb,byte1 a b c _ ha hb hc,byte2 a b c d _ ha hb hc hd]
 exact H _ N (Nat.le_refl _) h
def nums (T:List UInt8):List Nat:=T.map fun c=>(num c).toNat
theorem afq (X:List UInt8) (a:Nat):feed (X,0,0) a=(X,a,6):=by simp[feed]
theorem alp (X:List UInt8) (a b:Nat):feed (X,a,6) b=(X++[UInt8.ofNat (a*4+b / 16)],b%16,4):=by
 have e1:(a*64+b) / 16=a*4+b / 16:=by omega
 have e2:(a*64+b)%16=b%16:=by omega
 unfold feed
 simp only[show(6:Nat)≠0 by decide,if_false,show(2:Nat)^(6 - 2)=16 by decide,e1,e2]
theorem feed4 (X:List UInt8) (b c:Nat):feed (X,b%16,4) c=(X++[UInt8.ofNat (b%16*16+c / 4)],c%4,2):=by
 have e1:(b%16*64+c) / 4=b%16*16+c / 4:=by omega
 have e2:(b%16*64+c)%4=c%4:=by omega
 unfold feed
 simp only[show(4:Nat)≠0 by decide,if_false,show(2:Nat)^(4 - 2)=4 by decide,e1,e2]
theorem feed2 (X:List UInt8) (c d:Nat):feed (X,c%4,2) d=(X++[UInt8.ofNat (c%4*64+d)],0,0):=by
 unfold feed
 simp only[show(2:Nat)≠0 by decide,if_false,show(2:Nat)^(2 - 2)=1 by decide,Nat.div_one,Nat.mod_one]
theorem alA:∀(k:Nat) (N:List Nat) (X:List UInt8),N.length≤k→(N.foldl feed (X,0,0)).1=X++U2 N:=by
 intro k
 induction k with
 |zero=>intro N X h;obtain rfl:N=[]:=List.eq_nil_of_length_eq_zero (by omega);simp[U2]
 |succ k ih=>
  intro N X hl
  match N,hl with
  |[],_=>simp[U2]
  |[a],_=>simp only[List.foldl_cons,List.foldl_nil,afq,U2,List.append_nil]
  |[a,b],_=>simp only[List.foldl_cons,List.foldl_nil,afq,alp,U2]
  |[a,b,c],_=>simp only[List.foldl_cons,List.foldl_nil,afq,alp,feed4,U2,List.append_assoc,List.cons_append,List.nil_append]
  |a::b::c::d::t,hl=>
   simp only[List.foldl_cons,afq,alp,feed4,feed2]
   rw[ih t _ (by simp at hl;omega)]
   simp only[U2,List.append_assoc,List.cons_append,List.nil_append]
theorem afW (T:List UInt8) (h:∀c ∈ T,0≤num c):∀n ∈ nums T,n<64:=by
 intro n hn
 simp only[nums,List.mem_map]at hn
 obtain⟨c,hc,rfl⟩:=hn
 have:=qE c
 have:=h c hc
 omega
theorem Lc (T:List UInt8) (h:∀c ∈ T,0≤num c):pack (gQ (nums T)) (6*T.length / 8)=(runs T).1:=by
 have e:=alA _ (nums T) [] (Nat.le_refl _)
 have e2:=aaX (nums T) (afW T h)
 rw[show(nums T).length=T.length by simp[nums]]at e2
 rw[e2]
 unfold runs
 rw[List.nil_append]at e
 rw[←e]
 unfold nums
 rw[List.foldl_map]
end Go.Proofs.YtgamccijegollaaGreatDoor.B64P
namespace Go.Proofs.YtgamccijegollaaGreatDoor.acp
open Go.RowKit Base Dp acj L6
def aU (n:Nat):UInt8:=if n<26 then UInt8.ofNat (65+n)else if n<52 then UInt8.ofNat (71+n)else if n<62 then UInt8.ofNat (n - 4)else if n=62 then 43 else 47
def e64:List UInt8→List UInt8
 |[]=>[]
 |[a]=>[aU (a.toNat / 4),aU (a.toNat%4*16),61,61]
 |[a,b]=>[aU (a.toNat / 4),aU (a.toNat%4*16+b.toNat / 16),aU (b.toNat%16*4),61]
 |a::b::c::t=>[aU (a.toNat / 4),aU (a.toNat%4*16+b.toNat / 16),aU (b.toNat%16*4+c.toNat / 64),aU (c.toNat%64)]++e64 t
theorem let_at (k:Nat) (h:k<(⟨#[65,66,67,68,69,70,71,72,73,74,75,76,77,78,79,80,81,82,83,84,85,86,87,88,89,90,97,98,99,100,101,102,103,104,105,106,107,108,109,110,111,112,113,114,115,116,117,118,119,120,121,122,48,49,50,51,52,53,54,55,56,57,43,47]⟩:ByteArray).size):(⟨#[65,66,67,68,69,70,71,72,73,74,75,76,77,78,79,80,81,82,83,84,85,86,87,88,89,90,97,98,99,100,101,102,103,104,105,106,107,108,109,110,111,112,113,114,115,116,117,118,119,120,121,122,48,49,50,51,52,53,54,55,56,57,43,47]⟩:ByteArray)[k]'h=aU k:=by
 have H:∀k:Fin 64,(⟨#[65,66,67,68,69,70,71,72,73,74,75,76,77,78,79,80,81,82,83,84,85,86,87,88,89,90,97,98,99,100,101,102,103,104,105,106,107,108,109,110,111,112,113,114,115,116,117,118,119,120,121,122,48,49,50,51,52,53,54,55,56,57,43,47]⟩:ByteArray)[k.val]'k.isLt=aU k.val:=by decide+kernel
 exact H ⟨k,h⟩
theorem uf (z:Int) (k:Nat) (h0:z=(k:Int)) (_hk:k<64) (h:z.toNat<(⟨#[65,66,67,68,69,70,71,72,73,74,75,76,77,78,79,80,81,82,83,84,85,86,87,88,89,90,97,98,99,100,101,102,103,104,105,106,107,108,109,110,111,112,113,114,115,116,117,118,119,120,121,122,48,49,50,51,52,53,54,55,56,57,43,47]⟩:ByteArray).size):(⟨#[65,66,67,68,69,70,71,72,73,74,75,76,77,78,79,80,81,82,83,84,85,86,87,88,89,90,97,98,99,100,101,102,103,104,105,106,107,108,109,110,111,112,113,114,115,116,117,118,119,120,121,122,48,49,50,51,52,53,54,55,56,57,43,47]⟩:ByteArray)[z.toNat]'h=aU k:=by
 subst h0
 exact let_at k h
theorem and3 (c:UInt8):bits .and .u8 (c.toNat:Int) 3=(c.toNat:Int)%4:=by
 have H:∀n:Fin 256,bits .and .u8 (n.val:Int) 3=(n.val:Int)%4:=by decide+kernel
 exact H ⟨c.toNat,c.toNat_lt⟩
theorem ap8 (c:UInt8):bits .and .u8 (c.toNat:Int) 63=(c.toNat:Int)%64:=by
 have H:∀n:Fin 256,bits .and .u8 (n.val:Int) 63=(n.val:Int)%64:=by decide+kernel
 exact H ⟨c.toNat,c.toNat_lt⟩
theorem or4 (x y:Nat) (hx:x<4) (hy:y<16):bits .or .u8 ((x:Int)*16) (y:Int)=(x:Int)*16+y:=by
 have H:∀(x:Fin 4) (y:Fin 16),bits .or .u8 ((x.val:Int)*16) (y.val:Int)=(x.val:Int)*16+y.val:=by decide+kernel
 exact H ⟨x,hx⟩ ⟨y,hy⟩
theorem or2 (x y:Nat) (hx:x<16) (hy:y<4):bits .or .u8 ((x:Int)*4) (y:Int)=(x:Int)*4+y:=by
 have H:∀(x:Fin 16) (y:Fin 4),bits .or .u8 ((x.val:Int)*4) (y.val:Int)=(x.val:Int)*4+y.val:=by decide+kernel
 exact H ⟨x,hx⟩ ⟨y,hy⟩
theorem or_ab (a b:UInt8):bits .or .u8 ((a.toNat:Int)%4*16) ((b.toNat:Int) / 16)=(a.toNat:Int)%4*16+(b.toNat:Int) / 16:=by
 have:=or4 (a.toNat%4) (b.toNat / 16) (by omega) (by have:=b.toNat_lt;omega)
 simpa using this
theorem or_bc (b c:UInt8):bits .or .u8 ((b.toNat:Int)%16*4) ((c.toNat:Int) / 64)=(b.toNat:Int)%16*4+(c.toNat:Int) / 64:=by
 have:=or2 (b.toNat%16) (c.toNat / 64) (by omega) (by have:=c.toNat_lt;omega)
 simpa using this
theorem aeP (a:UInt8):IntKind.u8.wrap ((a.toNat:Int)%4*16)=(a.toNat:Int)%4*16:=by
 have H:∀n:Fin 256,IntKind.u8.wrap ((n.val:Int)%4*16)=(n.val:Int)%4*16:=by decide+kernel
 exact H ⟨a.toNat,a.toNat_lt⟩
theorem an8 (b:UInt8):IntKind.u8.wrap ((b.toNat:Int)%16*4)=(b.toNat:Int)%16*4:=by
 have H:∀n:Fin 256,IntKind.u8.wrap ((n.val:Int)%16*4)=(n.val:Int)%16*4:=by decide+kernel
 exact H ⟨b.toNat,b.toNat_lt⟩
def KT:Value→Nat| .slice _ n _=>n|_=>0
theorem XC (L:List UInt8):(e64 L).length=(L.length+2) / 3*4:=by
 have H:∀(n:Nat) (L:List UInt8),L.length≤n→(e64 L).length=(L.length+2) / 3*4:=by
  intro n
  induction n with
  |zero=>intro L h;obtain rfl:L=[]:=List.eq_nil_of_length_eq_zero (by omega);rfl
  |succ n ih=>
   intro L h
   match L with
   |[]=>rfl
   |[a]=>simp[e64]
   |[a,b]=>simp[e64]
   |a::b::c::t=>
    have:=ih t (by simp at h;omega)
    simp only[e64,List.length_append,List.length_cons,List.length_nil,this]
    omega
 exact H _ L (Nat.le_refl _)
theorem three {M:List UInt8} (h:3≤M.length):∃a b c t,M=a::b::c::t:=by
 match M,h with
 |a::b::c::t,_=>exact⟨a,b,c,t,rfl⟩
theorem one_of {M:List UInt8} (h:M.length=1):∃a,M=[a]:=by
 match M,h with
 |[a],_=>exact⟨a,rfl⟩
theorem LY {M:List UInt8} (h:M.length=2):∃a b,M=[a,b]:=by
 match M,h with
 |[a,b],_=>exact⟨a,b,rfl⟩
theorem eF (A : Option Addr) (n cap : Nat) (L : List UInt8) (w : World) (h : aY w A n (ah L)) (hc : n ≤ cap) (hm : n ≤ 1073741824) :
  Calls Tryz.prog 186 #[.slice A n cap] w fun e w'=>e=.returned (.string (strOf (e64 L)))∧Below w.heap.size w w':=by
 obtain⟨i0,hi,hz0,hz1,hz2⟩:=info_parts iR
 have HH:=hid h
 clear h
 have hq:((n:Int)+2).tdiv 3=(((n+2) / 3:Nat):Int):=by rw[Int.tdiv_eq_ediv_of_nonneg (by omega)];omega
 have hq2:((n:Int)+2) / 3=(((n+2) / 3:Nat):Int):=by omega
 have hq3:(n+2) / 3≤536870912:=by omega
 obtain⟨q,hqq⟩:∃q,q=(n+2) / 3:=⟨_,rfl⟩
 rw[←hqq]at hq hq2 hq3
 clear hqq
 go_enter Tryz.func186,Tryz.ntmps186
 go_wp2_with (at_make;refine wpList_make_own _ rfl _ _ 45 rfl w.heap.size 5 i0 (.int .u8 0) 1 Tryz.underlying45 hi hz0 hz1 .i64 .i64 _ (q*4) rfl rfl rfl (by rw[hz2];omega) (by unfold maxLen;omega) (Nat.le_refl _) ?_)
 intro w1 hown1 hg1
 have gW:Below w.heap.size w w1:=(Below.refl _ _).grown hg1 (Nat.le_refl _) (by intro k h;cases h)
 clear hg1 hq hq2
 go_wp2
 go_loopw [0,3] (fun vs v wr=>∃(m c:Nat) (Ak:Option Addr) (M X:List UInt8),m≤n∧m≤c∧vs=.slice Ak m c∧X.length+2*m≤2*n∧Hid (aY w Ak m (ah M))∧Hid (X++e64 M=e64 L)∧wr.ownsRow w.heap.size 5 1 v X.length (ah X)∧Below w.heap.size w wr) (fun vs _ _=>KT vs)
 case atStart=>exact⟨n,cap,A,L,[],Nat.le_refl _,hc,rfl,by simp,HH,rfl,hown1,gW⟩
 case round=>
  clear hown1 gW HH hc
  obtain⟨m,cp,Ak,M,X,hmn,hmc,rfl,hX,HM,HE,hown,hbel⟩:=hrel
  have hml:M.length=m:=by rw[←aI];exact HM.out.1
  by_cases h3:3≤m
  ·obtain ⟨g,off,rfl,hg,_⟩:=(HM.out).spot (by omega)
   obtain⟨a,b,c,tt,hMM⟩:=three (M:=M) (by omega)
   subst hMM
   have hgr:g<wr.heap.size:=Nat.lt_of_lt_of_le hg hbel.size
   have hc0:wr.cell? ⟨g,off,none⟩=some (.int .u8 (a.toNat:Int)):=(hbel.cell (p:=⟨g,off+0,none⟩) hg).trans (HM.out.byte 0 (by simp))
   have hc1:wr.cell? ⟨g,off+1,none⟩=some (.int .u8 (b.toNat:Int)):=(hbel.cell (p:=⟨g,off+1,none⟩) hg).trans (HM.out.byte 1 (by simp))
   have hc2:wr.cell? ⟨g,off+2,none⟩=some (.int .u8 (c.toNat:Int)):=(hbel.cell (p:=⟨g,off+2,none⟩) hg).trans (HM.out.byte 2 (by simp))
   have HML:=hid hml
   clear hml
   have HE2:Hid ((X++[aU (a.toNat / 4),aU (a.toNat%4*16+b.toNat / 16),aU (b.toNat%16*4+c.toNat / 64),aU (c.toNat%64)])++e64 tt=e64 L):=by
    have:=HE.out
    rw[e64,←List.append_assoc]at this
    exact this
   have HCut:Hid (aY w (some ⟨g,off+3,none⟩) (m - 3) (ah tt)):=by
    have:=HM.out.cut 3 h3
    exact this
   have ba:(a.toNat:Int)<256:=by have:=a.toNat_lt;omega
   have bb:(b.toNat:Int)<256:=by have:=b.toNat_lt;omega
   have bc:(c.toNat:Int)<256:=by have:=c.toNat_lt;omega
   have o1:=or_ab a b
   have o2:=or_bc b c
   have o3:=and3 a
   have o4:=PE b
   have o5:=ap8 c
   have o6:=aeP a
   have o7:=an8 b
   have x0:(0:Int)≤(a.toNat:Int) / 4:=by omega
   have x1:(a.toNat:Int) / 4<64:=by omega
   have x2:∀h,(⟨#[65,66,67,68,69,70,71,72,73,74,75,76,77,78,79,80,81,82,83,84,85,86,87,88,89,90,97,98,99,100,101,102,103,104,105,106,107,108,109,110,111,112,113,114,115,116,117,118,119,120,121,122,48,49,50,51,52,53,54,55,56,57,43,47]⟩:ByteArray)[((a.toNat:Int) / 4).toNat]'h=aU (a.toNat / 4):=fun h=>uf _ (a.toNat / 4) (by omega) (by omega) h
   have y0:(0:Int)≤(a.toNat:Int)%4*16+(b.toNat:Int) / 16:=by omega
   have y1:(a.toNat:Int)%4*16+(b.toNat:Int) / 16<64:=by omega
   have y2:∀h,(⟨#[65,66,67,68,69,70,71,72,73,74,75,76,77,78,79,80,81,82,83,84,85,86,87,88,89,90,97,98,99,100,101,102,103,104,105,106,107,108,109,110,111,112,113,114,115,116,117,118,119,120,121,122,48,49,50,51,52,53,54,55,56,57,43,47]⟩:ByteArray)[((a.toNat:Int)%4*16+(b.toNat:Int) / 16).toNat]'h=aU (a.toNat%4*16+b.toNat / 16):=fun h=>uf _ (a.toNat%4*16+b.toNat / 16) (by omega) (by omega) h
   have z0:(0:Int)≤(b.toNat:Int)%16*4+(c.toNat:Int) / 64:=by omega
   have z1:(b.toNat:Int)%16*4+(c.toNat:Int) / 64<64:=by omega
   have z2:∀h,(⟨#[65,66,67,68,69,70,71,72,73,74,75,76,77,78,79,80,81,82,83,84,85,86,87,88,89,90,97,98,99,100,101,102,103,104,105,106,107,108,109,110,111,112,113,114,115,116,117,118,119,120,121,122,48,49,50,51,52,53,54,55,56,57,43,47]⟩:ByteArray)[((b.toNat:Int)%16*4+(c.toNat:Int) / 64).toNat]'h=aU (b.toNat%16*4+c.toNat / 64):=fun h=>uf _ (b.toNat%16*4+c.toNat / 64) (by omega) (by omega) h
   have u0:(0:Int)≤(c.toNat:Int)%64:=by omega
   have u1:(c.toNat:Int)%64<64:=by omega
   have u2:∀h,(⟨#[65,66,67,68,69,70,71,72,73,74,75,76,77,78,79,80,81,82,83,84,85,86,87,88,89,90,97,98,99,100,101,102,103,104,105,106,107,108,109,110,111,112,113,114,115,116,117,118,119,120,121,122,48,49,50,51,52,53,54,55,56,57,43,47]⟩:ByteArray)[((c.toNat:Int)%64).toNat]'h=aU (c.toNat%64):=fun h=>uf _ (c.toNat%64) (by omega) (by omega) h
   have j1:(1:Int)<(m:Int):=by omega
   have j2:(2:Int)<(m:Int):=by omega
   have j0:(0:Int)<(m:Int):=by omega
   have j3:(3:Int)≤(m:Int):=by omega
   have l0:0<m:=by omega
   have l1:1<m:=by omega
   have l2:2<m:=by omega
   go_wp2
   refine bC (by kernel_rfl) 34 [is (u3),is (.slice (some ⟨g,off,none⟩) m cp),is (.pointer (some ⟨g,off,none⟩)),is (.int .u8 (a.toNat:Int)),is (.int .u8 ((a.toNat:Int) / 4)),is (.int .u8 ((aU (a.toNat / 4)).toNat:Int)),is (.slice (some ⟨g,off,none⟩) m cp),is (.pointer (some ⟨g,off,none⟩)),is (.int .u8 (a.toNat:Int)),is (.int .u8 ((a.toNat:Int)%4)),is (.int .u8 ((a.toNat:Int)%4*16)),is (.slice (some ⟨g,off,none⟩) m cp),is (.pointer (some ⟨g,off+1,none⟩)),is (.int .u8 (b.toNat:Int)),is (.int .u8 ((b.toNat:Int) / 16)),is (.int .u8 ((a.toNat:Int)%4*16+(b.toNat:Int) / 16)),is (.int .u8 ((aU (a.toNat%4*16+b.toNat / 16)).toNat:Int)),is (.slice (some ⟨g,off,none⟩) m cp),is (.pointer (some ⟨g,off+1,none⟩)),is (.int .u8 (b.toNat:Int)),is (.int .u8 ((b.toNat:Int)%16)),is (.int .u8 ((b.toNat:Int)%16*4)),is (.slice (some ⟨g,off,none⟩) m cp),is (.pointer (some ⟨g,off+2,none⟩)),is (.int .u8 (c.toNat:Int)),is (.int .u8 ((c.toNat:Int) / 64)),is (.int .u8 ((b.toNat:Int)%16*4+(c.toNat:Int) / 64)),is (.int .u8 ((aU (b.toNat%16*4+c.toNat / 64)).toNat:Int)),is (.slice (some ⟨g,off,none⟩) m cp),is (.pointer (some ⟨g,off+2,none⟩)),is (.int .u8 (c.toNat:Int)),is (.int .u8 ((c.toNat:Int)%64)),is (.int .u8 ((aU (c.toNat%64)).toNat:Int)),row 4 (ah [aU (a.toNat / 4),aU (a.toNat%4*16+b.toNat / 16),aU (b.toNat%16*4+c.toNat / 64),aU (c.toNat%64)])] [[],[],[1],[1,2],[1,2,3],[1,2,3,4],[],[6],[6,7],[6,7,8],[6,7,8,9],[],[11],[11,12],[11,12,13],[6,7,8,9,10,11,12,13,14],[6,7,8,9,10,11,12,13,14,15],[],[17],[17,18],[17,18,19],[17,18,19,20],[],[22],[22,23],[22,23,24],[17,18,19,20,21,22,23,24,25],[17,18,19,20,21,22,23,24,25,26],[],[28],[28,29],[28,29,30],[28,29,30,31],[1,2,3,4,5,6,7,8,9,10,11,12,13,14,15,16,17,18,19,20,21,22,23,24,25,26,27,28,29,30,31,32],[0,1,2,3,4,5,6,7,8,9,10,11,12,13,14,15,16,17,18,19,20,21,22,23,24,25,26,27,28,29,30,31,32,33]] (by kernel_rfl) ?_ ?_
   ·refine ⟨?_,?_,?_,?_,?_,?_,?_,?_,?_,?_,?_,?_,?_,?_,?_,?_,?_,?_,?_,?_,?_,?_,?_,?_,?_,?_,?_,?_,?_,?_,?_,?_,?_,?_,trivial⟩
    all_goals(intro t wq hbq hh K hK;simp only[filled,aj,upd,Have,is,any,row,pick,Act.put,List.setIfInBounds_toArray,List.set_cons_zero,List.set_cons_succ,Nat.reduceAdd,Nat.reduceEqDiff,reduceIte,List.tail_cons,List.headD_cons]at hh hK⊢)
    iterate 3
     ·try simp only[hh]at hK⊢
      clear hh
      go_simp
      exact hK _ _ (Below.refl _ _) rfl
    ·have e2:=hh.2.1
     clear hh
     simp only[e2]at hK⊢
     have hq:=(hbq.cell (p:=⟨g,off,none⟩) hgr).trans hc0
     go_simp
     first|exact hK _ _ (Below.refl _ _) rfl|(refine hK _ _ (Below.refl _ _) ?_;simp[is,pick])
    iterate 4
     ·try simp only[hh]at hK⊢
      clear hh
      go_simp
      exact hK _ _ (Below.refl _ _) rfl
    ·have e7:=hh.2.1
     clear hh
     simp only[e7]at hK⊢
     have hq:=(hbq.cell (p:=⟨g,off,none⟩) hgr).trans hc0
     go_simp
     first|exact hK _ _ (Below.refl _ _) rfl|(refine hK _ _ (Below.refl _ _) ?_;simp[is,pick])
    iterate 4
     ·try simp only[hh]at hK⊢
      clear hh
      go_simp
      exact hK _ _ (Below.refl _ _) rfl
    ·have e12:=hh.2.1
     clear hh
     simp only[e12]at hK⊢
     have hq:=(hbq.cell (p:=⟨g,off+1,none⟩) hgr).trans hc1
     go_simp
     first|exact hK _ _ (Below.refl _ _) rfl|(refine hK _ _ (Below.refl _ _) ?_;simp[is,pick])
    iterate 5
     ·try simp only[hh]at hK⊢
      clear hh
      go_simp
      exact hK _ _ (Below.refl _ _) rfl
    ·have e18:=hh.2.1
     clear hh
     simp only[e18]at hK⊢
     have hq:=(hbq.cell (p:=⟨g,off+1,none⟩) hgr).trans hc1
     go_simp
     first|exact hK _ _ (Below.refl _ _) rfl|(refine hK _ _ (Below.refl _ _) ?_;simp[is,pick])
    iterate 4
     ·try simp only[hh]at hK⊢
      clear hh
      go_simp
      exact hK _ _ (Below.refl _ _) rfl
    ·have e23:=hh.2.1
     clear hh
     simp only[e23]at hK⊢
     have hq:=(hbq.cell (p:=⟨g,off+2,none⟩) hgr).trans hc2
     go_simp
     first|exact hK _ _ (Below.refl _ _) rfl|(refine hK _ _ (Below.refl _ _) ?_;simp[is,pick])
    iterate 5
     ·try simp only[hh]at hK⊢
      clear hh
      go_simp
      exact hK _ _ (Below.refl _ _) rfl
    ·have e29:=hh.2.1
     clear hh
     simp only[e29]at hK⊢
     have hq:=(hbq.cell (p:=⟨g,off+2,none⟩) hgr).trans hc2
     go_simp
     first|exact hK _ _ (Below.refl _ _) rfl|(refine hK _ _ (Below.refl _ _) ?_;simp[is,pick])
    iterate 2
     ·try simp only[hh]at hK⊢
      clear hh
      go_simp
      exact hK _ _ (Below.refl _ _) rfl
    ·try simp only[hh]at hK⊢
     clear hh
     go_simp
     exact hK _ _ ((Below.refl _ _).alloc (Nat.le_refl _) _) ⟨_,_,rfl,Nat.le_refl _,by decide,qF wq [aU (a.toNat / 4),aU (a.toNat%4*16+b.toNat / 16),aU (b.toNat%16*4+c.toNat / 64),aU (c.toNat%64)] 5 (0,0)⟩
   ·intro t wq hbq hh
    have f0:=aB hh 0 (by decide)
    simp only[pick]at f0
    replace f0:t 0=(u3):=f0
    have f33:=aB hh 33 (by decide)
    simp only[pick]at f33
    clear hh
    simp only[filled,aj,upd,Have,is,any,row,pick,Act.put,List.setIfInBounds_toArray,List.set_cons_zero,List.set_cons_succ,Nat.reduceAdd,Nat.reduceEqDiff,reduceIte]
    obtain⟨A33,c33,f33,hc33,hm33,hr33⟩:=f33
    simp only[f0,f33]
    have hown1:=aP hown hbq
    have gW:Below w.heap.size w wq:=hbel.trans (hbq.mono hbel.size)
    refine dH rfl _ _ 45 rfl w.heap.size 5 i0 (.int .u8 0) 1 Tryz.underlying45 hi hz0 hz1 hz2 rfl _ X.length _ rfl hown1 gW gW.size A33 4 c33 (ah [aU (a.toNat / 4),aU (a.toNat%4*16+b.toNat / 16),aU (b.toNat%16*4+c.toNat / 64),aU (c.toNat%64)]) rfl hr33 (nR _) (by unfold maxLen;omega) (by omega) ?_
    intro v' w2 hown2 dZ
    clear o1 o2 o3 o4 o5 o6 o7 x0 x1 x2 y0 y1 y2 z0 z1 z2 u0 u1 u2 hown hown1
    have HO:Hid (w2.ownsRow w.heap.size 5 1 v' (X++[aU (a.toNat / 4),aU (a.toNat%4*16+b.toNat / 16),aU (b.toNat%16*4+c.toNat / 64),aU (c.toNat%64)]).length (ah (X++[aU (a.toNat / 4),aU (a.toNat%4*16+b.toNat / 16),aU (b.toNat%16*4+c.toNat / 64),aU (c.toNat%64)]))):=by
     rw[aS,List.length_append]
     exact hown2
    clear hown2
    by_cases hcap:cp=3
    ·subst hcap
     obtain rfl:m=3:=by omega
     have HN:Hid (tt=[]):=by
      have:=HML.out
      simp at this
      exact this
     go_wp2
     go_roundw
     case rel=>exact⟨0,0,_,[],X++[aU (a.toNat / 4),aU (a.toNat%4*16+b.toNat / 16),aU (b.toNat%16*4+c.toNat / 64),aU (c.toNat%64)],by omega,by omega,rfl,by simp;omega,aY.nil _,by rw[←HE2.out,HN.out];exact rfl,HO.out,dZ⟩
     case measure=>simp[KT]
    ·have hcap':¬(cp:Int)=3:=by omega
     go_wp2
     go_roundw
     case rel=>exact⟨m - 3,cp - 3,_,tt,X++[aU (a.toNat / 4),aU (a.toNat%4*16+b.toNat / 16),aU (b.toNat%16*4+c.toNat / 64),aU (c.toNat%64)],by omega,by omega,rfl,by simp;omega,HCut,HE2,HO.out,dZ⟩
     case measure=>simp[KT];omega
  ·have hfin : ∀ (v : Value) (wz : World) (Y : List UInt8), Y = e64 L → wz.ownsRow w.heap.size 5 1 v Y.length (ah Y) → ∃ A2 c2, v = .slice A2 (e64 L).length c2 ∧ (convert 45 9 (.slice A2 (e64 L).length c2)).run Tryz.prog wz = .ok (.string (strOf (e64 L))) wz := by
    intro v wz Y hY hv
    subst hY
    obtain⟨A2,c2,rfl,_,_,hr2⟩:=aJ hv
    exact⟨A2,c2,rfl,aF 45 9 5 Tryz.underlying45 Tryz.underlying5 Tryz.underlying9 _ c2 hr2⟩
   have HF:=hid hfin
   clear hfin
   have hcase:m=0∨m=1∨m=2:=by omega
   rcases hcase with rfl|rfl|rfl
   ·have hM0:M=[]:=List.eq_nil_of_length_eq_zero hml
    subst hM0
    obtain⟨A2,c2,rfl,hst⟩:=HF.out u3 wr X (by have:=HE.out;simpa[e64]using this) hown
    go_wp2
    go_ret
    exact⟨rfl,hbel⟩
   ·obtain ⟨a,hMM⟩:=one_of hml
    subst hMM
    obtain⟨g,off,rfl,hg,_⟩:=(HM.out).spot (by omega)
    have hgr:g<wr.heap.size:=Nat.lt_of_lt_of_le hg hbel.size
    have hc0:wr.cell? ⟨g,off,none⟩=some (.int .u8 (a.toNat:Int)):=(hbel.cell (p:=⟨g,off+0,none⟩) hg).trans (HM.out.byte 0 (by simp))
    have HE2:Hid (X++[aU (a.toNat / 4),aU (a.toNat%4*16),61,61]=e64 L):=by
     have:=HE.out
     rw[e64]at this
     exact this
    have ba:(a.toNat:Int)<256:=by have:=a.toNat_lt;omega
    have o3:=and3 a
    have o6:=aeP a
    have x0:(0:Int)≤(a.toNat:Int) / 4:=by omega
    have x1:(a.toNat:Int) / 4<64:=by omega
    have x2:∀h,(⟨#[65,66,67,68,69,70,71,72,73,74,75,76,77,78,79,80,81,82,83,84,85,86,87,88,89,90,97,98,99,100,101,102,103,104,105,106,107,108,109,110,111,112,113,114,115,116,117,118,119,120,121,122,48,49,50,51,52,53,54,55,56,57,43,47]⟩:ByteArray)[((a.toNat:Int) / 4).toNat]'h=aU (a.toNat / 4):=fun h=>uf _ (a.toNat / 4) (by omega) (by omega) h
    have y0:(0:Int)≤(a.toNat:Int)%4*16:=by omega
    have y1:(a.toNat:Int)%4*16<64:=by omega
    have y2:∀h,(⟨#[65,66,67,68,69,70,71,72,73,74,75,76,77,78,79,80,81,82,83,84,85,86,87,88,89,90,97,98,99,100,101,102,103,104,105,106,107,108,109,110,111,112,113,114,115,116,117,118,119,120,121,122,48,49,50,51,52,53,54,55,56,57,43,47]⟩:ByteArray)[((a.toNat:Int)%4*16).toNat]'h=aU (a.toNat%4*16):=fun h=>uf _ (a.toNat%4*16) (by omega) (by omega) h
    go_wp2
    refine bC (by kernel_rfl) 13 [is (u3),is (.slice (some ⟨g,off,none⟩) 1 cp),is (.pointer (some ⟨g,off,none⟩)),is (.int .u8 (a.toNat:Int)),is (.int .u8 ((a.toNat:Int) / 4)),is (.int .u8 ((aU (a.toNat / 4)).toNat:Int)),is (.slice (some ⟨g,off,none⟩) 1 cp),is (.pointer (some ⟨g,off,none⟩)),is (.int .u8 (a.toNat:Int)),is (.int .u8 ((a.toNat:Int)%4)),is (.int .u8 ((a.toNat:Int)%4*16)),is (.int .u8 ((aU (a.toNat%4*16)).toNat:Int)),row 4 (ah [aU (a.toNat / 4),aU (a.toNat%4*16),61,61])] [[],[],[1],[1,2],[1,2,3],[1,2,3,4],[],[6],[6,7],[6,7,8],[6,7,8,9],[6,7,8,9,10],[1,2,3,4,5,6,7,8,9,10,11],[0,1,2,3,4,5,6,7,8,9,10,11,12]] (by kernel_rfl) ?_ ?_
    ·refine ⟨?_,?_,?_,?_,?_,?_,?_,?_,?_,?_,?_,?_,?_,trivial⟩
     all_goals(intro t wq hbq hh K hK;simp only[filled,aj,upd,Have,is,any,row,pick,Act.put,List.setIfInBounds_toArray,List.set_cons_zero,List.set_cons_succ,Nat.reduceAdd,Nat.reduceEqDiff,reduceIte,List.tail_cons,List.headD_cons]at hh hK⊢)
     iterate 3
      ·try simp only[hh]at hK⊢
       clear hh
       go_simp
       exact hK _ _ (Below.refl _ _) rfl
     ·have e2:=hh.2.1
      clear hh
      simp only[e2]at hK⊢
      have hq:=(hbq.cell (p:=⟨g,off,none⟩) hgr).trans hc0
      go_simp
      first|exact hK _ _ (Below.refl _ _) rfl|(refine hK _ _ (Below.refl _ _) ?_;simp[is,pick])
     iterate 4
      ·try simp only[hh]at hK⊢
       clear hh
       go_simp
       exact hK _ _ (Below.refl _ _) rfl
     ·have e7:=hh.2.1
      clear hh
      simp only[e7]at hK⊢
      have hq:=(hbq.cell (p:=⟨g,off,none⟩) hgr).trans hc0
      go_simp
      first|exact hK _ _ (Below.refl _ _) rfl|(refine hK _ _ (Below.refl _ _) ?_;simp[is,pick])
     iterate 3
      ·try simp only[hh]at hK⊢
       clear hh
       go_simp
       exact hK _ _ (Below.refl _ _) rfl
     ·try simp only[hh]at hK⊢
      clear hh
      go_simp
      exact hK _ _ ((Below.refl _ _).alloc (Nat.le_refl _) _) ⟨_,_,rfl,Nat.le_refl _,by decide,qF wq [aU (a.toNat / 4),aU (a.toNat%4*16),61,61] 5 (0,0)⟩
    ·intro t wq hbq hh
     have f0:=aB hh 0 (by decide)
     simp only[pick]at f0
     replace f0:t 0=(u3):=f0
     have f12:=aB hh 12 (by decide)
     simp only[pick]at f12
     clear hh
     simp only[filled,aj,upd,Have,is,any,row,pick,Act.put,List.setIfInBounds_toArray,List.set_cons_zero,List.set_cons_succ,Nat.reduceAdd,Nat.reduceEqDiff,reduceIte]
     obtain⟨A12,c12,f12,hc12,aq8,hr12⟩:=f12
     simp only[f0,f12]
     have hown1:=aP hown hbq
     have gW:Below w.heap.size w wq:=hbel.trans (hbq.mono hbel.size)
     refine dH rfl _ _ 45 rfl w.heap.size 5 i0 (.int .u8 0) 1 Tryz.underlying45 hi hz0 hz1 hz2 rfl _ X.length _ rfl hown1 gW gW.size A12 4 c12 (ah [aU (a.toNat / 4),aU (a.toNat%4*16),61,61]) rfl hr12 (nR _) (by unfold maxLen;omega) (by omega) ?_
     intro v' w2 hown2 dZ
     clear o3 o6 x0 x1 x2 y0 y1 y2 hown hown1
     obtain⟨A2,c2,rfl,hst⟩:=HF.out v' w2 _ HE2.out (by
      rw[aS,List.length_append]
      exact hown2)
     go_wp2
     go_ret
     exact⟨rfl,dZ⟩
   ·obtain ⟨a,b,hMM⟩:=LY hml
    subst hMM
    obtain⟨g,off,rfl,hg,_⟩:=(HM.out).spot (by omega)
    have hgr:g<wr.heap.size:=Nat.lt_of_lt_of_le hg hbel.size
    have hc0:wr.cell? ⟨g,off,none⟩=some (.int .u8 (a.toNat:Int)):=(hbel.cell (p:=⟨g,off+0,none⟩) hg).trans (HM.out.byte 0 (by simp))
    have hc1:wr.cell? ⟨g,off+1,none⟩=some (.int .u8 (b.toNat:Int)):=(hbel.cell (p:=⟨g,off+1,none⟩) hg).trans (HM.out.byte 1 (by simp))
    have HE2:Hid (X++[aU (a.toNat / 4),aU (a.toNat%4*16+b.toNat / 16),aU (b.toNat%16*4),61]=e64 L):=by
     have:=HE.out
     rw[e64]at this
     exact this
    have ba:(a.toNat:Int)<256:=by have:=a.toNat_lt;omega
    have bb:(b.toNat:Int)<256:=by have:=b.toNat_lt;omega
    have o1:=or_ab a b
    have o3:=and3 a
    have o4:=PE b
    have o6:=aeP a
    have o7:=an8 b
    have x0:(0:Int)≤(a.toNat:Int) / 4:=by omega
    have x1:(a.toNat:Int) / 4<64:=by omega
    have x2:∀h,(⟨#[65,66,67,68,69,70,71,72,73,74,75,76,77,78,79,80,81,82,83,84,85,86,87,88,89,90,97,98,99,100,101,102,103,104,105,106,107,108,109,110,111,112,113,114,115,116,117,118,119,120,121,122,48,49,50,51,52,53,54,55,56,57,43,47]⟩:ByteArray)[((a.toNat:Int) / 4).toNat]'h=aU (a.toNat / 4):=fun h=>uf _ (a.toNat / 4) (by omega) (by omega) h
    have y0:(0:Int)≤(a.toNat:Int)%4*16+(b.toNat:Int) / 16:=by omega
    have y1:(a.toNat:Int)%4*16+(b.toNat:Int) / 16<64:=by omega
    have y2:∀h,(⟨#[65,66,67,68,69,70,71,72,73,74,75,76,77,78,79,80,81,82,83,84,85,86,87,88,89,90,97,98,99,100,101,102,103,104,105,106,107,108,109,110,111,112,113,114,115,116,117,118,119,120,121,122,48,49,50,51,52,53,54,55,56,57,43,47]⟩:ByteArray)[((a.toNat:Int)%4*16+(b.toNat:Int) / 16).toNat]'h=aU (a.toNat%4*16+b.toNat / 16):=fun h=>uf _ (a.toNat%4*16+b.toNat / 16) (by omega) (by omega) h
    have z0:(0:Int)≤(b.toNat:Int)%16*4:=by omega
    have z1:(b.toNat:Int)%16*4<64:=by omega
    have z2:∀h,(⟨#[65,66,67,68,69,70,71,72,73,74,75,76,77,78,79,80,81,82,83,84,85,86,87,88,89,90,97,98,99,100,101,102,103,104,105,106,107,108,109,110,111,112,113,114,115,116,117,118,119,120,121,122,48,49,50,51,52,53,54,55,56,57,43,47]⟩:ByteArray)[((b.toNat:Int)%16*4).toNat]'h=aU (b.toNat%16*4):=fun h=>uf _ (b.toNat%16*4) (by omega) (by omega) h
    go_wp2
    refine bC (by kernel_rfl) 24 [is (u3),is (.slice (some ⟨g,off,none⟩) 2 cp),is (.pointer (some ⟨g,off,none⟩)),is (.int .u8 (a.toNat:Int)),is (.int .u8 ((a.toNat:Int) / 4)),is (.int .u8 ((aU (a.toNat / 4)).toNat:Int)),is (.slice (some ⟨g,off,none⟩) 2 cp),is (.pointer (some ⟨g,off,none⟩)),is (.int .u8 (a.toNat:Int)),is (.int .u8 ((a.toNat:Int)%4)),is (.int .u8 ((a.toNat:Int)%4*16)),is (.slice (some ⟨g,off,none⟩) 2 cp),is (.pointer (some ⟨g,off+1,none⟩)),is (.int .u8 (b.toNat:Int)),is (.int .u8 ((b.toNat:Int) / 16)),is (.int .u8 ((a.toNat:Int)%4*16+(b.toNat:Int) / 16)),is (.int .u8 ((aU (a.toNat%4*16+b.toNat / 16)).toNat:Int)),is (.slice (some ⟨g,off,none⟩) 2 cp),is (.pointer (some ⟨g,off+1,none⟩)),is (.int .u8 (b.toNat:Int)),is (.int .u8 ((b.toNat:Int)%16)),is (.int .u8 ((b.toNat:Int)%16*4)),is (.int .u8 ((aU (b.toNat%16*4)).toNat:Int)),row 4 (ah [aU (a.toNat / 4),aU (a.toNat%4*16+b.toNat / 16),aU (b.toNat%16*4),61])] [[],[],[1],[1,2],[1,2,3],[1,2,3,4],[],[6],[6,7],[6,7,8],[6,7,8,9],[],[11],[11,12],[11,12,13],[6,7,8,9,10,11,12,13,14],[6,7,8,9,10,11,12,13,14,15],[],[17],[17,18],[17,18,19],[17,18,19,20],[17,18,19,20,21],[1,2,3,4,5,6,7,8,9,10,11,12,13,14,15,16,17,18,19,20,21,22],[0,1,2,3,4,5,6,7,8,9,10,11,12,13,14,15,16,17,18,19,20,21,22,23]] (by kernel_rfl) ?_ ?_
    ·refine ⟨?_,?_,?_,?_,?_,?_,?_,?_,?_,?_,?_,?_,?_,?_,?_,?_,?_,?_,?_,?_,?_,?_,?_,?_,trivial⟩
     all_goals(intro t wq hbq hh K hK;simp only[filled,aj,upd,Have,is,any,row,pick,Act.put,List.setIfInBounds_toArray,List.set_cons_zero,List.set_cons_succ,Nat.reduceAdd,Nat.reduceEqDiff,reduceIte,List.tail_cons,List.headD_cons]at hh hK⊢)
     iterate 3
      ·try simp only[hh]at hK⊢
       clear hh
       go_simp
       exact hK _ _ (Below.refl _ _) rfl
     ·have e2:=hh.2.1
      clear hh
      simp only[e2]at hK⊢
      have hq:=(hbq.cell (p:=⟨g,off,none⟩) hgr).trans hc0
      go_simp
      first|exact hK _ _ (Below.refl _ _) rfl|(refine hK _ _ (Below.refl _ _) ?_;simp[is,pick])
     iterate 4
      ·try simp only[hh]at hK⊢
       clear hh
       go_simp
       exact hK _ _ (Below.refl _ _) rfl
     ·have e7:=hh.2.1
      clear hh
      simp only[e7]at hK⊢
      have hq:=(hbq.cell (p:=⟨g,off,none⟩) hgr).trans hc0
      go_simp
      first|exact hK _ _ (Below.refl _ _) rfl|(refine hK _ _ (Below.refl _ _) ?_;simp[is,pick])
     iterate 4
      ·try simp only[hh]at hK⊢
       clear hh
       go_simp
       exact hK _ _ (Below.refl _ _) rfl
     ·have e12:=hh.2.1
      clear hh
      simp only[e12]at hK⊢
      have hq:=(hbq.cell (p:=⟨g,off+1,none⟩) hgr).trans hc1
      go_simp
      first|exact hK _ _ (Below.refl _ _) rfl|(refine hK _ _ (Below.refl _ _) ?_;simp[is,pick])
     iterate 5
      ·try simp only[hh]at hK⊢
       clear hh
       go_simp
       exact hK _ _ (Below.refl _ _) rfl
     ·have e18:=hh.2.1
      clear hh
      simp only[e18]at hK⊢
      have hq:=(hbq.cell (p:=⟨g,off+1,none⟩) hgr).trans hc1
      go_simp
      first|exact hK _ _ (Below.refl _ _) rfl|(refine hK _ _ (Below.refl _ _) ?_;simp[is,pick])
     iterate 3
      ·try simp only[hh]at hK⊢
       clear hh
       go_simp
       exact hK _ _ (Below.refl _ _) rfl
     ·try simp only[hh]at hK⊢
      clear hh
      go_simp
      exact hK _ _ ((Below.refl _ _).alloc (Nat.le_refl _) _) ⟨_,_,rfl,Nat.le_refl _,by decide,qF wq [aU (a.toNat / 4),aU (a.toNat%4*16+b.toNat / 16),aU (b.toNat%16*4),61] 5 (0,0)⟩
    ·intro t wq hbq hh
     have f0:=aB hh 0 (by decide)
     simp only[pick]at f0
     replace f0:t 0=(u3):=f0
     have f23:=aB hh 23 (by decide)
     simp only[pick]at f23
     clear hh
     simp only[filled,aj,upd,Have,is,any,row,pick,Act.put,List.setIfInBounds_toArray,List.set_cons_zero,List.set_cons_succ,Nat.reduceAdd,Nat.reduceEqDiff,reduceIte]
     obtain⟨A23,c23,f23,hc23,hm23,hr23⟩:=f23
     simp only[f0,f23]
     have hown1:=aP hown hbq
     have gW:Below w.heap.size w wq:=hbel.trans (hbq.mono hbel.size)
     refine dH rfl _ _ 45 rfl w.heap.size 5 i0 (.int .u8 0) 1 Tryz.underlying45 hi hz0 hz1 hz2 rfl _ X.length _ rfl hown1 gW gW.size A23 4 c23 (ah [aU (a.toNat / 4),aU (a.toNat%4*16+b.toNat / 16),aU (b.toNat%16*4),61]) rfl hr23 (nR _) (by unfold maxLen;omega) (by omega) ?_
     intro v' w2 hown2 dZ
     clear o1 o3 o4 o6 o7 x0 x1 x2 y0 y1 y2 z0 z1 z2 hown hown1
     obtain⟨A2,c2,rfl,hst⟩:=HF.out v' w2 _ HE2.out (by
      rw[aS,List.length_append]
      exact hown2)
     go_wp2
     go_ret
     exact⟨rfl,dZ⟩
end Go.Proofs.YtgamccijegollaaGreatDoor.acp
namespace Go.Proofs.YtgamccijegollaaGreatDoor.B64G
open Go.RowKit Base Dp BZ B64U Nw acp B64P
def dX (c:Nat):List Bool:=[c / 128%2==1,c / 64%2==1,c / 32%2==1,c / 16%2==1,c / 8%2==1,c / 4%2==1,c / 2%2==1,c%2==1]
def allB (L:List UInt8):List Bool:=L.flatMap fun c=>dX c.toNat
def six (B:List Bool) (i:Nat):Nat:=
 b2 (B.getD (6*i) false) 32+b2 (B.getD (6*i+1) false) 16+b2 (B.getD (6*i+2) false) 8+b2 (B.getD (6*i+3) false) 4+b2 (B.getD (6*i+4) false) 2+b2 (B.getD (6*i+5) false) 1
def groups (L:List UInt8):List Nat:=(List.range ((8*L.length+5) / 6)).map (six (allB L))
def body (L:List UInt8):List UInt8:=(groups L).map aU
theorem aiH (X R:List Bool) (j:Nat) (h:X.length=24):six (X++R) (j+4)=six R j:=by
 have g:∀i,(X++R).getD (24+i) false=R.getD i false:=by
  intro i
  simp only[List.getD_eq_getElem?_getD]
  rw[List.getElem?_append_right (by omega)]
  congr 2
  omega
 unfold six
 have e:6*(j+4)=24+6*j:=by omega
 rw[e]
 simp only[Nat.add_assoc,g]
theorem XI (a b c:UInt8) (t:List UInt8):groups (a::b::c::t)=[six (allB (a::b::c::t)) 0,six (allB (a::b::c::t)) 1,six (allB (a::b::c::t)) 2,six (allB (a::b::c::t)) 3]++groups t:=by
 unfold groups
 have e1:(8*(a::b::c::t).length+5) / 6=(8*t.length+5) / 6+4:=by simp only[List.length_cons];omega
 have e:∀m,List.range (m+4)=[0,1,2,3]++(List.range m).map (·+4):=by
  intro m
  rw[Nat.add_comm m 4,List.range_add]
  congr 1
  apply List.map_congr_left
  intro a _
  omega
 rw[e1,e,List.map_append,List.map_map]
 have e3:(List.range ((8*t.length+5) / 6)).map (six (allB (a::b::c::t)) ∘ fun x=>x+4)=(List.range ((8*t.length+5) / 6)).map (six (allB t)):=by
  apply List.map_congr_left
  intro j _
  simp only[Function.comp]
  have e2:allB (a::b::c::t)=(dX a.toNat++(dX b.toNat++dX c.toNat))++allB t:=by simp[allB]
  rw[e2,aiH _ _ j rfl]
 rw[e3]
 rfl
theorem six0 (a:Nat) (R:List Bool) (_h:a<256):six (dX a++R) 0=a / 4:=by
 unfold six dX
 simp only[List.cons_append,List.nil_append,List.getD_cons_zero,List.getD_cons_succ,Nat.mul_zero,Nat.zero_add,zL]
 omega
theorem six1 (a b:Nat) (R:List Bool) (_h:a<256) (_hb:b<256):six (dX a++(dX b++R)) 1=a%4*16+b / 16:=by
 unfold six dX
 simp only[List.cons_append,List.nil_append,List.getD_cons_zero,List.getD_cons_succ,Nat.mul_one,Nat.reduceAdd,zL]
 omega
theorem six2 (a b c:Nat) (R:List Bool) (_h:a<256) (_hb:b<256) (_hc:c<256):six (dX a++(dX b++(dX c++R))) 2=b%16*4+c / 64:=by
 unfold six dX
 simp only[List.cons_append,List.nil_append,List.getD_cons_zero,List.getD_cons_succ,Nat.reduceMul,Nat.reduceAdd,zL]
 omega
theorem six3 (a b c:Nat) (R:List Bool) (_h:a<256) (_hb:b<256) (_hc:c<256):six (dX a++(dX b++(dX c++R))) 3=c%64:=by
 unfold six dX
 simp only[List.cons_append,List.nil_append,List.getD_cons_zero,List.getD_cons_succ,Nat.reduceMul,Nat.reduceAdd,zL]
 omega
theorem six1' (a:Nat) (_h:a<256):six (dX a) 1=a%4*16:=by
 unfold six dX
 simp only[List.getD_cons_zero,List.getD_cons_succ,List.getD_nil,Nat.mul_one,Nat.reduceAdd,zL,Ih]
 omega
theorem six2' (a b:Nat) (_h:a<256) (_hb:b<256):six (dX a++dX b) 2=b%16*4:=by
 unfold six dX
 simp only[List.cons_append,List.nil_append,List.getD_cons_zero,List.getD_cons_succ,List.getD_nil,Nat.reduceMul,Nat.reduceAdd,zL,Ih]
 omega
theorem groups1 (a:UInt8):groups [a]=[a.toNat / 4,a.toNat%4*16]:=by
 have ha:=a.toNat_lt
 have e:allB [a]=dX a.toNat++[]:=by simp[allB]
 unfold groups
 rw[show(8*[a].length+5) / 6=2 by simp,e]
 simp only[List.range_succ,List.range_zero,List.nil_append,List.cons_append,List.map_cons,List.map_nil]
 rw[six0 _ _ ha,List.append_nil,six1' _ ha]
theorem groups2 (a b:UInt8):groups [a,b]=[a.toNat / 4,a.toNat%4*16+b.toNat / 16,b.toNat%16*4]:=by
 have ha:=a.toNat_lt
 have hb:=b.toNat_lt
 have e:allB [a,b]=dX a.toNat++(dX b.toNat++[]):=by simp[allB]
 unfold groups
 rw[show(8*[a,b].length+5) / 6=3 by simp,e]
 simp only[List.range_succ,List.range_zero,List.nil_append,List.cons_append,List.map_cons,List.map_nil]
 rw[six0 _ _ ha,six1 _ _ _ ha hb,List.append_nil,six2' _ _ ha hb]
theorem groups3 (a b c:UInt8) (t:List UInt8):groups (a::b::c::t)=[a.toNat / 4,a.toNat%4*16+b.toNat / 16,b.toNat%16*4+c.toNat / 64,c.toNat%64]++groups t:=by
 have ha:=a.toNat_lt
 have hb:=b.toNat_lt
 have hc:=c.toNat_lt
 rw[XI]
 have e2:allB (a::b::c::t)=dX a.toNat++(dX b.toNat++(dX c.toNat++allB t)):=by simp[allB]
 rw[e2,six0 _ _ ha,six1 _ _ _ ha hb,six2 _ _ _ _ ha hb hc,six3 _ _ _ _ ha hb hc]
def pd (L:List UInt8):Nat:=if L.length%3=0 then 0 else 3 - L.length%3
theorem qC (L:List UInt8):e64 L=body L++List.replicate (pd L) 61∧U2 (groups L)=L∧∀n ∈ groups L,n<64:=by
 have H : ∀ (k : Nat) (L : List UInt8), L.length ≤ k → e64 L = body L ++ List.replicate (pd L) 61 ∧ U2 (groups L) = L ∧ ∀ n ∈ groups L, n < 64 := by
  intro k
  induction k with
  |zero=>intro L h;obtain rfl:L=[]:=List.eq_nil_of_length_eq_zero (by omega);exact⟨rfl,rfl,fun n h=>by simp[groups]at h⟩
  | succ k ih=>
   intro L hl
   match L,hl with
   |[],_=>exact⟨rfl,rfl,fun n h=>by simp[groups]at h⟩
   |[a],_=>
    have ha:=a.toNat_lt
    unfold body
    rw[groups1]
    refine⟨by simp[e64,pd,List.replicate_succ],?_,?_⟩
    ·simp only[U2]
     congr 1
     rw[show a.toNat / 4*4+a.toNat%4*16 / 16=a.toNat by omega]
     simp
    intro n hn
    simp at hn
    omega
   |[a,b],_=>
    have ha:=a.toNat_lt
    have hb:=b.toNat_lt
    unfold body
    rw[groups2]
    refine⟨by simp[e64,pd,List.replicate_succ],?_,?_⟩
    ·simp only[U2]
     rw[show a.toNat / 4*4+(a.toNat%4*16+b.toNat / 16) / 16=a.toNat by omega,show(a.toNat%4*16+b.toNat / 16)%16*16+b.toNat%16*4 / 4=b.toNat by omega]
     simp
    intro n hn
    simp at hn
    omega
   |a::b::c::t,hl=>
    have ha:=a.toNat_lt
    have hb:=b.toNat_lt
    have hc:=c.toNat_lt
    obtain⟨h1,h2,h3⟩:=ih t (by simp at hl;omega)
    have hp:pd (a::b::c::t)=pd t:=by
     unfold pd
     simp only[List.length_cons]
     rw[show(t.length+1+1+1)%3=t.length%3 by omega]
    unfold body at h1⊢
    rw[groups3,hp]
    refine⟨?_,?_,?_⟩
    ·rw[e64,h1]
     simp
    ·simp only[List.cons_append,List.nil_append,U2,h2]
     rw[show a.toNat / 4*4+(a.toNat%4*16+b.toNat / 16) / 16=a.toNat by omega,show(a.toNat%4*16+b.toNat / 16)%16*16+(b.toNat%16*4+c.toNat / 64) / 4=b.toNat by omega,show(b.toNat%16*4+c.toNat / 64)%4*64+c.toNat%64=c.toNat by omega]
     simp
    intro n hn
    simp only[List.cons_append,List.nil_append,List.mem_cons]at hn
    rcases hn with rfl|rfl|rfl|rfl|hn
    ·omega
    ·omega
    ·omega
    ·omega
    exact h3 n hn
 exact H _ L (Nat.le_refl _)
theorem EN (k:Nat) (h:k<64):aU k≠61∧BZ.blank (aU k)=false∧num (aU k)=(k:Int):=by
 have H:∀k:Fin 64,aU k.val≠61∧BZ.blank (aU k.val)=false∧num (aU k.val)=(k.val:Int):=by decide+kernel
 exact H ⟨k,h⟩
theorem Ij (L:List UInt8):∀c ∈ body L,∃k,k<64∧c=aU k:=by
 intro c hc
 simp only[body,List.mem_map]at hc
 obtain⟨k,hk,rfl⟩:=hc
 exact⟨k,(qC L).2.2 k hk,rfl⟩
theorem Xn (L:List UInt8):∀c ∈ body L,c≠61:=by
 intro c hc
 obtain⟨k,hk,rfl⟩:=Ij L c hc
 exact(EN k hk).1
theorem LQ (X:List UInt8) (h:∀c ∈ X,c≠61):strip X=X:=by
 unfold strip
 rw[if_neg]
 intro e
 exact h 61 (List.mem_of_getLast? e) rfl
theorem LV (X:List UInt8):strip (X++[61])=X:=by
 unfold strip
 rw[if_pos (by simp),List.dropLast_concat]
theorem akV (L:List UInt8):(body L).length=(8*L.length+5) / 6:=by simp[body,groups]
theorem pd_le (L:List UInt8):pd L≤2:=by unfold pd;split<;>omega
theorem agB (X:List UInt8) (h:∀c ∈ X,BZ.blank c=false):Ho X=X:=by
 unfold Ho
 rw[List.filter_eq_self]
 intro c hc
 rw[h c hc]
 rfl
theorem PS (L:List UInt8):∀c ∈ body L,BZ.blank c=false:=by
 intro c hc
 obtain⟨k,hk,rfl⟩:=Ij L c hc
 exact(EN k hk).2.1
theorem txt_e64 (L:List UInt8):txt (e64 L)=body L:=by
 have h4:(e64 L).length%4=0:=by rw[XC];omega
 have hb:Ho (e64 L)=e64 L:=agB _ (by
  intro c hc
  rw[(qC L).1]at hc
  rcases List.mem_append.1 hc with hc|hc
  ·exact PS L c hc
  rw[(List.mem_replicate.1 hc).2]
  rfl)
 unfold txt oH
 rw[hb,if_pos h4,(qC L).1]
 have hs:=LQ _ (Xn L)
 rcases(show pd L=0∨pd L=1∨pd L=2 by have:=pd_le L;omega)with h|h|h
 ·rw[h,List.replicate_zero,List.append_nil,hs,hs]
 ·rw[h,show List.replicate 1 (61:UInt8)=[61]from rfl,LV,hs]
 rw[h,show List.replicate 2 (61:UInt8)=[61]++[61]from rfl,←List.append_assoc,LV,LV]
theorem ah2 (T:List UInt8) (hz:∀c ∈ T,0≤num c):pack (gQ (nums T)) (6*T.length / 8)=U2 (nums T):=by
 have:=aaX (nums T) (afW T hz)
 rwa[show(nums T).length=T.length by simp[nums]]at this
theorem back (L Y:List UInt8) (h:txt Y=body L):Hr Y=true∧dB Y=L:=by
 have hz:∀c ∈ body L,0≤num c:=by
  intro c hc
  obtain⟨k,hk,rfl⟩:=Ij L c hc
  rw[(EN k hk).2.2]
  omega
 have ho:Hr Y=true:=by
  unfold Hr
  rw[h,decide_eq_true_iff]
  exact⟨by rw[akV];omega,hz⟩
 refine⟨ho,?_⟩
 have hn:nums (body L)=groups L:=by
  unfold nums body
  rw[List.map_map]
  conv=>rhs;rw[←List.map_id (groups L)]
  apply List.map_congr_left
  intro k hk
  simp only[Function.comp,(EN k ((qC L).2.2 k hk)).2.2,id,Int.toNat_natCast]
 unfold dB
 rw[ho,if_pos rfl,h,←Lc _ hz,ah2 _ hz,hn]
 exact(qC L).2.1
end Go.Proofs.YtgamccijegollaaGreatDoor.B64G
