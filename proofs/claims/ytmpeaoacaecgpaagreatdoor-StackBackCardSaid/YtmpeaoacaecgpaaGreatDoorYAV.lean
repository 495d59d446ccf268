/- Texts that belong together: Xa, akD, acV, WinD, WinE, PosP, Ph, PthM. -/
import Derived.Test.YtmpeaoacaecgpaaGreatDoorYAU
import Derived.Test.YtmpeaoacaecgpaaGreatDoorYAT
import Derived.Test.YtmpeaoacaecgpaaGreatDoorYAQ
import Derived.Test.YtmpeaoacaecgpaaGreatDoorYAI
import Derived.BigQuiet
import Derived.Test.YtmpeaoacaecgpaaGreatDoorYAA
import Derived.Deep.DeepCutAuto
import Derived.Lib.SmallJoins
import Derived.OwnWalk
import Derived.Test.YtmpeaoacaecgpaaGreatDoorYAS
import Derived.Test.YtmpeaoacaecgpaaGreatDoorYAH
import Derived.Test.YtmpeaoacaecgpaaGreatDoorShelf
import Derived.Laws.RangeAny
import Derived.Laws.Runes
import Derived.Deep.LoopGhost
import Derived.WalkMore
set_option linter.unusedSimpArgs false
set_option linter.unusedVariables false
set_option maxRecDepth 100000
set_option maxHeartbeats 64000000
namespace Go.Proofs.YtmpeaoacaecgpaaGreatDoor.Xa
open Go.RowKit Base Regs Base2 Base3 sW yu Sls NI PosC O1 oP ag1
open Go.Proofs.YtmpeaoacaecgpaaGreatDoor.Gp (Env agF PX qm)
open Go.Proofs.YtmpeaoacaecgpaaGreatDoor.pR (seg)
open Go.Proofs.YtmpeaoacaecgpaaGreatDoor.pO (Max)
def hostW:Option W3→List UInt8
 |none=>[]
 |some v=>v.2.1
def pre (d:List UInt8):List (List UInt8):=if d=[]then[]else[d]
def segW:Option W3→Option (List (List UInt8))
 |none=>none
 |some v=>some (pre v.1++v.2.2.map seg)
theorem SQ {L d h:List UInt8} {l:List (List UInt8)} (e:iM L=some (d,h,l)):l.length≤L.length+1∧(∀x ∈ l,x.length≤L.length)∧d.length≤L.length:=by
 have h1:(iT L).length≤L.length+1:=by have:=kD 92 (L.map bs);rwa[List.length_map]at this
 have h2:∀x ∈ iT L,x.length≤L.length:=fun x hx=>by have:=AO 92 _ x hx;rwa[List.length_map]at this
 have h3:∀k,((iT L).getD k []).length≤L.length:=fun k=>by
  rw[List.getD_eq_getElem?_getD]
  cases e:(iT L)[k]? with
  |none=>exact Nat.zero_le _
  |some y=>exact h2 y (List.mem_of_getElem? e)
 unfold iM YK at e
 split at e
 ·injection e with e
  unfold three at e
  split at e
  ·injection e with e1 e2
   injection e2 with e2 e3
   subst e1 e2 e3
   exact⟨by rw[List.length_drop];omega,fun x hx=>h2 x (List.mem_of_mem_drop hx),h3 0⟩
  injection e with e1 e2
  injection e2 with e2 e3
  subst e1 e2 e3
  exact⟨by rw[List.length_drop];omega,fun x hx=>h2 x (List.mem_of_mem_drop hx),Nat.zero_le _⟩
 cases e
theorem xA (s:ByteArray) (w:World) (hs:s.size≤900000) (hE:Env w):
  Calls Tryz.prog 94 #[.string s] w (agG (.int .i64 0) (.int .i64 2) (hostW (iM s.data.toList)) w (segW (iM s.data.toList))):=by
 have hl:s.data.toList.length=s.size:=Array.length_toList
 obtain⟨O,hO⟩:∃O,O=iM s.data.toList:=⟨_,rfl⟩
 have HAP:Hid (∀w:World,Env w→Calls Tryz.prog 108 #[.string s] w (agF w O)):=fun w E=>by rw[hO];exact qm s w hs E
 rw[←hO]
 have HLN:Hid (∀d h l,O=some (d,h,l)→l.length≤s.size+1∧(∀x ∈ l,x.length≤s.size)∧d.length≤s.size):=fun d h l e=>by
  have:=SQ (hO.symm.trans e)
  rwa[hl]at this
 obtain⟨i0,hi,hz0,hz1,hz2⟩:=info_parts pq
 have HE:=hid hE
 have HS:=hid hs
 clear hl hO hE hs
 go_enter Tryz.func94,Tryz.ntmps94
 go_upto_region 1 with(fail)
 generalize hw:World.alloc w _=w1
 have h1:Bx w1 w.heap.size (gG)∧Below w.heap.size w w1:=by
  subst hw
  exact laid w _ _
 clear hw
 have kP:=hid h1.1
 have HB1:=hid h1.2
 clear h1
 go_wp2_with fail
 refine(HAP.out _ (HE.out.below HB1.out)).mono ?_
 rintro e w2 ⟨hb2,hA⟩
 have gY:=hid (kP.out.below hb2)
 have HB2:=hid (bel HB1.out hb2)
 clear kP HB1 hb2
 cases O with
 |none=>
  obtain⟨d,ho,A,n,c,rfl⟩:=hA
  go_upto_region 2 with(fail)
  generalize hw:World.alloc w2 _=w3
  have hb3:Below w2.heap.size w2 w3:=by subst hw;exact(Below.refl _ _).alloc (Nat.le_refl _) _
  have jI:=hid (gY.out.below hb3)
  have HB3:=hid (bel HB2.out hb3)
  clear hw hb3
  go_wp2_with (refine pJ jI.out gG rfl rfl VG (.tmp 2) (.tmp 16) rfl rfl rfl rfl ?_)
  try simp only[Exit.inBlock,Exit.then]
  exact bodyPost_ret (w:=World.setRow w3 w.heap.size gG) (res rfl (jI.out.row gG) rfl (.int .i64 2) _ rfl rfl) rfl (UL rfl (qp HB3.out (Nat.le_refl _) gG))
 | some v=>
  obtain⟨d,ho,l⟩:=v
  obtain⟨A0,c0,rfl,hc0,hm0,hR0⟩:=hA
  obtain⟨hl1,hl2,hl3⟩:=HLN.out d ho l rfl
  have hs9:=HS.out
  have HXL:Hid (∀x ∈ l,x.length≤900000):=fun x hx=>Nat.le_trans (hl2 x hx) hs9
  have HDL:Hid (d.length≤900000):=Nat.le_trans hl3 hs9
  obtain⟨n,hn⟩:∃n,n=l.length:=⟨_,rfl⟩
  have HN:=hid hn
  rw[←hn]at hl1 hR0⊢
  have hn9:n≤900001:=by omega
  have HR0:=hid hR0
  clear hl1 hl2 hl3 hs9 hc0 hm0 hR0 hn HLN HAP
  go_upto_region 2 with(fail)
  generalize hw:World.alloc w2 _=w3
  have hxa:PX w3 w2.heap.size (strOf d) (strOf ho) (.slice A0 n c0):=by rw[←hw];exact heap_alloc_new _ _
  have hb3:Below w2.heap.size w2 w3:=by rw[←hw];exact(Below.refl _ _).alloc (Nat.le_refl _) _
  have Zb:=hid hxa
  have HB3:=hid hb3
  clear hw hxa hb3
  obtain⟨p0,p1,p2⟩:=Zb.out.facts
  go_upto_region 5 with(fail)
  clear p0 p1 p2
  generalize hw:World.alloc w3 _=w4
  have h1:Bx w4 w3.heap.size (gy ho (.slice none 0 0))∧Below w3.heap.size w3 w4:=by
   subst hw
   exact laid w3 _ _
  clear hw
  have HU4:=hid h1.1
  have HP4:=hid (Zb.out.below h1.2)
  have HB4:=hid (bel HB3.out h1.2)
  have sQ:Hid (w2.heap.size<w3.heap.size):=Zb.out.lt
  have agN:Hid (w3.heap.size<w4.heap.size):=HU4.out.lt
  clear h1 Zb HB3
  obtain⟨gu,hgu⟩:∃gu,gu=w3.heap.size:=⟨_,rfl⟩
  rw[←hgu]at HU4 sQ agN⊢
  clear hgu
  obtain⟨p0,p1,p2⟩:=HP4.out.facts
  by_cases hd:d=[]
  ·have q0:(strOf d).toList=[]:=by rw[tl];exact hd
   have q0':((strOf d).toList==[])=true:=by rw[q0];rfl
   have acE:Hid (pre d=[]):=by show _=_;unfold pre;rw[if_pos hd]
   clear hd
   go_upto_region 7 with(fail)
   clear p0 p1 q0 q0'
   have ajH:Hid (w4.ownsRow w4.heap.size 9 1 (.slice none 0 0) 0 (((pre d).map strOf).map Value.string)):=by show World.ownsRow _ _ _ _ _ _ _;rw[acE.out];exact World.ownsRow_nil _ _ _ _
   have vW:Hid ((pre d).length=0):=by show _=_;rw[acE.out];rfl
   clear acE
   have HU0:=HU4
   have HB0:=HB4
   have FI:Hid (w4.heap.size≤w4.heap.size):=Nat.le_refl _
   clear HU4 HB4
   go_wp2
   go_loopw [8,33] (fun _ vk wr=>∃(k m:Nat) (A:Option Addr) (c:Nat),k≤n∧m=k∧vk=.int .i64 (k:Int)∧Hid (wr.ownsRow w4.heap.size 9 1 (.slice A m c) m (((pre d++(l.take k).map seg).map strOf).map Value.string))∧Hid (Bx wr gu (gy ho (.slice A m c)))∧Hid (Below w2.heap.size w2 wr)∧w4.heap.size≤wr.heap.size) (fun _ vk _=>n - (intOf vk).toNat)
   case atStart=>exact⟨0,0,_,_,Nat.zero_le _,rfl,rfl,(by show World.ownsRow _ _ _ _ _ _ _;rw[List.take_zero,List.map_nil,List.append_nil];exact ajH.out),HU0.out,HB0.out,FI.out⟩
   case round=>
    clear ajH HU0 HB0 FI
    obtain⟨k,m,A,c,hk,hmk,rfl,HOW,HU,HB,hsz⟩:=hrel
    have MC:=hid hsz
    have HMK:=hid hmk
    have hm9:m≤900002:=by omega
    clear hmk
    have HRr:=hid (HR0.out.below HB.out)
    by_cases hlt:k<n
    ·obtain⟨gr,off,rfl,hg,hc⟩:=zQ HRr.out k hlt HN.out.symm
     obtain⟨x,hxd⟩:∃x,x=l[k]'(by rw[←HN.out];exact hlt):=⟨_,rfl⟩
     rw[←hxd]at hc
     have hxs:x.length≤900000:=by rw[hxd];exact HXL.out _ (List.getElem_mem (l:=l) (n:=k) (by rw[←HN.out];exact hlt))
     obtain⟨sx,hsx⟩:∃sx,sx=strOf (seg x):=⟨_,rfl⟩
     have HSG:Hid (∀w:World,Calls Tryz.prog 199 #[.string (strOf x)] w fun e w'=>e=.returned (.string sx)∧Below w.heap.size w w'):=fun w=>by rw[hsx];exact Ec (strOf x) w (by rw[size_strOf];omega)
     obtain⟨R,BR⟩:∃R,R=((pre d++(l.take k).map seg).map strOf).map Value.string:=⟨_,rfl⟩
     rw[←BR]at HOW
     have HR2:Hid (((pre d++(l.take (k+1)).map seg).map strOf).map Value.string=R++[Value.string sx]):=by
      show _=_
      rw[take_snoc l k (by rw[←HN.out];exact hlt),←hxd,BR,hsx]
      simp only[List.map_append,List.map_cons,List.map_nil,List.append_assoc]
     clear hxd hxs hsx BR HRr
     go_upto_region 10 with(fail)
     clear hc hg
     refine bC (by kernel_rfl) 5 [is (.pointer (some ⟨gu,8,none⟩)),is (.slice A m c),is (.string (strOf x)),is (.string sx),row 1 [.string sx]] [[],[0],[],[2],[2,3],[0,1,2,3,4]] (by kernel_rfl) ?_ ?_
     ·refine⟨?_,?_,?_,?_,?_,trivial⟩
      all_goals(intro t wq hbq hh K hK;simp only[filled,aj,upd,Have,is,any,row,pick,Act.put,List.setIfInBounds_toArray,List.set_cons_zero,List.set_cons_succ,Nat.reduceAdd,Nat.reduceEqDiff,reduceIte,List.tail_cons,List.headD_cons]at hh hK⊢;(try simp only[hh]at hK⊢);try clear hh)
      ·go_simp;exact hK _ _ (Below.refl _ _) rfl
      ·have hc8:=(HU.out.below hbq).MI.1;go_simp;exact hK _ _ (Below.refl _ _) rfl
      ·go_simp;exact hK _ _ (Below.refl _ _) rfl
      ·go_simp;refine(HSG.out _).mono ?_;rintro e w9 ⟨rfl,mG⟩;exact hK _ _ mG rfl
      ·go_simp;exact hK _ _ ((Below.refl _ _).alloc (Nat.le_refl _) _) ⟨_,_,rfl,Nat.le_refl _,by decide,one_cell _ _ _⟩
     ·intro t wq hbq hh
      have f1:=aB hh 1 (by decide)
      simp only[pick]at f1
      replace f1:t 1=(.slice A m c):=f1
      have f4:=aB hh 4 (by decide)
      simp only[pick]at f4
      clear hh
      simp only[filled,aj,upd,Have,is,any,row,pick,Act.put,List.setIfInBounds_toArray,List.set_cons_zero,List.set_cons_succ,Nat.reduceAdd,Nat.reduceEqDiff,reduceIte]
      obtain⟨A4,c4,f4,hc4,hm4,hr4⟩:=f4
      simp only[f1,f4]
      have MR:=aP HOW.out hbq
      have HUq:=hid (HU.out.below hbq)
      have Et:=hid (bel HB.out hbq)
      have Qx:w4.heap.size≤wq.heap.size:=Nat.le_trans hsz hbq.size
      have hrefl:Below w4.heap.size wq wq:=Below.refl _ _
      refine dH rfl _ _ 23 rfl w4.heap.size 9 i0 (.string ByteArray.empty) 16 Tryz.underlying23 hi hz0 hz1 hz2 rfl _ m R rfl MR hrefl Qx A4 1 c4 [.string sx] rfl hr4 (Ol _) (by unfold maxLen;omega) (by omega) ?_
      intro v7 w7 dU dA
      obtain⟨A7,c7,rfl,hc7,hm7,hr7⟩:=aJ dU
      have hG2:=sQ.out
      have hG3:=agN.out
      have hU7:=HUq.out.under dA (by omega)
      have hB7:Below w2.heap.size w2 w7:=Et.out.trans (dA.mono (by omega))
      have hs7:w4.heap.size≤w7.heap.size:=Nat.le_trans Qx dA.size
      obtain⟨KL,Vm⟩:=hU7.MI
      have ajI:Hid ((w7.setCell ⟨gu,8,none⟩ (.slice A7 (m+1) c7)).ownsRow w4.heap.size 9 1 (.slice A7 (m+1) c7) (m+1) (((pre d++(l.take (k+1)).map seg).map strOf).map Value.string)):=by show World.ownsRow _ _ _ _ _ _ _;rw[HR2.out];exact Jg dU (by omega)
      have HU8:=hid (hU7.path (.slice A7 (m+1) c7))
      have H7:=hid (hB7.setCell (p:=⟨gu,8,none⟩) (by show _≤gu;omega) (.slice A7 (m+1) c7))
      have hs8:w4.heap.size≤(w7.setCell ⟨gu,8,none⟩ (.slice A7 (m+1) c7)).heap.size:=by simpa using hs7
      clear dU dA hr7 hU7 hB7 MR hrefl Qx hG2 hG3 hm7 hc7 hs7
      go_wp2
      go_roundw
      case rel=>exact⟨k+1,m+1,A7,c7,by omega,by have:=HMK.out;omega,by go_num,ajI,HU8,H7,hs8⟩
      case measure=>simp[intOf];omega
    ·obtain rfl:k=n:=by omega
     have Tz:Hid ((l.take k).map seg=l.map seg):=by show _=_;rw[List.take_of_length_le (by rw[HN.out];exact Nat.le_refl _)]
     have HXr:=hid (gY.out.below HB.out)
     obtain⟨d0,d1,d2,d3,d4,d5,d6,d7,d8,d9,d10,d11,d12⟩:=HU.out.facts
     go_wp2_with (refine pJ HXr.out (gy ho (.slice A m c)) rfl rfl (aaU _ _ _ _) (.tmp 2) (.tmp 45) rfl rfl rfl rfl ?_)
     try simp only[Exit.inBlock,Exit.then]
     have how:=HOW.out
     rw[Tz.out]at how
     have hG:w.heap.size<w4.heap.size:=by have h1:=gY.out.lt;have h2:=sQ.out;have h3:=agN.out;omega
     exact bodyPost_ret (w:=World.setRow wr w.heap.size (gy ho (.slice A m c))) (res rfl (HXr.out.row _) rfl (.int .i64 0) _ rfl rfl) rfl (Ku (hst:=ho) rfl (qp (bel HB2.out HB.out) (Nat.le_refl _) _) (ay (DT how hG _) (by omega)))
  ·have q0:((strOf d).toList==[])=false:=by rw[tl,beq_eq_false_iff_ne];exact hd
   have q0':(strOf d).toList.isEmpty=false:=by rw[tl];simpa[strOf]using hd
   have acE:Hid (pre d=[d]):=by show _=_;unfold pre;rw[if_neg hd]
   clear hd
   go_upto_region 6 with(fail)
   obtain⟨KL,Vm⟩:=HU4.out.MI
   have hD:=HDL.out
   go_wp2_with (at_builtin;refine dH rfl _ _ 23 rfl w4.heap.size 9 i0 (.string ByteArray.empty) 16 Tryz.underlying23 hi hz0 hz1 hz2 rfl _ 0 [] rfl (World.ownsRow_nil _ _ _ _) ((Below.refl w4.heap.size w4).alloc (Nat.le_refl _) _) (by simp) _ 1 _ [.string (strOf d)] rfl (one_cell _ _ _) (Ol _) (by unfold maxLen;omega) (by omega) ?_)
   intro v7 w7 dU dA
   obtain⟨A7,c7,rfl,hc7,hm7,hr7⟩:=aJ dU
   have hG3:=agN.out
   have hG2:=sQ.out
   have hU7:=HU4.out.below dA
   have hB7:=bel HB4.out dA
   have hP7:=HP4.out.below dA
   have HP8:Hid (PX (w7.setCell ⟨gu,8,none⟩ (.slice A7 1 c7)) w2.heap.size (strOf d) (strOf ho) (.slice A0 n c0)):=(heap_setCell_other w7 ⟨gu,8,none⟩ w2.heap.size (.slice A7 1 c7) (show w2.heap.size≠gu by omega)).trans hP7
   have hs7:w4.heap.size≤w7.heap.size:=dA.size
   clear KL Vm p0 p1 p2
   obtain⟨KL,Vm⟩:=hU7.MI
   have ajH:Hid ((w7.setCell ⟨gu,8,none⟩ (.slice A7 1 c7)).ownsRow w4.heap.size 9 1 (.slice A7 1 c7) 1 (((pre d).map strOf).map Value.string)):=by show World.ownsRow _ _ _ _ _ _ _;rw[acE.out];exact Jg dU (by omega)
   have HU0:=hid (hU7.path (.slice A7 1 c7))
   have HB0:=hid (hB7.setCell (p:=⟨gu,8,none⟩) (by show _≤gu;omega) (.slice A7 1 c7))
   have FI:Hid (w4.heap.size≤(w7.setCell ⟨gu,8,none⟩ (.slice A7 1 c7)).heap.size):=by show _≤_;simpa using hs7
   have vW:Hid ((pre d).length=1):=by show _=_;rw[acE.out];rfl
   clear dU dA hr7 hU7 hB7 hP7 hG2 hG3 hm7 hc7 hs7 acE HU4 HB4 HP4 q0 q0' hD
   go_upto_region 7 with(fail)
   clear KL Vm
   obtain⟨p0,p1,p2⟩:=HP8.out.facts
   clear p0 p1
   go_wp2
   go_loopw [8,33] (fun _ vk wr=>∃(k m:Nat) (A:Option Addr) (c:Nat),k≤n∧m=1+k∧vk=.int .i64 (k:Int)∧Hid (wr.ownsRow w4.heap.size 9 1 (.slice A m c) m (((pre d++(l.take k).map seg).map strOf).map Value.string))∧Hid (Bx wr gu (gy ho (.slice A m c)))∧Hid (Below w2.heap.size w2 wr)∧w4.heap.size≤wr.heap.size) (fun _ vk _=>n - (intOf vk).toNat)
   case atStart=>exact⟨0,1,_,_,Nat.zero_le _,rfl,rfl,(by show World.ownsRow _ _ _ _ _ _ _;rw[List.take_zero,List.map_nil,List.append_nil];exact ajH.out),HU0.out,HB0.out,FI.out⟩
   case round=>
    clear ajH HU0 HB0 FI
    obtain⟨k,m,A,c,hk,hmk,rfl,HOW,HU,HB,hsz⟩:=hrel
    have MC:=hid hsz
    have HMK:=hid hmk
    have hm9:m≤900002:=by omega
    clear hmk
    have HRr:=hid (HR0.out.below HB.out)
    by_cases hlt:k<n
    ·obtain⟨gr,off,rfl,hg,hc⟩:=zQ HRr.out k hlt HN.out.symm
     obtain⟨x,hxd⟩:∃x,x=l[k]'(by rw[←HN.out];exact hlt):=⟨_,rfl⟩
     rw[←hxd]at hc
     have hxs:x.length≤900000:=by rw[hxd];exact HXL.out _ (List.getElem_mem (l:=l) (n:=k) (by rw[←HN.out];exact hlt))
     obtain⟨sx,hsx⟩:∃sx,sx=strOf (seg x):=⟨_,rfl⟩
     have HSG:Hid (∀w:World,Calls Tryz.prog 199 #[.string (strOf x)] w fun e w'=>e=.returned (.string sx)∧Below w.heap.size w w'):=fun w=>by rw[hsx];exact Ec (strOf x) w (by rw[size_strOf];omega)
     obtain⟨R,BR⟩:∃R,R=((pre d++(l.take k).map seg).map strOf).map Value.string:=⟨_,rfl⟩
     rw[←BR]at HOW
     have HR2:Hid (((pre d++(l.take (k+1)).map seg).map strOf).map Value.string=R++[Value.string sx]):=by
      show _=_
      rw[take_snoc l k (by rw[←HN.out];exact hlt),←hxd,BR,hsx]
      simp only[List.map_append,List.map_cons,List.map_nil,List.append_assoc]
     clear hxd hxs hsx BR HRr
     go_upto_region 10 with(fail)
     clear hc hg
     refine bC (by kernel_rfl) 5 [is (.pointer (some ⟨gu,8,none⟩)),is (.slice A m c),is (.string (strOf x)),is (.string sx),row 1 [.string sx]] [[],[0],[],[2],[2,3],[0,1,2,3,4]] (by kernel_rfl) ?_ ?_
     ·refine⟨?_,?_,?_,?_,?_,trivial⟩
      all_goals(intro t wq hbq hh K hK;simp only[filled,aj,upd,Have,is,any,row,pick,Act.put,List.setIfInBounds_toArray,List.set_cons_zero,List.set_cons_succ,Nat.reduceAdd,Nat.reduceEqDiff,reduceIte,List.tail_cons,List.headD_cons]at hh hK⊢;(try simp only[hh]at hK⊢);try clear hh)
      ·go_simp;exact hK _ _ (Below.refl _ _) rfl
      ·have hc8:=(HU.out.below hbq).MI.1;go_simp;exact hK _ _ (Below.refl _ _) rfl
      ·go_simp;exact hK _ _ (Below.refl _ _) rfl
      ·go_simp;refine(HSG.out _).mono ?_;rintro e w9 ⟨rfl,mG⟩;exact hK _ _ mG rfl
      ·go_simp;exact hK _ _ ((Below.refl _ _).alloc (Nat.le_refl _) _) ⟨_,_,rfl,Nat.le_refl _,by decide,one_cell _ _ _⟩
     ·intro t wq hbq hh
      have f1:=aB hh 1 (by decide)
      simp only[pick]at f1
      replace f1:t 1=(.slice A m c):=f1
      have f4:=aB hh 4 (by decide)
      simp only[pick]at f4
      clear hh
      simp only[filled,aj,upd,Have,is,any,row,pick,Act.put,List.setIfInBounds_toArray,List.set_cons_zero,List.set_cons_succ,Nat.reduceAdd,Nat.reduceEqDiff,reduceIte]
      obtain⟨A4,c4,f4,hc4,hm4,hr4⟩:=f4
      simp only[f1,f4]
      have MR:=aP HOW.out hbq
      have HUq:=hid (HU.out.below hbq)
      have Et:=hid (bel HB.out hbq)
      have Qx:w4.heap.size≤wq.heap.size:=Nat.le_trans hsz hbq.size
      have hrefl:Below w4.heap.size wq wq:=Below.refl _ _
      refine dH rfl _ _ 23 rfl w4.heap.size 9 i0 (.string ByteArray.empty) 16 Tryz.underlying23 hi hz0 hz1 hz2 rfl _ m R rfl MR hrefl Qx A4 1 c4 [.string sx] rfl hr4 (Ol _) (by unfold maxLen;omega) (by omega) ?_
      intro v7 w7 dU dA
      obtain⟨A7,c7,rfl,hc7,hm7,hr7⟩:=aJ dU
      have hG2:=sQ.out
      have hG3:=agN.out
      have hU7:=HUq.out.under dA (by omega)
      have hB7:Below w2.heap.size w2 w7:=Et.out.trans (dA.mono (by omega))
      have hs7:w4.heap.size≤w7.heap.size:=Nat.le_trans Qx dA.size
      obtain⟨KL,Vm⟩:=hU7.MI
      have ajI:Hid ((w7.setCell ⟨gu,8,none⟩ (.slice A7 (m+1) c7)).ownsRow w4.heap.size 9 1 (.slice A7 (m+1) c7) (m+1) (((pre d++(l.take (k+1)).map seg).map strOf).map Value.string)):=by show World.ownsRow _ _ _ _ _ _ _;rw[HR2.out];exact Jg dU (by omega)
      have HU8:=hid (hU7.path (.slice A7 (m+1) c7))
      have H7:=hid (hB7.setCell (p:=⟨gu,8,none⟩) (by show _≤gu;omega) (.slice A7 (m+1) c7))
      have hs8:w4.heap.size≤(w7.setCell ⟨gu,8,none⟩ (.slice A7 (m+1) c7)).heap.size:=by simpa using hs7
      clear dU dA hr7 hU7 hB7 MR hrefl Qx hG2 hG3 hm7 hc7 hs7
      go_wp2
      go_roundw
      case rel=>exact⟨k+1,m+1,A7,c7,by omega,by have:=HMK.out;omega,by go_num,ajI,HU8,H7,hs8⟩
      case measure=>simp[intOf];omega
    ·obtain rfl:k=n:=by omega
     have Tz:Hid ((l.take k).map seg=l.map seg):=by show _=_;rw[List.take_of_length_le (by rw[HN.out];exact Nat.le_refl _)]
     have HXr:=hid (gY.out.below HB.out)
     obtain⟨d0,d1,d2,d3,d4,d5,d6,d7,d8,d9,d10,d11,d12⟩:=HU.out.facts
     go_wp2_with (refine pJ HXr.out (gy ho (.slice A m c)) rfl rfl (aaU _ _ _ _) (.tmp 2) (.tmp 45) rfl rfl rfl rfl ?_)
     try simp only[Exit.inBlock,Exit.then]
     have how:=HOW.out
     rw[Tz.out]at how
     have hG:w.heap.size<w4.heap.size:=by have h1:=gY.out.lt;have h2:=sQ.out;have h3:=agN.out;omega
     exact bodyPost_ret (w:=World.setRow wr w.heap.size (gy ho (.slice A m c))) (res rfl (HXr.out.row _) rfl (.int .i64 0) _ rfl rfl) rfl (Ku (hst:=ho) rfl (qp (bel HB2.out HB.out) (Nat.le_refl _) _) (ay (DT how hG _) (by omega)))
end Go.Proofs.YtmpeaoacaecgpaaGreatDoor.Xa
namespace Go.Proofs.YtmpeaoacaecgpaaGreatDoor.akD
open Go.RowKit Base Base2 Base3 Regs sW yu Sls NI oP
def turn (f t c:UInt8):UInt8:=if c=f then t else c
theorem one_byte (w:World) (x:Value) (T:TypeId):aY (w.alloc (.cells #[x] T)) (some ⟨w.heap.size,0,none⟩) 1 [x]:=
 aY.jF rfl (by simp) (fun j hj=>by
  simp at hj
  subst hj
  rw[Nat.zero_add,World.cell?_alloc_mark]
  rfl)
theorem amM (z:Int):∀u ∈ [Value.int .u8 z],u.oneCell'=true:=by
 intro u hu
 simp at hu
 subst hu
 rfl
theorem RH (X:List UInt8) (c:UInt8):ah (X++[c])=ah X++[.int .u8 (c.toNat:Int)]:=by rw[aS];rfl
theorem jr (s:ByteArray) (f t:UInt8) (w:World) (hs:s.size≤900000):
  Calls Tryz.prog 45 #[.string s,.int .u8 (f.toNat:Int),.int .u8 (t.toNat:Int)] w fun e w'=>e=.returned (.string (strOf (s.data.toList.map (turn f t))))∧Below w.heap.size w w':=by
 have hl:s.data.toList.length=s.size:=Array.length_toList
 have HL:=hid hl
 have HS:=hid hs
 obtain⟨i0,hi,hz0,hz1,hz2⟩:=info_parts iR
 clear hl hs
 go_enter Tryz.func45,Tryz.ntmps45
 go_wp2
 go_loopw [7,8,9,12] (fun vo _ _ vk wr=>∃k:Nat,k≤s.size∧vk=.int .i64 (k:Int)∧Hid (wr.ownsRow w.heap.size 5 1 vo k (ah ((s.data.toList.take k).map (turn f t))))∧Hid (Below w.heap.size w wr)) (fun _ _ _ vk _=>s.size - (intOf vk).toNat)
 case atStart=>exact⟨0,Nat.zero_le _,rfl,World.ownsRow_nil _ _ _ _,Below.refl _ _⟩
 case round=>
  obtain⟨k,hk,rfl,HOW,HB⟩:=hrel
  have hss:=HS.out
  by_cases hlt:k<s.size
  ·obtain⟨c,hc⟩:∃c,s[k]=c:=⟨_,rfl⟩
   have hkl:k<s.data.toList.length:=by rw[HL.out];exact hlt
   have hcl:s.data.toList[k]=c:=hc
   obtain⟨X,hX⟩:∃X,X=(s.data.toList.take k).map (turn f t):=⟨_,rfl⟩
   rw[←hX]at HOW
   have gY:Hid ((s.data.toList.take (k+1)).map (turn f t)=X++[turn f t c]):=by
    show _=_
    rw[take_snoc _ k hkl,hcl,List.map_append,←hX]
    rfl
   clear hX hkl hcl
   have hszr:w.heap.size≤wr.heap.size:=HB.out.size
   obtain⟨Ao,co,rfl,_,_,_⟩:=aJ HOW.out
   by_cases hcf:c=f
   ·have q0:((c.toNat:Int)==(f.toNat:Int))=true:=by rw[hcf];simp
    have HT:Hid (turn f t c=t):=by show _=_;unfold turn;rw[if_pos hcf]
    clear hcf
    go_wp2_with (at_builtin;refine dH rfl _ _ 45 rfl w.heap.size 5 i0 (.int .u8 0) 1 Tryz.underlying45 hi hz0 hz1 hz2 rfl _ k (ah X) rfl (aP HOW.out ((Below.refl _ wr).alloc (Nat.le_refl _) _)) (HB.out.alloc hszr _) (by simp;omega) _ 1 _ [.int .u8 (t.toNat:Int)] rfl (one_byte _ _ _) (amM _) (by unfold maxLen;omega) (by omega) ?_)
    intro v' w2 hown2 dZ
    have HOW2:Hid (w2.ownsRow w.heap.size 5 1 v' (k+1) (ah ((s.data.toList.take (k+1)).map (turn f t)))):=by show World.ownsRow _ _ _ _ _ _ _;rw[gY.out,HT.out,RH];exact hown2
    have HB2:=hid dZ
    clear hown2 dZ
    go_wp2
    go_roundw
    case rel=>exact⟨k+1,by omega,by go_num,HOW2,HB2⟩
    case measure=>simp[intOf];omega
   ·have q0:((c.toNat:Int)==(f.toNat:Int))=false:=yO hcf
    have HT:Hid (turn f t c=c):=by show _=_;unfold turn;rw[if_neg hcf]
    clear hcf
    go_wp2_with (at_builtin;refine dH rfl _ _ 45 rfl w.heap.size 5 i0 (.int .u8 0) 1 Tryz.underlying45 hi hz0 hz1 hz2 rfl _ k (ah X) rfl (aP HOW.out ((Below.refl _ wr).alloc (Nat.le_refl _) _)) (HB.out.alloc hszr _) (by simp;omega) _ 1 _ [.int .u8 (c.toNat:Int)] rfl (one_byte _ _ _) (amM _) (by unfold maxLen;omega) (by omega) ?_)
    intro v' w2 hown2 dZ
    have HOW2:Hid (w2.ownsRow w.heap.size 5 1 v' (k+1) (ah ((s.data.toList.take (k+1)).map (turn f t)))):=by show World.ownsRow _ _ _ _ _ _ _;rw[gY.out,HT.out,RH];exact hown2
    have HB2:=hid dZ
    clear hown2 dZ
    go_wp2
    go_roundw
    case rel=>exact⟨k+1,by omega,by go_num,HOW2,HB2⟩
    case measure=>simp[intOf];omega
  ·obtain rfl:k=s.size:=by omega
   have HT:Hid (s.data.toList.take s.size=s.data.toList):=by show _=_;rw[List.take_of_length_le (by rw[HL.out];exact Nat.le_refl _)]
   have how:=HOW.out
   rw[HT.out]at how
   obtain⟨Ao,co,rfl,_,_,hro⟩:=aJ how
   have hst:=aF 45 9 5 Tryz.underlying45 Tryz.underlying5 Tryz.underlying9 _ co hro
   clear how hro
   go_wp2
   go_ret
   exact⟨rfl,HB.out⟩
end Go.Proofs.YtmpeaoacaecgpaaGreatDoor.akD
namespace Go.Proofs.YtmpeaoacaecgpaaGreatDoor.acV
open Go.RowKit Base Base2 sW yu NI O1 oP Xa akD
open Go.Proofs.YtmpeaoacaecgpaaGreatDoor.Gp (Env)
open Go.Proofs.YtmpeaoacaecgpaaGreatDoor.pR (seg)
open Go.Proofs.YtmpeaoacaecgpaaGreatDoor.pO (Max)
def anz (v:W3):List (List UInt8):=pre v.1++v.2.2.map seg
theorem SI {T:ByteArray} (ho:iM T.data.toList=none) (hs:T.size≤900000) (w:World) (E:Env w):Calls Tryz.prog 94 #[.string T] w fun e w'=>e=.returned (.tuple #[.agg #[.string ⟨#[]⟩,.string ⟨#[]⟩,.string ⟨#[]⟩,.string ⟨#[]⟩,.bool false,.int .i64 0,.bool false,.string ⟨#[]⟩,.slice none 0 0,.bool false,.bool false,.string ⟨#[]⟩,.string ⟨#[]⟩],.int .i64 2])∧Below w.heap.size w w':=
 (xA T w hs E).mono fun e w' h=>by
  rw[ho]at h
  exact⟨h.2,h.1⟩
end Go.Proofs.YtmpeaoacaecgpaaGreatDoor.acV
namespace Go.Proofs.YtmpeaoacaecgpaaGreatDoor.WinD
open Go.RowKit Base Base2 Regs sW yu Sls NI oP ag1 WinB akD
open Go.Proofs.YtmpeaoacaecgpaaGreatDoor.Gp (Ag KE at_k)
open Go.Proofs.YtmpeaoacaecgpaaGreatDoor.PthP (nrm)
def agH (w:World) (o:Option (List UInt8×List (List UInt8))) (e:Ending) (w':World):Prop:=Below w.heap.size w w'∧match o with
 |none=>e=.returned (.tuple #[.string ⟨#[]⟩,.slice none 0 0,.bool false])
 |some (d,l)=>∃A n c,e=.returned (.tuple #[.string (strOf d),.slice A n c,.bool true])∧l.length=n∧n≤c∧c≤maxLen∧aY w' A n ((l.map strOf).map Value.string)
def yP (l:List (List UInt8)):Option (List UInt8×List (List UInt8)):=if near l=true then some (l.getD 0 [],l.drop 1)else none
def Gw (l:List (List UInt8)):Option (List UInt8×List (List UInt8)):=if far l=true then some (l.getD 2 [],l.drop 3)else none
theorem lS {w w':World} {o:Option (List UInt8×List (List UInt8))} (ho:o=none) (hb:Below w.heap.size w w'):agH w o (.returned (.tuple #[.string ⟨#[]⟩,.slice none 0 0,.bool false])) w':=by
 subst ho
 exact⟨hb,rfl⟩
theorem UM {w w':World} {o:Option (List UInt8×List (List UInt8))} {d:List UInt8} {l:List (List UInt8)} {A:Option Addr} {n c:Nat} (ho:o=some (d,l)) (hb:Below w.heap.size w w') (hn:l.length=n) (hc:n≤c) (hm:c≤maxLen) (hR:aY w' A n ((l.map strOf).map Value.string)):agH w o (.returned (.tuple #[.string (strOf d),.slice A n c,.bool true])) w':=by
 subst ho
 exact⟨hb,A,n,c,rfl,hn,hc,hm,hR⟩
theorem QX {w:World} {l:List (List UInt8)} {e:Ending} {w':World} (h:Gj w l e w') (hl:l≠[]):∃g n c,e=.returned (.slice (some ⟨g,0,none⟩) n c)∧l.length=n∧n≤c∧c≤maxLen∧aY w' (some ⟨g,0,none⟩) n ((l.map strOf).map Value.string)∧Below w.heap.size w w':=by
 obtain⟨v,rfl,hown,hb⟩:=h
 obtain⟨g,cap,rfl⟩:=Go.Joins.ownsRow_form hown (List.length_pos_iff.2 hl)
 obtain⟨A,c,e,h1,h2,h3⟩:=aJ hown
 cases e
 exact⟨g,l.length,cap,rfl,rfl,h1,h2,h3,hb⟩
theorem vJ (s:ByteArray) (w:World) (hs:s.size≤900000):
  Calls Tryz.prog 107 #[.string s] w (agH w (yP (iT s.data.toList))):=by
 have hl:s.data.toList.length=s.size:=Array.length_toList
 obtain⟨l,hll⟩:∃l,l=iT s.data.toList:=⟨_,rfl⟩
 obtain⟨O,hO⟩:∃O,O=yP l:=⟨_,rfl⟩
 rw[←hll,←hO]
 have hne:l≠[]:=by rw[hll];exact Ee 92 _
 have hlen:l.length≤900001:=by rw[hll];have:=kD 92 (s.data.toList.map bs);rw[List.length_map,hl]at this;exact Nat.le_trans this (by omega)
 have hz:∀x ∈ l,x.length≤900000:=by
  intro x hx
  rw[hll]at hx
  have:=(AO 92 _ x hx)
  rw[List.length_map,hl]at this
  omega
 obtain⟨R,hR⟩:∃R,R=s.data.toList.map fs:=⟨_,rfl⟩
 have HSL:Hid (∀w:World,Calls Tryz.prog 45 #[.string s,.int .u8 92,.int .u8 47] w fun e w'=>e=.returned (.string (strOf R))∧Below w.heap.size w w'):=fun w=>by rw[hR];exact jr s 92 47 w (by omega)
 have TB:Hid (∀w:World,Calls Tryz.prog 101 #[.string (strOf R),.int .u8 47] w fun e w'=>∃g n c,e=.returned (.slice (some ⟨g,0,none⟩) n c)∧l.length=n∧n≤c∧c≤maxLen∧aY w' (some ⟨g,0,none⟩) n ((l.map strOf).map Value.string)∧Below w.heap.size w w'):=fun w=>by
  have e:spl 47 (strOf R).data.toList=l:=by rw[hll,hR];exact af4 s.data.toList
  have h:=vP (strOf R) w (by rw[size_strOf,hR,List.length_map];omega)
  rw[e]at h
  exact h.mono fun e w' h=>QX h hne
 obtain⟨a,ha⟩:∃a,a=l.getD 0 []:=⟨_,rfl⟩
 obtain⟨n,hn⟩:∃n,l.length=n:=⟨_,rfl⟩
 have hn0:0<n:=by rw[←hn];exact List.length_pos_iff.2 hne
 rw[hn]at hlen
 have hz1:∀x ∈ l.drop 1,x.length≤900000:=fun x hx=>hz x (List.mem_of_mem_drop hx)
 obtain⟨L1,hL1⟩:∃L,L=l.drop 1:=⟨_,rfl⟩
 obtain⟨nr,hnr⟩:∃nr,nr=nrm a:=⟨_,rfl⟩
 obtain⟨W1,hW1⟩:∃W,W=og L1:=⟨_,rfl⟩
 rw[←hL1]at hz1
 have hON:O=if (decide (2≤n)&&nr&&W1)=true then some (a,L1)else none:=by rw[hO];unfold yP;rw[Ag,hn,←ha,←hL1,←hnr,←hW1]
 have YO:Hid (∀w:World,Calls Tryz.prog 209 #[.string (strOf a)] w fun e w'=>e=.returned (.bool nr)∧w=w'):=fun w=>by rw[hnr];exact Kr.xP (strOf a) w
 have HF1:Hid (2≤n→∀(A:Option Addr) (cap:Nat) (w:World),aY w A (n - 1) ((L1.map strOf).map Value.string)→Calls Tryz.prog 208 #[.slice A (n - 1) cap] w fun e w'=>e=.returned (.bool W1)∧Below w.heap.size w w'):=fun h2 A cap w hR=>by
  have h:=Nh A (n - 1) cap L1 w hR (by omega) hz1
  have hp:0<L1.length:=by rw[hL1,List.length_drop];omega
  rw[decide_eq_true hp,Bool.and_true,←hW1]at h
  exact h
 have HC:Hid (∀(w:World) (g m:Nat),aY w (some ⟨g,0,none⟩) m ((l.map strOf).map Value.string)→m=n→w.cell? ⟨g,0,none⟩=some (.string (strOf a))):=fun w g m hR e=>by
  subst e
  rw[ha];exact at_k hR 0 hn0
 have HD1:Hid (∀(w:World) (g:Nat),aY w (some ⟨g,0,none⟩) n ((l.map strOf).map Value.string)→aY w (some ⟨g,1,none⟩) (n - 1) ((L1.map strOf).map Value.string)):=fun w g hR=>by
  have:=hR.cut 1 (by omega)
  rw[hL1,List.map_drop,List.map_drop]
  exact this
 have HLL1:Hid (L1.length=n - 1):=by show _=_;rw[hL1,List.length_drop,hn]
 have HO:=hid hON
 have HN:=hid hn
 have pY:=hid hlen
 clear hl hO hll hne hlen hz hR hs hz1 ha hL1 hnr hW1 hn hON
 go_enter Tryz.func107,Tryz.ntmps107
 go_wp2_with fail
 refine(HSL.out _).mono ?_
 rintro e w2 ⟨rfl,hb⟩
 have HB2:=hid hb
 clear hb
 go_wp2_with fail
 refine(TB.out _).mono ?_
 rintro e w3 ⟨g3,n3,c3,rfl,hn3,hnc,hcm,hR,hb⟩
 have HB3:=hid (bel HB2.out hb)
 obtain rfl:n3=n:=by rw[←hn3];exact HN.out
 have HR3:=hid hR
 have hc0:=HC.out w3 _ _ hR rfl
 have HC3:=hid hc0
 clear hb hR hn3
 have hl9:=pY.out
 unfold maxLen at hcm
 have h0J:(0:Int)<(n3:Int):=by omega
 cases nr with
 |false=>
  have CG:Hid (O=none):=by show _=_;rw[HO.out];simp
  go_wp2_with fail
  refine(YO.out _).mono ?_
  rintro e w4 ⟨rfl,hw4⟩
  subst hw4
  go_wp2
  go_ret3
  exact lS CG.out HB3.out
 | true=>
  by_cases h2:2≤n3
  ·have h2I:¬(n3:Int)<2:=by omega
   go_wp2_with fail
   refine(YO.out _).mono ?_
   rintro e w4 ⟨rfl,hw4⟩
   subst hw4
   go_wp2_with fail
   refine(HF1.out h2 _ _ _ (HD1.out _ _ HR3.out)).mono ?_
   rintro e w5 ⟨rfl,hb⟩
   have iG:=hid (bel HB3.out hb)
   have HR5:=hid (HR3.out.below hb)
   clear hb hc0
   cases W1 with
   |false=>
    have CG:Hid (O=none):=by show _=_;rw[HO.out];simp
    go_wp2
    go_ret3
    exact lS CG.out iG.out
   |true=>
    have CG:Hid (O=some (a,L1)):=by show _=_;rw[HO.out,decide_eq_true h2];rfl
    go_upto_region 4 with(fail)
    refine aV (by kernel_rfl) [is (.slice (some ⟨g3,0,none⟩) n3 c3),is (.pointer (some ⟨g3,0,none⟩)),is (.string (strOf a)),is (.slice (some ⟨g3,0,none⟩) n3 c3),is (.slice (some ⟨g3,1,none⟩) (n3 - 1) (c3 - 1)),is (.string (strOf a)),is (.slice (some ⟨g3,1,none⟩) (n3 - 1) (c3 - 1)),is (.bool true)] [[],[0],[1],[],[3],[2],[4],[]] (by kernel_rfl) ?_ ?_
    ·refine⟨?_,?_,?_,?_,?_,?_,?_,?_,trivial⟩
     all_goals(intro t wq hbq hh K hK;simp only[filled,upd,Have,is,any,row,pick,Act.put,List.setIfInBounds_toArray,List.set_cons_zero,List.set_cons_succ,Nat.reduceAdd,Nat.reduceEqDiff,reduceIte,List.tail_cons,List.headD_cons]at hh hK⊢;(try simp only[hh]at hK⊢);try clear hh)
     iterate 2 · go_simp;exact hK _ _ (Below.refl _ _) rfl
     ·have hd0:=HC.out wq _ _ (HR5.out.below hbq) rfl;go_simp;exact hK _ _ (Below.refl _ _) rfl
     iterate 5 · go_simp;exact hK _ _ (Below.refl _ _) rfl
    ·intro t wq hbq hh
     have f5:=aB hh 5 (by decide)
     simp only[pick]at f5
     replace f5:t 5=(.string (strOf a)):=f5
     have f6:=aB hh 6 (by decide)
     simp only[pick]at f6
     replace f6:t 6=(.slice (some ⟨g3,1,none⟩) (n3 - 1) (c3 - 1)):=f6
     have f7:=aB hh 7 (by decide)
     simp only[pick]at f7
     replace f7:t 7=(.bool true):=f7
     clear hh
     simp only[filled,upd,Have,is,any,row,pick,Act.put,List.setIfInBounds_toArray,List.set_cons_zero,List.set_cons_succ,Nat.reduceAdd,Nat.reduceEqDiff,reduceIte]
     simp only[f5,f6,f7]
     have Et:=hid (bel iG.out hbq)
     have HRq:=hid (HR5.out.below hbq)
     clear hbq
     go_wp2
     go_ret3
     exact UM CG.out Et.out HLL1.out (by omega) (by unfold maxLen;omega) (HD1.out _ _ HRq.out)
  ·have h2I:(n3:Int)<2:=by omega
   have CG:Hid (O=none):=by show _=_;rw[HO.out,decide_eq_false h2];rfl
   go_wp2_with fail
   refine(YO.out _).mono ?_
   rintro e w4 ⟨rfl,hw4⟩
   subst hw4
   go_wp2
   go_ret3
   exact lS CG.out HB3.out
theorem Oa (s:ByteArray) (w:World) (hs:s.size≤900000):
  Calls Tryz.prog 106 #[.string s] w (agH w (Gw (iT s.data.toList))):=by
 have hl:s.data.toList.length=s.size:=Array.length_toList
 obtain⟨l,hll⟩:∃l,l=iT s.data.toList:=⟨_,rfl⟩
 obtain⟨O,hO⟩:∃O,O=Gw l:=⟨_,rfl⟩
 rw[←hll,←hO]
 have hne:l≠[]:=by rw[hll];exact Ee 92 _
 have hlen:l.length≤900001:=by rw[hll];have:=kD 92 (s.data.toList.map bs);rw[List.length_map,hl]at this;exact Nat.le_trans this (by omega)
 have hz:∀x ∈ l,x.length≤900000:=by
  intro x hx
  rw[hll]at hx
  have:=(AO 92 _ x hx)
  rw[List.length_map,hl]at this
  omega
 obtain⟨R,hR⟩:∃R,R=s.data.toList.map fs:=⟨_,rfl⟩
 have HSL:Hid (∀w:World,Calls Tryz.prog 45 #[.string s,.int .u8 92,.int .u8 47] w fun e w'=>e=.returned (.string (strOf R))∧Below w.heap.size w w'):=fun w=>by rw[hR];exact jr s 92 47 w (by omega)
 have TB:Hid (∀w:World,Calls Tryz.prog 101 #[.string (strOf R),.int .u8 47] w fun e w'=>∃g n c,e=.returned (.slice (some ⟨g,0,none⟩) n c)∧l.length=n∧n≤c∧c≤maxLen∧aY w' (some ⟨g,0,none⟩) n ((l.map strOf).map Value.string)∧Below w.heap.size w w'):=fun w=>by
  have e:spl 47 (strOf R).data.toList=l:=by rw[hll,hR];exact af4 s.data.toList
  have h:=vP (strOf R) w (by rw[size_strOf,hR,List.length_map];omega)
  rw[e]at h
  exact h.mono fun e w' h=>QX h hne
 obtain⟨a,ha⟩:∃a,a=l.getD 0 []:=⟨_,rfl⟩
 obtain⟨n,hn⟩:∃n,l.length=n:=⟨_,rfl⟩
 have hn0:0<n:=by rw[←hn];exact List.length_pos_iff.2 hne
 rw[hn]at hlen
 have hz3:∀x ∈ l.drop 3,x.length≤900000:=fun x hx=>hz x (List.mem_of_mem_drop hx)
 have hz2:(l.getD 2 []).length≤900000:=by
  rw[List.getD_eq_getElem?_getD]
  cases e:l[2]? with
  |none=>exact Nat.zero_le _
  |some y=>exact hz y (List.mem_of_getElem? e)
 obtain⟨b,hb⟩:∃b,b=l.getD 1 []:=⟨_,rfl⟩
 obtain⟨ho,hh⟩:∃h,h=l.getD 2 []:=⟨_,rfl⟩
 obtain⟨x,hx⟩:∃x,x=l.getD 3 []:=⟨_,rfl⟩
 obtain⟨L3,hL3⟩:∃L,L=l.drop 3:=⟨_,rfl⟩
 obtain⟨wh,hwh⟩:∃W,W=who ho:=⟨_,rfl⟩
 obtain⟨W3,hW3⟩:∃W,W=og L3:=⟨_,rfl⟩
 rw[←hL3]at hz3
 rw[←hh]at hz2
 have hON:O=if (decide (4≤n)&&decide (a=[])&&decide (b=[])&&wh&&decide (x≠[])&&W3)=true then some (ho,L3)else none:=by rw[hO];unfold Gw;rw[KE,hn,←ha,←hb,←hh,←hx,←hL3,←hwh,←hW3]
 have HWH:Hid (∀w:World,Calls Tryz.prog 207 #[.string (strOf ho)] w fun e w'=>e=.returned (.bool wh)∧Below w.heap.size w w'):=fun w=>by rw[hwh];exact an3 (strOf ho) w (by rw[size_strOf];exact hz2)
 have HF3:Hid (4≤n→∀(A:Option Addr) (cap:Nat) (w:World),aY w A (n - 3) ((L3.map strOf).map Value.string)→Calls Tryz.prog 208 #[.slice A (n - 3) cap] w fun e w'=>e=.returned (.bool W3)∧Below w.heap.size w w'):=fun h4 A cap w hR=>by
  have h:=Nh A (n - 3) cap L3 w hR (by omega) hz3
  have hp:0<L3.length:=by rw[hL3,List.length_drop];omega
  rw[decide_eq_true hp,Bool.and_true,←hW3]at h
  exact h
 have HC:Hid (∀(w:World) (g m:Nat),aY w (some ⟨g,0,none⟩) m ((l.map strOf).map Value.string)→m=n→4≤n→w.cell? ⟨g,0,none⟩=some (.string (strOf a))∧w.cell? ⟨g,1,none⟩=some (.string (strOf b))∧w.cell? ⟨g,2,none⟩=some (.string (strOf ho))∧w.cell? ⟨g,3,none⟩=some (.string (strOf x))):=fun w g m hR e k=>by
  subst e
  exact⟨by rw[ha];exact at_k hR 0 hn0,by rw[hb];exact at_k hR 1 (by omega),by rw[hh];exact at_k hR 2 (by omega),by rw[hx];exact at_k hR 3 (by omega)⟩
 have HD3:Hid (3≤n→∀(w:World) (g:Nat),aY w (some ⟨g,0,none⟩) n ((l.map strOf).map Value.string)→aY w (some ⟨g,3,none⟩) (n - 3) ((L3.map strOf).map Value.string)):=fun hk w g hR=>by
  have:=hR.cut 3 hk
  rw[hL3,List.map_drop,List.map_drop]
  exact this
 have HLL3:Hid (L3.length=n - 3):=by show _=_;rw[hL3,List.length_drop,hn]
 have HO:=hid hON
 have HN:=hid hn
 have pY:=hid hlen
 clear hl hO hll hne hlen hz hR hs hz3 hz2 ha hb hh hx hL3 hwh hW3 hn hON
 go_enter Tryz.func106,Tryz.ntmps106
 go_wp2_with fail
 refine(HSL.out _).mono ?_
 rintro e w2 ⟨rfl,hb⟩
 have HB2:=hid hb
 clear hb
 go_wp2_with fail
 refine(TB.out _).mono ?_
 rintro e w3 ⟨g3,n3,c3,rfl,hn3,hnc,hcm,hR,hb⟩
 have HB3:=hid (bel HB2.out hb)
 obtain rfl:n3=n:=by rw[←hn3];exact HN.out
 have HR3:=hid hR
 clear hb hR hn3
 have hl9:=pY.out
 unfold maxLen at hcm
 by_cases h4:4≤n3
 ·obtain ⟨hc0, hc1, hc2, hc3⟩ := HC.out w3 _ _ HR3.out rfl h4
  have h4I:¬(n3:Int)<4:=by omega
  have h0J:(0:Int)<(n3:Int):=by omega
  have h1J:(1:Int)<(n3:Int):=by omega
  have h2J:(2:Int)<(n3:Int):=by omega
  have h3J:(3:Int)<(n3:Int):=by omega
  by_cases ha:a=[]
  ·have q0:(strOf a).toList=[]:=by rw[tl];exact ha
   have q0':((strOf a).toList==[])=true:=by rw[q0];rfl
   by_cases hb:b=[]
   ·have q1 : (strOf b).toList = [] := by rw [tl]; exact hb
    have q1':((strOf b).toList==[])=true:=by rw[q1];rfl
    by_cases hx:x=[]
    ·have q3:(strOf x).toList=[]:=by rw[tl];exact hx
     have q3':((strOf x).toList==[])=true:=by rw[q3];rfl
     have CG:Hid (O=none):=by show _=_;rw[HO.out,decide_eq_false (p:=x≠[]) (fun h=>h hx)];simp
     clear ha hb hx
     go_wp2
     go_ret3
     exact lS CG.out HB3.out
    ·have q3:((strOf x).toList==[])=false:=by rw[tl,beq_eq_false_iff_ne];exact hx
     have q3':(strOf x).toList.isEmpty=false:=by rw[tl];simpa[strOf]using hx
     have jy:Hid (O=if (wh&&W3)=true then some (ho,L3)else none):=by show _=_;rw[HO.out,decide_eq_true h4,decide_eq_true ha,decide_eq_true hb,decide_eq_true hx];simp
     clear ha hb hx
     cases wh with
     |false=>
      have CG:Hid (O=none):=by show _=_;rw[jy.out];rfl
      go_wp2_with fail
      refine(HWH.out _).mono ?_
      rintro e w4 ⟨rfl,hb⟩
      have HB4:=hid (bel HB3.out hb)
      clear hb hc0 hc1 hc2 hc3
      go_wp2
      go_ret3
      exact lS CG.out HB4.out
     | true=>
      go_wp2_with fail
      refine(HWH.out _).mono ?_
      rintro e w4 ⟨rfl,hb⟩
      have HB4:=hid (bel HB3.out hb)
      have HR4:=hid (HR3.out.below hb)
      clear hb hc0 hc1 hc2 hc3
      go_wp2_with fail
      refine(HF3.out h4 _ _ _ (HD3.out (by omega) _ _ HR4.out)).mono ?_
      rintro e w5 ⟨rfl,hb⟩
      have iG:=hid (bel HB4.out hb)
      have HR5:=hid (HR4.out.below hb)
      clear hb
      cases W3 with
      |false=>
       have CG:Hid (O=none):=by show _=_;rw[jy.out];rfl
       go_wp2
       go_ret3
       exact lS CG.out iG.out
      |true=>
       have CG:Hid (O=some (ho,L3)):=by show _=_;rw[jy.out];rfl
       go_upto_region 4 with(fail)
       refine aV (by kernel_rfl) [is (.slice (some ⟨g3,0,none⟩) n3 c3),is (.pointer (some ⟨g3,2,none⟩)),is (.string (strOf ho)),is (.slice (some ⟨g3,0,none⟩) n3 c3),is (.slice (some ⟨g3,3,none⟩) (n3 - 3) (c3 - 3)),is (.string (strOf ho)),is (.slice (some ⟨g3,3,none⟩) (n3 - 3) (c3 - 3)),is (.bool true)] [[],[0],[1],[],[3],[2],[4],[]] (by kernel_rfl) ?_ ?_
       ·refine⟨?_,?_,?_,?_,?_,?_,?_,?_,trivial⟩
        all_goals(intro t wq hbq hh K hK;simp only[filled,upd,Have,is,any,row,pick,Act.put,List.setIfInBounds_toArray,List.set_cons_zero,List.set_cons_succ,Nat.reduceAdd,Nat.reduceEqDiff,reduceIte,List.tail_cons,List.headD_cons]at hh hK⊢;(try simp only[hh]at hK⊢);try clear hh)
        iterate 2 · go_simp;exact hK _ _ (Below.refl _ _) rfl
        ·obtain⟨hd0,hd1,hd2,hd3⟩:=HC.out wq _ _ (HR5.out.below hbq) rfl (by omega);go_simp;exact hK _ _ (Below.refl _ _) rfl
        iterate 5 · go_simp;exact hK _ _ (Below.refl _ _) rfl
       ·intro t wq hbq hh
        have f5:=aB hh 5 (by decide)
        simp only[pick]at f5
        replace f5:t 5=(.string (strOf ho)):=f5
        have f6:=aB hh 6 (by decide)
        simp only[pick]at f6
        replace f6:t 6=(.slice (some ⟨g3,3,none⟩) (n3 - 3) (c3 - 3)):=f6
        have f7:=aB hh 7 (by decide)
        simp only[pick]at f7
        replace f7:t 7=(.bool true):=f7
        clear hh
        simp only[filled,upd,Have,is,any,row,pick,Act.put,List.setIfInBounds_toArray,List.set_cons_zero,List.set_cons_succ,Nat.reduceAdd,Nat.reduceEqDiff,reduceIte]
        simp only[f5,f6,f7]
        have Et:=hid (bel iG.out hbq)
        have HRq:=hid (HR5.out.below hbq)
        clear hbq
        go_wp2
        go_ret3
        exact UM CG.out Et.out HLL3.out (by omega) (by unfold maxLen;omega) (HD3.out (by omega) _ _ HRq.out)
   ·have q1:((strOf b).toList==[])=false:=by rw[tl,beq_eq_false_iff_ne];exact hb
    have q1':(strOf b).toList.isEmpty=false:=by rw[tl];simpa[strOf]using hb
    have CG:Hid (O=none):=by show _=_;rw[HO.out,decide_eq_false hb];simp
    clear ha hb
    go_wp2
    go_ret3
    exact lS CG.out HB3.out
  ·have q0:((strOf a).toList==[])=false:=by rw[tl,beq_eq_false_iff_ne];exact ha
   have q0':(strOf a).toList.isEmpty=false:=by rw[tl];simpa[strOf]using ha
   have CG:Hid (O=none):=by show _=_;rw[HO.out,decide_eq_false ha];simp
   clear ha
   go_wp2
   go_ret3
   exact lS CG.out HB3.out
 ·have h4I:(n3:Int)<4:=by omega
  have CG:Hid (O=none):=by show _=_;rw[HO.out,decide_eq_false h4];rfl
  go_wp2
  go_ret3
  exact lS CG.out HB3.out
theorem ahw (s:ByteArray) (w:World) (hs:s.size≤900000):Calls Tryz.prog 43 #[.string s] w fun e w'=>e=.returned (.bool (sK s.data.toList))∧Below w.heap.size w w':=by
 obtain⟨l,hll⟩:∃l,l=iT s.data.toList:=⟨_,rfl⟩
 have HF:Hid (∀w:World,Calls Tryz.prog 106 #[.string s] w (agH w (Gw l))):=fun w=>by rw[hll];exact Oa s w hs
 have HN:Hid (∀w:World,Calls Tryz.prog 107 #[.string s] w (agH w (yP l))):=fun w=>by rw[hll];exact vJ s w hs
 have e:sK s.data.toList=(near l||far l):=by rw[hll];rfl
 rw[e]
 clear hll e
 have hfn:far l=false→Gw l=none:=fun h=>by unfold Gw;rw[h,if_neg (by decide)]
 have hfs:far l=true→Gw l=some (l.getD 2 [],l.drop 3):=fun h=>by unfold Gw;rw[h,if_pos rfl]
 have hnn:near l=false→yP l=none:=fun h=>by unfold yP;rw[h,if_neg (by decide)]
 have hns:near l=true→yP l=some (l.getD 0 [],l.drop 1):=fun h=>by unfold yP;rw[h,if_pos rfl]
 obtain⟨f,hf⟩:∃f,f=far l:=⟨_,rfl⟩
 obtain⟨k,hk⟩:∃k,k=near l:=⟨_,rfl⟩
 rw[←hf]at hfn hfs⊢
 rw[←hk]at hnn hns⊢
 obtain⟨OF,hOF⟩:∃o,o=Gw l:=⟨_,rfl⟩
 obtain⟨ON,hON⟩:∃o,o=yP l:=⟨_,rfl⟩
 rw[←hOF]at hfn hfs HF
 rw[←hON]at hnn hns HN
 generalize l.getD 2 []=d2 at hfs
 generalize l.drop 3=l3 at hfs
 generalize l.getD 0 []=d0 at hns
 generalize l.drop 1=l1 at hns
 clear hf hk hOF hON
 cases f with
 |false=>
  obtain rfl:=hfn rfl
  cases k with
  |false=>
   obtain rfl:=hnn rfl
   clear hfn hfs hnn hns
   go_enter Tryz.func43,Tryz.ntmps43
   go_wp2_with fail
   refine(HF.out _).mono ?_
   rintro e w2 ⟨hb,rfl⟩
   have HB2:=hid hb
   clear hb
   go_wp2_with fail
   refine(HN.out _).mono ?_
   rintro e w3 ⟨hb,rfl⟩
   have HB3:=hid (bel HB2.out hb)
   clear hb
   go_wp2
   go_ret
   exact⟨rfl,HB3.out⟩
  |true=>
   obtain rfl:=hns rfl
   clear hfn hfs hnn hns
   go_enter Tryz.func43,Tryz.ntmps43
   go_wp2_with fail
   refine(HF.out _).mono ?_
   rintro e w2 ⟨hb,rfl⟩
   have HB2:=hid hb
   clear hb
   go_wp2_with fail
   refine(HN.out _).mono ?_
   rintro e w3 ⟨hb,A,n,c,rfl,h1,h2,h3,h4⟩
   have HB3:=hid (bel HB2.out hb)
   clear hb h1 h2 h3 h4
   go_wp2
   go_ret
   exact⟨rfl,HB3.out⟩
 |true=>
  obtain rfl:=hfs rfl
  cases k with
  |false=>
   obtain rfl:=hnn rfl
   clear hfn hfs hnn hns
   go_enter Tryz.func43,Tryz.ntmps43
   go_wp2_with fail
   refine(HF.out _).mono ?_
   rintro e w2 ⟨hb,A,n,c,rfl,h1,h2,h3,h4⟩
   have HB2:=hid hb
   clear hb h1 h2 h3 h4
   go_wp2_with fail
   refine(HN.out _).mono ?_
   rintro e w3 ⟨hb,rfl⟩
   have HB3:=hid (bel HB2.out hb)
   clear hb
   go_wp2
   go_ret
   exact⟨rfl,HB3.out⟩
  |true=>
   obtain rfl:=hns rfl
   clear hfn hfs hnn hns
   go_enter Tryz.func43,Tryz.ntmps43
   go_wp2_with fail
   refine(HF.out _).mono ?_
   rintro e w2 ⟨hb,A,n,c,rfl,h1,h2,h3,h4⟩
   have HB2:=hid hb
   clear hb h1 h2 h3 h4
   go_wp2_with fail
   refine(HN.out _).mono ?_
   rintro e w3 ⟨hb,A,n,c,rfl,h1,h2,h3,h4⟩
   have HB3:=hid (bel HB2.out hb)
   clear hb h1 h2 h3 h4
   go_wp2
   go_ret
   exact⟨rfl,HB3.out⟩
end Go.Proofs.YtmpeaoacaecgpaaGreatDoor.WinD
namespace Go.Proofs.YtmpeaoacaecgpaaGreatDoor.WinE
open Go.RowKit Base Regs Base2 Base3 sW yu Sls NI PosC O1 oP ag1 WinD Xa
open Go.Proofs.YtmpeaoacaecgpaaGreatDoor.pR (seg)
open Go.Proofs.YtmpeaoacaecgpaaGreatDoor.PthP (nrm)
theorem kinds (l:List (List UInt8)):(far l=true∧Gw l=some (l.getD 2 [],l.drop 3)∧YK l=some ([],l.getD 2 [],l.drop 3))∨(near l=true∧Gw l=none∧yP l=some (l.getD 0 [],l.drop 1)∧YK l=some (l.getD 0 [],[],l.drop 1)∧l.getD 0 []≠[])∨(Gw l=none∧yP l=none∧YK l=none):=by
 cases hn:near l with
 |true=>
  have hf:=amw l hn
  refine .inr (.inl ⟨rfl,?_,?_,?_,?_⟩)
  ·unfold Gw;rw[hf,if_neg (by decide)]
  ·unfold yP;rw[hn,if_pos rfl]
  ·unfold YK three;rw[hn,if_pos (.inl rfl),if_pos rfl]
  intro e
  rw[Gp.Ag,e]at hn
  have h0:nrm []=false:=by decide
  rw[h0]at hn
  simp at hn
 |false=>
  cases hf:far l with
  |true=>
   refine .inl ⟨rfl,?_,?_⟩
   ·unfold Gw;rw[hf,if_pos rfl]
   unfold YK three;rw[hn,hf,if_pos (.inr rfl),if_neg (by decide)]
  |false=>
   refine .inr (.inr ⟨?_,?_,?_⟩)
   ·unfold Gw;rw[hf,if_neg (by decide)]
   ·unfold yP;rw[hn,if_neg (by decide)]
   unfold YK;rw[hn,hf,if_neg (by decide)]
end Go.Proofs.YtmpeaoacaecgpaaGreatDoor.WinE
namespace Go.Proofs.YtmpeaoacaecgpaaGreatDoor.PosP
open Go.RowKit Base dI cO PthP WR PthJ acM J5 PrsP NJ wo zD
open Go.Proofs.YtmpeaoacaecgpaaGreatDoor.pR (odd one seg Rw Yt EY tX Aj agk)
theorem afI (c:UInt8):low c=46→c=46:=dn (p:=fun c=>low c=46→c=46) (by decide+kernel) c
theorem aaG (c:UInt8):low c=37→c=37:=dn (p:=fun c=>low c=37→c=37) (by decide+kernel) c
theorem aaH (c:UInt8):low c=50→c=50:=dn (p:=fun c=>low c=50→c=50) (by decide+kernel) c
theorem QA (c:UInt8):low c=101→c=101∨c=69:=dn (p:=fun c=>low c=101→c=101∨c=69) (by decide+kernel) c
theorem list2:∀{X:List UInt8},X.length=2→∃a b,X=[a,b]
 |[a,b],_=>⟨a,b,rfl⟩
theorem list3:∀{X:List UInt8},X.length=3→∃a b c,X=[a,b,c]
 |[a,b,c],_=>⟨a,b,c,rfl⟩
theorem list4:∀{X:List UInt8},X.length=4→∃a b c d,X=[a,b,c,d]
 |[a,b,c,d],_=>⟨a,b,c,d,rfl⟩
theorem QJ:∀{X:List UInt8},X.length=6→∃a b c d e f,X=[a,b,c,d,e,f]
 |[a,b,c,d,e,f],_=>⟨a,b,c,d,e,f,rfl⟩
theorem dots {X:List UInt8} (h:xW X=true∨Bo X=true):fU.dec X=[46]∨fU.dec X=[46,46]:=by
 have k1:∀p,lower X=p→X.length=p.length:=fun p e=>by rw[←e];simp[lower]
 unfold xW Bo at h
 simp only[Bool.or_eq_true,decide_eq_true_eq]at h
 rcases h with(h|h)|(((h|h)|h)|h)
 ·left;rw[h];decide+kernel
 ·obtain⟨a,b,c,rfl⟩:=list3 (k1 _ h)
  simp only[lower,List.map_cons,List.map_nil,List.cons.injEq,and_true]at h
  obtain⟨ha,hb,hc⟩:=h
  obtain rfl:=aaG _ ha
  obtain rfl:=aaH _ hb
  rcases QA _ hc with rfl|rfl<;>(left;decide+kernel)
 ·obtain⟨a,b,rfl⟩:=list2 (k1 _ h)
  simp only[lower,List.map_cons,List.map_nil,List.cons.injEq,and_true]at h
  obtain⟨ha,hb⟩:=h
  obtain rfl:=afI _ ha
  obtain rfl:=afI _ hb
  right;decide+kernel
 ·obtain⟨a,b,c,d,rfl⟩:=list4 (k1 _ h)
  simp only[lower,List.map_cons,List.map_nil,List.cons.injEq,and_true]at h
  obtain⟨ha,hb,hc,hd⟩:=h
  obtain rfl:=afI _ ha
  obtain rfl:=aaG _ hb
  obtain rfl:=aaH _ hc
  rcases QA _ hd with rfl|rfl<;>(right;decide+kernel)
 ·obtain⟨a,b,c,d,rfl⟩:=list4 (k1 _ h)
  simp only[lower,List.map_cons,List.map_nil,List.cons.injEq,and_true]at h
  obtain⟨ha,hb,hc,hd⟩:=h
  obtain rfl:=aaG _ ha
  obtain rfl:=aaH _ hb
  obtain rfl:=afI _ hd
  rcases QA _ hc with rfl|rfl<;>(right;decide+kernel)
 obtain⟨a,b,c,d,e,f,rfl⟩:=QJ (k1 _ h)
 simp only[lower,List.map_cons,List.map_nil,List.cons.injEq,and_true]at h
 obtain⟨ha,hb,hc,hd,he,hf⟩:=h
 obtain rfl:=aaG _ ha
 obtain rfl:=aaH _ hb
 obtain rfl:=aaG _ hd
 obtain rfl:=aaH _ he
 rcases QA _ hc with rfl|rfl<;>rcases QA _ hf with rfl|rfl<;>(right;decide+kernel)
def Wy (x:List UInt8):Prop:=(∀c ∈ x,c≠47)∧x≠[46]∧x≠[46,46]
theorem abx {x:List UInt8} (h:Wy x):xW (seg x)=false∧Bo (seg x)=false:=by
 have hn:¬(xW (seg x)=true∨Bo (seg x)=true):=fun e=>by
  have:=dots e
  rw[tX]at this
  rcases this with e|e
  ·exact h.2.1 e
  exact h.2.2 e
 exact⟨by cases e:xW (seg x)with|false=>rfl|true=>exact absurd (.inl e) hn,by cases e:Bo (seg x)with|false=>rfl|true=>exact absurd (.inr e) hn⟩
theorem anw (f:Bool) {x:List UInt8} (h:∀d ∈ x,ji 4 d.toNat=false∧d≠47∧d≠92∧d≠124):wr f x=x:=by
 have e4:EscE.enc 4 x=x:=Hz.lV 4 _ fun c hc=>(h c hc).1
 unfold wr
 split
 ·rename_i hv
  rw[Bool.and_eq_true]at hv
  have hv:=hv.2
  match x,hv,h with
  |[a,b],hv,h=>
   simp only[drv,Bool.and_eq_true,Bool.or_eq_true,decide_eq_true_eq]at hv
   rcases hv.2 with rfl|rfl
   ·rfl
   exact absurd rfl (h 124 (by simp)).2.2.2
 exact e4
theorem Oz (i:Nat) {x:List UInt8} (h:Wy x):Seg FILE i (seg x):=by
 have ho:=agk h.1
 exact⟨⟨fun c hc=>EK _ _ (ho c hc).2.1 (ho c hc).2.2.1,(abx h).2,(abx h).1,anw _ ho⟩,fun c hc=>(ho c hc).1⟩
def DY (l:List (List UInt8)):U:={uF with aO:=l.map fun x=>strOf (seg x)}
theorem posU_ok {l:List (List UInt8)} (hn:l≠[]) (h:∀x ∈ l,Wy x):Ok (DY l):=by
 have hp:kQ FILE (l.map fun x=>strOf (seg x)):=by
  intro i hi
  rw[List.getElem_map]
  rw[List.length_map]at hi
  exact Oz i (h _ (List.getElem_mem hi))
 exact Nu hp (by intro e;exact hn (List.map_eq_nil_iff.1 e)) (H:=[]) (.inl rfl)
theorem VN {l:List (List UInt8)} (hn:l≠[]) (h:∀x ∈ l,Wy x):PrsP.url (fQ (DY l)) none=some (DY l):=zy (posU_ok hn h)
end Go.Proofs.YtmpeaoacaecgpaaGreatDoor.PosP
namespace Go.Proofs.YtmpeaoacaecgpaaGreatDoor.Ph
open Go.RowKit Base dI cO PthP WR PthJ acM J5 PrsP NJ wo zD
open Go.Proofs.YtmpeaoacaecgpaaGreatDoor.pR (seg)
open Go.Proofs.YtmpeaoacaecgpaaGreatDoor.PosP (Wy Oz)
open Go.Proofs.YtmpeaoacaecgpaaGreatDoor.oP (W3 iM YK iT og SX FY Ug BAR who uo LOC)
open Go.Proofs.YtmpeaoacaecgpaaGreatDoor.Xa (pre)
def nZ (v:W3):U:={uF with hst:=v.2.1,aO:=(pre v.1++v.2.2.map seg).map strOf}
theorem Z8 (a:UInt8) (h:letter (a.toNat:Int)=true):gB true a=false∧xW [a,58]=false∧Bo [a,58]=false∧wr true [a,58]=[a,58]∧ji 4 a.toNat=false:=
 pR.dn (p:=fun a=>letter (a.toNat:Int)=true→gB true a=false∧xW [a,58]=false∧Bo [a,58]=false∧wr true [a,58]=[a,58]∧ji 4 a.toNat=false) (by decide+kernel) a h
theorem ahm {d:List UInt8} (h:nrm d=true):Seg FILE 0 d:=by
 match d,h with
 |[a,b],h=>
  simp only[nrm,Bool.and_eq_true,decide_eq_true_eq]at h
  obtain⟨h1,rfl⟩:=h
  obtain⟨f1,f2,f3,f4,f5⟩:=Z8 a h1
  refine⟨⟨fun c hc=>?_,f3,f2,f4⟩,fun c hc=>?_⟩
  ·simp only[List.mem_cons,List.not_mem_nil,or_false]at hc
   rcases hc with rfl|rfl
   ·exact f1
   decide
  simp only[List.mem_cons,List.not_mem_nil,or_false]at hc
  rcases hc with rfl|rfl
  ·exact f5
  decide+kernel
theorem comp_of {x:List UInt8} (h:FY x=true):Wy x:=by
 unfold FY at h
 simp only[Bool.and_eq_true,decide_eq_true_eq]at h
 refine⟨fun c hc=>?_,h.1.1.1,h.1.1.2⟩
 have h1:=List.all_eq_true.1 h.2 c hc
 rintro rfl
 exact absurd h1 (by decide)
theorem row_mem:∀{l:List (List UInt8)},og l=true→∀x ∈ l,Wy x
 |x::r,h,y,hy=>by
  rw[og,Bool.and_eq_true]at h
  rcases List.mem_cons.1 hy with rfl|hy
  ·have h1:=h.1
   unfold SX at h1
   rw[Bool.and_eq_true]at h1
   exact comp_of h1.1
  ·exact row_mem h.2 y hy
theorem win_ok {L:List UInt8} {v:W3} (e:iM L=some v):Ok (nZ v):=by
 have e:YK (iT L)=some v:=e
 generalize iT L=l at e
 rcases WinE.kinds l with⟨hf,_,k2⟩|⟨hn,_,_,k3,k4⟩|⟨_,_,k3⟩
 ·rw[k2]at e
  injection e with e
  subst e
  rw[Gp.KE]at hf
  simp only[Bool.and_eq_true,decide_eq_true_eq]at hf
  obtain⟨⟨⟨⟨⟨h1,_⟩,_⟩,h4⟩,_⟩,h6⟩:=hf
  unfold who at h4
  simp only[Bool.and_eq_true,decide_eq_true_eq]at h4
  obtain⟨⟨_,h4⟩,h5⟩:=h4
  have hm:=row_mem h6
  have hne:l.drop 3≠[]:=by intro e;have:=congrArg List.length e;rw[List.length_drop]at this;simp at this;omega
  have hp:kQ FILE ((pre []++(l.drop 3).map seg).map strOf):=by
   intro i hi
   have e0:(pre []++(l.drop 3).map seg).map strOf=(l.drop 3).map fun x=>strOf (seg x):=by show((l.drop 3).map seg).map strOf=_;rw[List.map_map];rfl
   simp only[e0]at hi⊢
   rw[List.getElem_map]
   rw[List.length_map]at hi
   exact Oz i (hm _ (List.getElem_mem hi))
  refine Nu hp (by intro e;rw[List.map_eq_nil_iff]at e;exact hne (List.map_eq_nil_iff.1 e)) (H:=l.getD 2 []) ?_
  by_cases hh:l.getD 2 []=[]
  ·exact .inl hh
  exact .inr ⟨hh,Qw h4,h5⟩
 ·rw [k3] at e
  injection e with e
  subst e
  rw[Gp.Ag]at hn
  simp only[Bool.and_eq_true,decide_eq_true_eq]at hn
  obtain⟨⟨_,h2⟩,h3⟩:=hn
  have hm:=row_mem h3
  have e0:(pre (l.getD 0 [])++(l.drop 1).map seg).map strOf=strOf (l.getD 0 [])::(l.drop 1).map fun x=>strOf (seg x):=by
   unfold pre
   rw[if_neg k4]
   show strOf _::((l.drop 1).map seg).map strOf=_
   rw[List.map_map]
   rfl
  have hp:kQ FILE ((pre (l.getD 0 [])++(l.drop 1).map seg).map strOf):=by
   rw[e0]
   intro i hi
   match i,hi with
   |0,_=>exact ahm h2
   |i+1,hi=>
    rw[List.getElem_cons_succ,List.getElem_map]
    rw[List.length_cons,List.length_map]at hi
    exact Oz (i+1) (hm _ (List.getElem_mem (by omega)))
  exact Nu hp (by rw[e0];intro e;cases e) (H:=[]) (.inl rfl)
 rw[k3]at e
 cases e
theorem aiW {L:List UInt8} {v:W3} (e:iM L=some v):PrsP.url (fQ (nZ v)) none=some (nZ v):=zy (win_ok e)
end Go.Proofs.YtmpeaoacaecgpaaGreatDoor.Ph
namespace Go.Proofs.YtmpeaoacaecgpaaGreatDoor.PthM
open Go.RowKit Base Base2 PthJ Regs
theorem lK (w:World) (s:ByteArray) (p:Nat):Below w.heap.size w (w.iter s p):=(Below.refl _ _).alloc (Nat.le_refl _) _
theorem fF (r:Int) (w:World) (h0:128≤r):Calls Tryz.prog 333 #[.int .i32 r] w fun e w'=>e=.returned (.bool (validRune r))∧w=w':=by
 have q0:(0:Int)≤r:=by omega
 by_cases h1:r<55296
 ·have HV:Hid (validRune r=true):=decide_eq_true (.inl ⟨q0,h1⟩)
  go_enter Tryz.func333,Tryz.ntmps333
  go_wp2
  go_ret
  exact⟨ak HV.out.symm,rfl⟩
 by_cases h2:57343<r
 ·by_cases h3:r≤1114111
  ·have HV:Hid (validRune r=true):=decide_eq_true (.inr ⟨h2,h3⟩)
   go_enter Tryz.func333,Tryz.ntmps333
   go_wp2
   go_ret
   exact⟨ak HV.out.symm,rfl⟩
  have HV:Hid (validRune r=false):=decide_eq_false (by omega)
  go_enter Tryz.func333,Tryz.ntmps333
  go_wp2
  go_ret
  exact⟨ak HV.out.symm,rfl⟩
 have HV:Hid (validRune r=false):=decide_eq_false (by omega)
 go_enter Tryz.func333,Tryz.ntmps333
 go_wp2
 go_ret
 exact⟨ak HV.out.symm,rfl⟩
def two:ByteArray:=⟨#[92,47]⟩
theorem D7 (r:Int) (w:World) (h0:128≤r):Calls Tryz.prog 298 #[.string two,.int .i32 r] w fun e w'=>e=.returned (.int .i64 (-1))∧Below w.heap.size w w':=by
 have q0:(0:Int)≤r:=by omega
 have q1:¬r<128:=by omega
 obtain⟨T,hT⟩:∃T,T=two:=⟨_,rfl⟩
 have hsz:T.size=2:=by rw[hT];rfl
 have g0:∀h,T[0]'h=92:=by subst hT;intro h;rfl
 have g1:∀h,T[1]'h=47:=by subst hT;intro h;rfl
 rw[←hT]
 by_cases hE:r=65533
 ·subst hE
  have hn0:∀ty,(Instr.next (.pointer (some ⟨w.heap.size,0,none⟩)) true ty).run Tryz.prog (w.iter T 0)=.ok (.tuple #[.bool true,.int .i64 0,.int .i32 92]) (w.iter T 1):=fun ty=>by
   have:=run_next_ascii (P:=Tryz.prog) w T 0 ty (by omega) (by rw[g0];decide)
   rw[g0]at this
   exact this
  have hn1:∀ty,(Instr.next (.pointer (some ⟨w.heap.size,0,none⟩)) true ty).run Tryz.prog (w.iter T 1)=.ok (.tuple #[.bool true,.int .i64 1,.int .i32 47]) (w.iter T 2):=fun ty=>by
   have:=run_next_ascii (P:=Tryz.prog) w T 1 ty (by omega) (by rw[g1];decide)
   rw[g1]at this
   exact this
  have hn2:∀ty,(Instr.next (.pointer (some ⟨w.heap.size,0,none⟩)) true ty).run Tryz.prog (w.iter T 2)=.ok (.tuple #[.bool false]) (w.iter T 2):=fun ty=>run_next_end w T 2 ty (by omega)
  clear hT g0 g1 hsz
  go_enter Tryz.func298,Tryz.ntmps298
  go_wp2
  go_loopg [5,6] 2 (fun g _ _ wx=>∃i:Nat,i+g=2∧wx=w.iter T i)
  case atStart=>exact⟨0,rfl,rfl⟩
  case round=>
   obtain⟨i,hig,rfl⟩:=hrel
   cases gk with
   |zero=>
    obtain rfl:i=2:=by omega
    go_wp2
    go_ret
    exact⟨rfl,lK _ _ _⟩
   |succ g=>
    cases g with
    |zero=>
     obtain rfl:i=1:=by omega
     go_wp2
     go_roundg 0
     case measure=>omega
     case rel=>exact⟨2,rfl,rfl⟩
    |succ g=>
     obtain rfl:g=0:=by omega
     obtain rfl:i=0:=by omega
     go_wp2
     go_roundg 1
     case measure=>omega
     case rel=>exact⟨1,rfl,rfl⟩
 cases hv:validRune r with
 |false=>
  have HV:=hid hv
  clear hT g0 g1 hsz hv
  go_enter Tryz.func298,Tryz.ntmps298
  go_wp2_with fail
  refine(fF r _ h0).mono ?_
  rintro e w2 ⟨rfl,rfl⟩
  rw[HV.out]
  go_wp2
  go_ret
  exact⟨rfl,Below.refl _ _⟩
 | true=>
  have HV:=hid hv
  obtain⟨hE2,hE4,hEl⟩:=encode_facts r (by rw[validRune_eq];exact hv) h0
  obtain⟨E,hEE⟩:∃E,E=Utf8.encode r:=⟨_,rfl⟩
  rw[←hEE]at hE2 hE4 hEl
  have hcv:∀w:World,(convert 21 9 (.int .i32 r)).run Tryz.prog w=.ok (.string E) w:=fun w=>by
   rw[hEE]
   exact run_convert_int_string w _ _ .i32 r (by rw[Tryz.underlying21];rfl) Tryz.underlying9
  clear hT hv hEE
  by_cases h2:E.size=2
  ·obtain ⟨c,hc⟩:∃c,c=E[1]'(by omega):=⟨_,rfl⟩
   have hc128:128≤c.toNat:=by
    have:=hEl (by omega)
    rw[hc]
    have e:E.size - 1=1:=by omega
    simpa[e]using this
   have g92:=g1 (by omega)
   have hne:((47:Int) !=(c.toNat:Int))=true:=by simp;omega
   have HC:=hid hc128
   have hcE:E[1]'(by omega)=c:=hc.symm
   have hz:(E.size:Int) - 1=1:=by omega
   clear hEl hE2 hE4 hc hc128 g0
   go_enter Tryz.func298,Tryz.ntmps298
   go_wp2_with fail
   refine(fF r _ h0).mono ?_
   rintro e w2 ⟨rfl,rfl⟩
   rw[HV.out]
   go_wp2
   go_step3
   go_wp2
   go_loopg [9] 0 (fun _ s9 wx=>s9=.int .i64 1∧wx=w)
   case atStart=>exact⟨int_eq (by omega),rfl⟩
   case round=>
    obtain⟨rfl,rfl⟩:=hrel
    go_wp2
    go_step3
    go_wp2
    go_region
    go_wp2_with fail
    refine aV (by kernel_rfl) [is (.string T),is (.int .i64 1),is (.int .i64 2),is (.string ByteArray.empty),is (.string E),is (.int .i64 1),is (.int .u8 (c.toNat:Int)),is (.int .i64 (-1)),is (.int .i64 (-1))] [[],[],[1],[0,2],[],[],[4,5],[3,6],[7]] (by kernel_rfl) ?_ ?_
    ·refine⟨?_,?_,?_,?_,?_,?_,?_,?_,?_,trivial⟩
     all_goals(intro t wq hbq hh K hK;simp only[filled,upd,Have,is,any,row,pick,Act.put,List.setIfInBounds_toArray,List.set_cons_zero,List.set_cons_succ,Nat.reduceAdd,Nat.reduceEqDiff,reduceIte,List.tail_cons,List.headD_cons]at hh hK⊢;(try simp only[hh]at hK⊢);try clear hh)
     iterate 2 · go_simp;exact hK _ _ (Below.refl _ _) rfl
     ·go_simp;first|exact hK _ _ (Below.refl _ _) rfl|exact hK _ _ (Below.refl _ _) (iC (by omega) (by omega))
     iterate 4 · go_simp;exact hK _ _ (Below.refl _ _) rfl
     ·go_simp;refine(Tryz.strings_IndexByte ByteArray.empty _ _).mono ?_;rintro e wz ⟨rfl,hwz⟩;subst hwz;exact hK _ _ (Below.refl _ _) rfl
     go_simp;exact hK _ _ (Below.refl _ _) rfl
    intro t wq hbq hh
    have f8:=aB hh 8 (by decide)
    simp only[pick]at f8
    replace f8:t 8=(.int .i64 (-1)):=f8
    clear hh
    simp only[filled,upd,Have,is,any,row,pick,Act.put,List.setIfInBounds_toArray,List.set_cons_zero,List.set_cons_succ,Nat.reduceAdd,Nat.reduceEqDiff,reduceIte]
    simp only[f8]
    go_wp2
    rw[Exit.noGoto_ret]
    go_simp
    go_ret
    exact⟨rfl,CY (Below.refl _ _) hbq⟩
  have h3:3≤E.size:=by omega
  clear hEl g0 g1 h2
  have q3:¬((E.size:Int) - 1<2):=by omega
  go_enter Tryz.func298,Tryz.ntmps298
  go_wp2_with fail
  refine(fF r _ h0).mono ?_
  rintro e w2 ⟨rfl,rfl⟩
  rw[HV.out]
  go_wp2
  go_step3
  go_wp2
  go_loopg [9] 0 (fun _ s9 wx=>s9=.int .i64 ((E.size:Int) - 1)∧wx=w)
  case atStart=>exact⟨rfl,rfl⟩
  case round=>
   obtain⟨rfl,rfl⟩:=hrel
   go_wp2
   rw[Exit.noGoto_ret]
   go_ret
   exact⟨rfl,Below.refl _ _⟩
theorem vJ (r:Int) (w:World) (h0:0≤r) (h1:r<128):Calls Tryz.prog 298 #[.string two,.int .i32 r] w fun e w'=>e=.returned (.int .i64 (Lib.indexByte two.data.toList r.toNat.toUInt8))∧w'=w:=Any.strings_IndexRune_ascii {Tryz.l153 with} two r w h0 h1
theorem Qq (s:ByteArray) (i:Nat) (h:i<s.size):(s.get! i)=s[i]'h:=by
 simp[ByteArray.get!,getElem!_pos,h]
 rfl
theorem wide (s:ByteArray) (i:Nat) (h:i<s.size) (ha:128≤(s[i]'h).toNat):i+(Utf8.decode s i).2≤s.size∧∀j (hj:j<s.size),i≤j→j<i+(Utf8.decode s i).2→128≤(s[j]'hj).toNat:=by
 have hn:¬(s[i]'h).toNat<128:=by omega
 have one:i+1≤s.size∧∀j (hj:j<s.size),i≤j→j<i+1→128≤(s[j]'hj).toNat:=⟨by omega,fun j hj h1 h2=>by
  obtain rfl:j=i:=by omega
  exact ha⟩
 simp only[Utf8.decode,get_at s i h,hn,if_false]
 have c1:∀k,(decide (i+k<s.size)&&(s.get! (i+k)).toNat / 64==2)=true→∃hk:i+k<s.size,128≤(s[i+k]'hk).toNat:=fun k hk=>by
  simp only[Bool.and_eq_true,decide_eq_true_eq,beq_iff_eq]at hk
  refine⟨hk.1,?_⟩
  have:=hk.2
  rw[Qq s _ hk.1]at this
  omega
 split
 ·rename_i h2
  simp only[Bool.and_eq_true]at h2
  obtain⟨k1,b1⟩:=c1 1 (by simpa using h2.2)
  split
  ·refine⟨by show i+2≤_;omega,fun j hj h1 h2=>?_⟩
   replace h2:j<i+2:=h2
   have:j=i∨j=i+1:=by omega
   rcases this with rfl|rfl
   ·exact ha
   exact b1
  exact one
 split
 ·rename_i h2
  simp only[Bool.and_eq_true]at h2
  obtain⟨k1,b1⟩:=c1 1 (by simpa using h2.1.2)
  obtain⟨k2,b2⟩:=c1 2 (by simpa using h2.2)
  split
  ·refine⟨by show i+3≤_;omega,fun j hj h1 h2=>?_⟩
   replace h2:j<i+3:=h2
   have:j=i∨j=i+1∨j=i+2:=by omega
   rcases this with rfl|rfl|rfl
   ·exact ha
   ·exact b1
   exact b2
  exact one
 split
 ·rename_i h2
  simp only[Bool.and_eq_true]at h2
  obtain⟨k1,b1⟩:=c1 1 (by simpa using h2.1.1.2)
  obtain⟨k2,b2⟩:=c1 2 (by simpa using h2.1.2)
  obtain⟨k3,b3⟩:=c1 3 (by simpa using h2.2)
  split
  ·refine⟨by show i+4≤_;omega,fun j hj h1 h2=>?_⟩
   replace h2:j<i+4:=h2
   have:j=i∨j=i+1∨j=i+2∨j=i+3:=by omega
   rcases this with rfl|rfl|rfl|rfl
   ·exact ha
   ·exact b1
   ·exact b2
   exact b3
  exact one
 exact one
def ZJ (w:World) (k:Nat) (s:ByteArray) (p:Nat):World:={w with heap:=w.heap.setIfInBounds k (.stringIter s p)}
theorem Pz (w:World) (k:Nat) (s:ByteArray) (p:Nat) (h:k<w.heap.size):(ZJ w k s p).heap[k]?=some (.stringIter s p):=by
 show(w.heap.setIfInBounds k _)[k]?=_
 simp[h]
theorem yC {w0 w:World} (h:Below w0.heap.size w0 w) (s:ByteArray) (p:Nat):Below w0.heap.size w0 (ZJ w w0.heap.size s p):=
 ⟨h.os,h.tape,h.output,by show _≤(w.heap.setIfInBounds _ _).size;simpa using h.size,fun k hk=>by
  show(w.heap.setIfInBounds _ _)[k]?=_
  rw[Array.getElem?_setIfInBounds_ne (by omega)]
  exact h.block k hk⟩
theorem next_any {P:Program} (w:World) (k:Nat) (s:ByteArray) (pos:Nat) (ty:TypeId) (hk:w.heap[k]?=some (.stringIter s pos)) (h:pos<s.size):
  (Instr.next (.pointer (some ⟨k,0,none⟩)) true ty).run P w=.ok (.tuple #[.bool true,.int .i64 pos,.int .i32 (Utf8.decode s pos).1]) (ZJ w k s (pos+(Utf8.decode s pos).2)):=by
 simp only[Instr.next,getObj,setObj,Sem.run_bind,Sem.run,hk,Result.andThen,h,if_true]
 simp[goInt,ZJ]
theorem DI {P:Program} (w:World) (k:Nat) (s:ByteArray) (pos:Nat) (ty:TypeId) (hk:w.heap[k]?=some (.stringIter s pos)) (h:¬pos<s.size):
  (Instr.next (.pointer (some ⟨k,0,none⟩)) true ty).run P w=.ok (.tuple #[.bool false]) w:=by
 simp[Instr.next,getObj,Sem.run,hk,h]
theorem short_any (s:ByteArray) (w:World) (h8:s.size≤8):
  Calls Tryz.prog 271 #[.string s,.string two] w fun e w'=>e=.returned (.int .i64 (Lib.indexAny s.data.toList [92,47]))∧Below w.heap.size w w':=by
 have hemp:two.toList.isEmpty=false:=by unfold two;rw[ByteArray.toList_mk];rfl
 have hsz2:((two.size:Int)==1)=false:=rfl
 have h8z:decide ((8:Int)<(s.size:Int))=false:=decide_eq_false (by omega)
 have hL:s.data.toList.length=s.size:=Array.length_toList
 have HL:=hid hL
 clear hL
 have Du:=vJ
 have Dw:=D7
 obtain⟨T,hT⟩:∃T,T=two:=⟨_,rfl⟩
 rw[←hT]at Du Dw
 have MB:=hid Du
 have Zg:=hid Dw
 clear Du Dw
 rw[←hT]at hemp hsz2⊢
 have HT:=hid hT
 clear hT
 go_enter Tryz.func271,Tryz.ntmps271
 go_wp2_with fail
 refine(Any.strings_shouldUseASCIISet {Tryz.l153 with} _ _).mono ?_
 rintro e w2 ⟨rfl,hw2⟩
 subst hw2
 rw[h8z]
 go_wp2
 go_loopg [9,10] s.size (fun g _ _ wx=>∃i:Nat,i≤s.size∧s.size≤i+g∧wx.heap[w2.heap.size]?=some (.stringIter s i)∧Hid (Below w2.heap.size w2 wx)∧Hid (Lib.NoAny s.data.toList [92,47] i))
 case atStart=>exact⟨0,Nat.zero_le _,by omega,World.iter_heap _ _ _,lK _ _ _,Lib.NoAny.zero _ _⟩
 case round=>
  obtain⟨i,hile,hig,hit,HB,HN⟩:=hrel
  have FD:w2.heap.size<wr.heap.size:=(Array.getElem?_eq_some_iff.1 hit).1
  by_cases hi:i<s.size
  ·obtain ⟨g,rfl⟩:∃g,gk=g+1:=⟨gk - 1,by omega⟩
   obtain⟨x,hx⟩:∃x:UInt8,s[i]'hi=x:=⟨_,rfl⟩
   have hxl:s.data.toList[i]?=some x:=by rw[←hx];exact Lib.data_getElem? s i hi
   have hnx:=fun ty=>next_any (P:=Tryz.prog) wr w2.heap.size s i ty hit hi
   obtain⟨r,hr⟩:∃r:Nat,r=(Utf8.decode s i).1:=⟨_,rfl⟩
   obtain⟨d,hd⟩:∃d:Nat,d=(Utf8.decode s i).2:=⟨_,rfl⟩
   rw[←hr,←hd]at hnx
   obtain⟨wa,bI⟩:∃wa,wa=ZJ wr w2.heap.size s (i+d):=⟨_,rfl⟩
   have hia:wa.heap[w2.heap.size]?=some (.stringIter s (i+d)):=by rw[bI];exact Pz _ _ _ _ FD
   have HBA:Hid (Below w2.heap.size w2 wa):=by show Below _ _ _;rw[bI];exact yC HB.out _ _
   have hka:w2.heap.size<wa.heap.size:=(Array.getElem?_eq_some_iff.1 hia).1
   rw[←bI]at hnx
   have HIA:=hid hia
   have HKA:=hid hka
   clear bI hit FD hia hka
   by_cases hx128:x.toNat<128
   ·obtain rfl:d=1:=by rw[hd,decode_ascii s i hi (by rw[hx];exact hx128)]
    obtain rfl:r=x.toNat:=by rw[hr,decode_ascii s i hi (by rw[hx];exact hx128),hx]
    have Hx:=hid hxl
    have HBK:Hid (((x.toNat:Int)).toNat.toUInt8=x):=by show _=_;simp
    have Y4:=hid (Lib.contains_iff_indexByte [92,47] x)
    have hx0:(0:Int)≤(x.toNat:Int):=by omega
    clear hxl hx hr hd
    cases hin:([92,47]:List UInt8).contains x
    ·have hlt:¬((0:Int)≤Lib.indexByte T.data.toList x):=by rw[HT.out];exact of_decide_eq_false (Y4.out.symm.trans hin)
     have Y7:=hid hin
     clear hin
     go_wp2_with fail
     refine(MB.out _ _ hx0 (by omega)).mono ?_
     rintro e w3 ⟨rfl,hw3⟩
     subst hw3
     rw[HBK.out]
     go_wp2
     go_roundg g
     case measure=>omega
     case rel=>exact⟨i+1,by omega,by omega,HIA.out,HBA,HN.out.succ Hx.out Y7.out⟩
    ·have hlt:(0:Int)≤Lib.indexByte T.data.toList x:=by rw[HT.out];exact of_decide_eq_true (Y4.out.symm.trans hin)
     have Y7:=hid hin
     clear hin
     go_wp2_with fail
     refine(MB.out _ _ hx0 (by omega)).mono ?_
     rintro e w3 ⟨rfl,hw3⟩
     subst hw3
     rw[HBK.out]
     go_wp2
     go_ret
     exact⟨by rw[Lib.indexAny_hit HN.out Hx.out Y7.out];rfl,HBA.out⟩
   ·obtain ⟨aaw,hpos⟩:=decode_high s i hi (by rw[hx];omega)
    have HWD:=wide s i hi (by rw[hx];omega)
    rw[←hr]at aaw
    rw[←hd]at hpos HWD
    have HNX:Hid (Lib.NoAny s.data.toList [92,47] (i+d)):=fun j b hj hb=>by
     by_cases hji:j<i
     ·exact HN.out j b hji hb
     ·obtain⟨hjs,e⟩:=List.getElem?_eq_some_iff.1 hb
      have aax:j<s.size:=by rw[HL.out]at hjs;exact hjs
      have:=HWD.2 j aax (by omega) hj
      have hb':s[j]'aax=b:=e
      rw[hb']at this
      have h1:b≠92:=by rintro rfl;exact absurd this (by decide)
      have h2:b≠47:=by rintro rfl;exact absurd this (by decide)
      simp[h1,h2]
    have hid1:=HWD.1
    have ajw:Hid (128≤(r:Int)):=by show _≤_;omega
    clear hr hd HWD hx hxl aaw
    go_wp2_with fail
    refine(Zg.out _ _ ajw.out).mono ?_
    rintro e w3 ⟨rfl,hb3⟩
    have HI3:Hid (w3.heap[w2.heap.size]?=some (.stringIter s (i+d))):=(hb3.block _ HKA.out).trans HIA.out
    have HB3:Hid (Below w2.heap.size w2 w3):=bel HBA.out hb3
    clear hb3
    go_wp2
    go_roundg g
    case measure=>omega
    case rel=>exact⟨i+d,by omega,by omega,HI3.out,HB3,HNX⟩
  ·obtain rfl:i=s.size:=by omega
   have hnx:=fun ty=>DI (P:=Tryz.prog) wr w2.heap.size s s.size ty hit hi
   go_wp2
   go_ret
   exact⟨by rw[Lib.indexAny_none (by rw[HL.out];exact HN.out)];rfl,HB.out⟩
theorem EM (s:List UInt8):decide (0≤Lib.indexAny s [92,47])=s.any fun c=>decide (c=92)||decide (c=47):=by
 induction s with
 |nil=>rfl
 |cons c t ih=>
  by_cases h:([92,47]:List UInt8).contains c=true
  ·have e:=Lib.indexAny_hit (s:=c::t) (chars:=[92,47]) (i:=0) (x:=c) (Lib.NoAny.zero _ _) rfl h
   rw[e]
   have hc:c=92∨c=47:=by simpa using h
   rcases hc with rfl|rfl<;>rfl
  have hf:([92,47]:List UInt8).contains c=false:=by simpa using h
  have h1:c≠92:=by rintro rfl;exact absurd hf (by decide)
  have h2:c≠47:=by rintro rfl;exact absurd hf (by decide)
  rw[List.any_cons,decide_eq_false h1,decide_eq_false h2,←ih]
  have hge:=Lib.indexAny_ge [92,47] t
  rw[Lib.indexAny,hf,if_neg (by decide)]
  clear ih
  generalize Lib.indexAny t [92,47]=z at hge⊢
  by_cases e:z= -1
  ·subst e;rfl
  rw[if_neg (by simpa using e),Bool.eq_iff_iff]
  simp
  omega
theorem XV (s:ByteArray) (w:World) (hs:s.size≤1073741824):Calls Tryz.prog 271 #[.string s,.string ⟨#[92,47]⟩] w fun e w'=>e=.returned (.int .i64 (Lib.indexAny s.data.toList [92,47]))∧Below w.heap.size w w':=by
 by_cases h8:8<s.size
 ·exact Tryz.strings_IndexAny_long s ⟨#[92,47]⟩ w (Nat.le_refl _) h8 (by omega) (by decide) (by intro j b h;match j,h with|0,h=>(simp at h;subst h;decide)|1,h=>(simp at h;subst h;decide))
 exact short_any s w (by omega)
theorem sZ (s:ByteArray) (w:World) (hs:s.size≤1073741824):Calls Tryz.prog 200 #[.string s,.string ⟨#[92,47]⟩] w fun e w'=>e=.returned (.bool (s.data.toList.any fun c=>decide (c=92)||decide (c=47)))∧Below w.heap.size w w':=by
 rw[←EM]
 have HI:=hid (XV s w hs)
 generalize Lib.indexAny s.data.toList [92,47]=z at HI
 clear hs
 go_enter Tryz.func200,Tryz.ntmps200
 go_wp2_with fail
 refine HI.out.mono ?_
 rintro e w2 ⟨rfl,hb⟩
 have HB:=hid hb
 clear hb
 go_wp2
 go_ret
 exact⟨by first|rfl|simp,HB.out⟩
end Go.Proofs.YtmpeaoacaecgpaaGreatDoor.PthM
