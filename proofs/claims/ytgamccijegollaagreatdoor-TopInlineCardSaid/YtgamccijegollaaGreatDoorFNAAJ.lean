/- Texts that belong together: yx, WV, TbB, WX, MaiA, ajY, TL, akM, FetD, pU. -/
import Derived.Test.YtgamccijegollaaGreatDoorFNAAI
import Derived.Test.YtgamccijegollaaGreatDoorFNAAA
import Derived.BigQuiet
import Derived.Deep.QuietTactic
import Derived.Deep.WholeRow
import Derived.Test.YtgamccijegollaaGreatDoorFNAAH
import Derived.Conc.LoneCalls
import Derived.Conc.LoneSelectN
import Derived.KernelRfl
import Derived.WalkSmall
import Derived.Lib.IndexLaws
import Derived.Lib.SlTrimSet
set_option linter.unusedSimpArgs false
set_option linter.unusedVariables false
set_option maxRecDepth 100000
set_option maxHeartbeats 64000000
namespace Go.Proofs.YtgamccijegollaaGreatDoor.yx
open Go.RowKit Base L6 Dp dI cO acv ac2 acD aco jQ acJ Zo WJ sU pO wS yw tN Fp mW tK
def FW (S x y V D:List UInt8):Option U:=
 if (hap false V).2.2=true∧(hap false V).1=[]then none else
 match hst (hap false V).1 (special S),prt S (hap false V).2.1 with
 |some H,some p=>some {U0 with au:=S,usr:=x,MX:=y,hst:=H,hh:=true,port:=p,aO:=rooted S D}
 |_,_=>none
theorem ag6 (S T:List UInt8):authority S T=if (jL (T.take (upto (special S) T))).2.2.2=true∧(jL (T.take (upto (special S) T))).2.2.1=[]then none else FW S (jL (T.take (upto (special S) T))).1 (jL (T.take (upto (special S) T))).2.1 (jL (T.take (upto (special S) T))).2.2.1 (T.drop (upto (special S) T)):=rfl
theorem EX {o:Option Int} {e:Ending} (h:PrtV o e):∃z b,e=.returned (.tuple #[.int .i64 z,.bool b])∧(o=some z∧b=true∨o=none∧b=false):=by
 cases o with
 |some z=>exact⟨z,true,h,.inl ⟨rfl,rfl⟩⟩
 |none=>obtain⟨z,hz⟩:=h;exact⟨z,false,hz,.inr ⟨rfl,rfl⟩⟩
theorem dW {L:List UInt8} {n:Nat} (h:L.length≤n):(strOf L).size≤n:=by rw[o9];exact h
theorem aK (L:List UInt8):(strOf L).toList=L:=by rw[Lib.toList_data];rfl
theorem kH {w w':World} {o:Option U} (ho:o=none) (hb:Below w.heap.size w w'):mO w o (.returned (.tuple #[.agg (cells U0 (.slice none 0 0)),.bool false])) w':=
 ⟨hb,U0,none,0,0,false,rfl,wY _ _ rfl,.inr ⟨ho,rfl,rfl⟩⟩
theorem eH {w w':World} {o:Option U} {u:U} {A:Option Addr} {n c:Nat} (ho:o=some u) (hb:Below w.heap.size w w') (hp:Own w w' u A n c):mO w o (.returned (.tuple #[.agg (cells u (.slice A n c)),.bool true])) w':=
 ⟨hb,u,A,n,c,true,rfl,hp,.inl ⟨ho,rfl⟩⟩
theorem rH (b:UInt8):∀L:List UInt8,(fG b L).1.length≤L.length∧(fG b L).2.1.length≤L.length
 |[]=>by simp[fG]
 |c::L=>by
  have h:=rH b L
  unfold fG
  split
  ·simp
  ·simp only[List.length_cons]
   omega
theorem qP (S T:List UInt8) (w:World) (hs:T.length≤900000) (hL:oI w) (hT:Tab.Pow w) (hM:Max w):Calls Tryz.prog 118 #[.string (strOf S),.string (strOf T)] w (mO w (authority S T)):=by
 obtain⟨O,hO⟩:∃O,O=authority S T:=⟨_,rfl⟩
 rw[←hO]
 rw[ag6]at hO
 obtain⟨X,hX⟩:∃X,X=T.take (upto (special S) T):=⟨_,rfl⟩
 obtain⟨D,hD⟩:∃D,D=T.drop (upto (special S) T):=⟨_,rfl⟩
 have hXl:X.length≤900000:=by rw[hX,List.length_take];omega
 have hDl:D.length≤900000:=by rw[hD,List.length_drop];omega
 have hU:∀w:World,Calls Tryz.prog 224 #[.string (strOf S),.string (strOf T)] w fun e w'=>e=.returned (.tuple #[.string (strOf X),.string (strOf D)])∧Below w.heap.size w w':=fun w=>by rw[hX,hD];exact Ws (strOf S) (strOf T) w (dW (by omega))
 rw[←hX,←hD]at hO
 have hLa:∀w:World,Calls Tryz.prog 225 #[.string (strOf X),.int .u8 64] w fun e w'=>e=.returned (.int .i64 (Lib.lastIndexByte (strOf X) 64))∧w'=w:=fun w=>Tryz.strings_LastIndexByte (strOf X) 64 w (by rw[o9];omega)
 have hsp:∀w:World,Calls Tryz.prog 115 #[.string (strOf S)] w fun e w'=>e=.returned (.bool (special S))∧w'=w:=fun w=>jv (strOf S) w
 have hrt:∀w:World,Calls Tryz.prog 223 #[.string (strOf S),.string (strOf D)] w (lu w.heap.size w (rooted S D)):=fun w=>AA (strOf S) (strOf D) w (dW hDl)
 have HU:=hid hU
 have wC:=hid hsp
 have UC:=hid hrt
 have HL:=hid hL
 have HT:=hid hT
 have HM:=hid hM
 clear hU hsp hrt hL hT hM hX hD hDl hs
 have hls:=ahT (strOf X)
 rw[show(strOf X).data.toList=X from rfl]at hls
 obtain⟨zl,hzl⟩:∃z,z=Lib.lastIndexByte (strOf X) 64:=⟨_,rfl⟩
 rw[←hzl]at hLa hls
 have Uy:=hid hLa
 have HO0:=hid hO
 clear hLa hzl hO
 go_enter Tryz.func118,Tryz.ntmps118
 go_upto_region 1 with(fail)
 generalize hw:World.alloc w _=w1
 have h1:UB w1 (w.heap.size) (U0) (.slice none 0 0)∧Below w.heap.size w w1:=by
  subst hw
  exact laid1 w _ _
 clear hw
 have bP:Hid (w.heap.size≤w.heap.size):=(Below.refl w.heap.size w).size
 have bM:=hid (bel (Below.refl w.heap.size w) h1.2)
 have aW:=hid h1.1
 clear h1
 go_wp2_with fail
 refine(HU.out _).mono ?_
 rintro e w2 ⟨rfl,hbx⟩
 have bK:=hid (aW.out.below hbx)
 have eX:=hid (bel bM.out hbx)
 clear aW bM
 clear hbx
 go_upto_region 3 with(fail)
 generalize hw:World.alloc w2 _=w3
 have h1:UB w3 (w2.heap.size) ({U0 with au:=S,hh:=true}) (.slice none 0 0)∧Below w2.heap.size w2 w3:=by
  subst hw
  exact laid1 w2 _ _
 clear hw
 have hlr:=bK.out.lt
 have aX:Hid (w.heap.size≠w2.heap.size):=by show _≠_;omega
 have nO:Hid (w2.heap.size≠w.heap.size):=by show _≠_;omega
 clear hlr
 have fK:Hid (w.heap.size≤w2.heap.size):=eX.out.size
 have bD:=hid (bK.out.below h1.2)
 have cZ:=hid (bel eX.out h1.2)
 have eY:=hid h1.1
 clear bK eX
 clear h1
 go_wp2_with fail
 refine(Uy.out _).mono ?_
 rintro e wx ⟨rfl,hwx⟩
 obtain rfl:w3=wx:=by first|exact hwx|exact hwx.symm
 clear hwx
 rcases hls with⟨rfl,hl⟩|⟨k,hk,rfl,hl⟩
 ·
  obtain⟨V,hV⟩:∃V,V=X:=⟨_,rfl⟩
  have HOT:Hid (O=FW S [] [] V D):=by show _=_;rw[HO0.out,show jL X=([],[],X,false)by unfold jL;rw[hl],hV];rfl
  have hVl:V.length≤900000:=by rw[hV];exact hXl
  rw[←hV]
  clear HO0 hl hXl HU Uy
  subst hV
  obtain⟨H1,H2,c,hh⟩:∃H1 H2 c,hap false V=(H1,H2,c):=⟨_,_,_,rfl⟩
  have hl1:=(EJ V false).1
  have hl2:=(EJ V false).2
  rw[hh]at hl1 hl2
  simp only at hl1 hl2
  have hhp:∀w:World,Calls Tryz.prog 226 #[.string (strOf V)] w fun e w'=>e=.returned (.tuple #[.string (strOf H1),.string (strOf H2),.bool c])∧Below w.heap.size w w':=fun w=>by
   have h:=Bq (strOf V) w (dW (by omega))
   rw[show(strOf V).data.toList=V from rfl,hh]at h
   exact h
  have HHP:=hid hhp
  have hO2:O=if c=true∧H1=[]then none else match hst H1 (special S),prt S H2 with|some H,some p=>some {U0 with au:=S,usr:=[],MX:=[],hst:=H,hh:=true,port:=p,aO:=rooted S D}|_,_=>none:=by
   rw[HOT.out];unfold FW;rw[hh];first|done|rfl
  have hH:∀w:World,oI w→Tab.Pow w→Max w→Calls Tryz.prog 227 #[.string (strOf H1),.bool (special S)] w fun e w'=>e=.returned (HV (hst H1 (special S)))∧Below w.heap.size w w':=fun w a b d=>sU.parse_any (strOf H1) (special S) w (dW (by omega)) a b d
  have hPo:∀w:World,Calls Tryz.prog 228 #[.string (strOf S),.string (strOf H2)] w fun e w'=>PrtV (prt S H2) e∧w'=w:=fun w=>aa4 (strOf S) (strOf H2) w (dW (by omega))
  have HH:=hid hH
  have HPO:=hid hPo
  have jy:=hid hO2
  clear hhp hl1 hl2 hh hH hPo HOT hO2
  go_wp2_with fail
  refine(HHP.out _).mono ?_
  rintro e w4 ⟨rfl,hbx⟩
  have bF:=hid (bD.out.below hbx)
  have bV:=hid (eY.out.below hbx)
  have dD:=hid (bel cZ.out hbx)
  clear bD eY cZ
  clear hbx
  cases c
  focus
   have iV:Hid (O=match hst H1 (special S),prt S H2 with|some H,some p=>some {U0 with au:=S,usr:=[],MX:=[],hst:=H,hh:=true,port:=p,aO:=rooted S D}|_,_=>none):=by show _=_;rw[jy.out,if_neg (by simp)]
   clear jy
   go_wp2_with fail
   refine(wC.out _).mono ?_
   rintro e wx ⟨rfl,hwx⟩
   obtain rfl:w4=wx:=by first|exact hwx|exact hwx.symm
   clear hwx
  rotate_left
  focus
   by_cases h0:H1=[]
   ·
    have qc:Hid (O=none):=by show _=_;rw[jy.out,if_pos ⟨rfl,h0⟩]
    have q0:((strOf H1).toList==[])=true:=by rw[aK,h0];rfl
    have q1:(strOf H1).toList=[]:=by rw[aK,h0]
    clear jy h0
    go_wp2_with (refine aC bF.out U0 none 0 0 (.tmp 4) (.tmp 64) rfl rfl rfl rfl ?_)
    try simp only[Exit.inBlock,Exit.then]
    exact bodyPost_ret (w:=World.setRow w4 w.heap.size (cells U0 (.slice none 0 0))) (res2 (u:=U0) (p:=.slice none 0 0) rfl (bF.out.row U0 _) false _ rfl rfl) rfl (kH qc.out (below_setRow dD.out bP.out _))
   have iV:Hid (O=match hst H1 (special S),prt S H2 with|some H,some p=>some {U0 with au:=S,usr:=[],MX:=[],hst:=H,hh:=true,port:=p,aO:=rooted S D}|_,_=>none):=by show _=_;rw[jy.out,if_neg (fun h=>h0 h.2)]
   have q0:((strOf H1).toList==[])=false:=by rw[aK,beq_eq_false_iff_ne];exact h0
   have q1:¬(strOf H1).toList=[]:=by rw[aK];exact h0
   have q2:(strOf H1).toList.isEmpty=false:=by rw[aK];simpa using h0
   clear jy h0
   go_wp2_with fail
   refine(wC.out _).mono ?_
   rintro e wx ⟨rfl,hwx⟩
   obtain rfl:w4=wx:=by first|exact hwx|exact hwx.symm
   clear hwx
  rotate_left
  all_goals
   cases hx:hst H1 (special S)with
   |none=>
    have qc:Hid (O=none):=by show _=_;rw[iV.out,hx]
    rw[hx]at HH
    clear hx
    go_wp2_with fail
    refine(HH.out _ (HL.out.below dD.out) (bY HT.out dD.out) (HM.out.below dD.out)).mono ?_
    rintro e w5 ⟨rfl,hbx⟩
    have bH:=hid (bF.out.below hbx)
    have bJ:=hid (bV.out.below hbx)
    have fC:=hid (bel dD.out hbx)
    clear bF bV dD
    clear hbx
    rw[show HV none=.tuple #[.string (strOf []),.bool false]from rfl]
    have cx:=bJ.out.facts.2.2.2.1
    have fx:=bJ.out.thaw.2.2.2.1
    go_upto_region 16 with(fail)
    have hxr:=bH.out.set (k:=w2.heap.size) (i:=3) (.string (strOf [])) (aX.out)
    have hxu:=bJ.out.hst []
    have hb:=fC.out.setCell (p:=⟨w2.heap.size,3,none⟩) (fK.out) (.string (strOf []))
    clear bH bJ fC
    clear cx fx
    generalize World.setCell w5 _ _=w6 at hxr hxu hb⊢
    have bT:Hid (UB w6 (w.heap.size) (U0) (.slice none 0 0)):=hxr
    clear hxr
    have bG:Hid (UB w6 (w2.heap.size) ({U0 with au:=S,usr:=[],MX:=[],hh:=true,hst:=[]}) (.slice none 0 0)):=hxu
    clear hxu
    have gq:=hid hb
    clear hb
    go_wp2_with fail
    refine(HPO.out _).mono ?_
    rintro e wx ⟨hv,hwx⟩
    obtain rfl:w6=wx:=hwx.symm
    clear hwx
    obtain⟨z,ok,rfl,hzo⟩:=EX hv
    clear hv
    have cx:=bG.out.facts.2.2.2.2.2.1
    have fx:=bG.out.thaw.2.2.2.2.2.1
    go_upto_region 17 with(fail)
    have hxr:=bT.out.set (k:=w2.heap.size) (i:=5) (.int .i64 z) (aX.out)
    have hxu:=bG.out.port z
    have hb:=gq.out.setCell (p:=⟨w2.heap.size,5,none⟩) (fK.out) (.int .i64 z)
    clear bT bG gq
    clear cx fx
    generalize World.setCell w6 _ _=w7 at hxr hxu hb⊢
    have dQ:Hid (UB w7 (w.heap.size) (U0) (.slice none 0 0)):=hxr
    clear hxr
    have dO:Hid (UB w7 (w2.heap.size) ({U0 with au:=S,usr:=[],MX:=[],hh:=true,hst:=[],port:=z}) (.slice none 0 0)):=hxu
    clear hxu
    have iU:=hid hb
    clear hb
    clear hzo
    go_wp2_with (refine aC dQ.out U0 none 0 0 (.tmp 4) (.tmp 86) rfl rfl rfl rfl ?_)
    try simp only[Exit.inBlock,Exit.then]
    exact bodyPost_ret (w:=World.setRow w7 w.heap.size (cells U0 (.slice none 0 0))) (res2 (u:=U0) (p:=.slice none 0 0) rfl (dQ.out.row U0 _) false _ rfl rfl) rfl (kH qc.out (below_setRow iU.out bP.out _))
   |some R=>
    have Ti:Hid (O=match prt S H2 with|some p=>some {U0 with au:=S,usr:=[],MX:=[],hst:=R,hh:=true,port:=p,aO:=rooted S D}|none=>none):=by show _=_;rw[iV.out,hx];cases prt S H2<;>rfl
    rw[hx]at HH
    clear hx
    go_wp2_with fail
    refine(HH.out _ (HL.out.below dD.out) (bY HT.out dD.out) (HM.out.below dD.out)).mono ?_
    rintro e w5 ⟨rfl,hbx⟩
    have bH:=hid (bF.out.below hbx)
    have bJ:=hid (bV.out.below hbx)
    have fC:=hid (bel dD.out hbx)
    clear bF bV dD
    clear hbx
    rw[show HV (some R)=.tuple #[.string (strOf R),.bool true]from rfl]
    have cx:=bJ.out.facts.2.2.2.1
    have fx:=bJ.out.thaw.2.2.2.1
    go_upto_region 16 with(fail)
    have hxr:=bH.out.set (k:=w2.heap.size) (i:=3) (.string (strOf R)) (aX.out)
    have hxu:=bJ.out.hst R
    have hb:=fC.out.setCell (p:=⟨w2.heap.size,3,none⟩) (fK.out) (.string (strOf R))
    clear bH bJ fC
    clear cx fx
    generalize World.setCell w5 _ _=w6 at hxr hxu hb⊢
    have bT:Hid (UB w6 (w.heap.size) (U0) (.slice none 0 0)):=hxr
    clear hxr
    have bG:Hid (UB w6 (w2.heap.size) ({U0 with au:=S,usr:=[],MX:=[],hh:=true,hst:=R}) (.slice none 0 0)):=hxu
    clear hxu
    have gq:=hid hb
    clear hb
    go_wp2_with fail
    refine(HPO.out _).mono ?_
    rintro e wx ⟨hv,hwx⟩
    obtain rfl:w6=wx:=hwx.symm
    clear hwx
    obtain⟨z,ok,rfl,hzo⟩:=EX hv
    clear hv
    have cx:=bG.out.facts.2.2.2.2.2.1
    have fx:=bG.out.thaw.2.2.2.2.2.1
    go_upto_region 17 with(fail)
    have hxr:=bT.out.set (k:=w2.heap.size) (i:=5) (.int .i64 z) (aX.out)
    have hxu:=bG.out.port z
    have hb:=gq.out.setCell (p:=⟨w2.heap.size,5,none⟩) (fK.out) (.int .i64 z)
    clear bT bG gq
    clear cx fx
    generalize World.setCell w6 _ _=w7 at hxr hxu hb⊢
    have dQ:Hid (UB w7 (w.heap.size) (U0) (.slice none 0 0)):=hxr
    clear hxr
    have dO:Hid (UB w7 (w2.heap.size) ({U0 with au:=S,usr:=[],MX:=[],hh:=true,hst:=R,port:=z}) (.slice none 0 0)):=hxu
    clear hxu
    have iU:=hid hb
    clear hb
    rcases hzo with⟨hz,rfl⟩|⟨hz,rfl⟩
    ·
     have mX:Hid (O=some {U0 with au:=S,usr:=[],MX:=[],hst:=R,hh:=true,port:=z,aO:=rooted S D}):=by show _=_;rw[Ti.out,hz]
     clear hz
     go_wp2_with fail
     refine(UC.out _).mono ?_
     rintro e w8 ⟨q,rfl,hown,hbx⟩
     obtain⟨A,c2,rfl,hq⟩:=bW (u:={U0 with aO:=rooted S D}) hown
     clear hq
     replace hown:=ay hown (Nat.le_refl _)
     have zF:Hid (w2.heap.size<w7.heap.size):=dO.out.lt
     have iy:Hid (w.heap.size<w7.heap.size):=dQ.out.lt
     have iI:=hid (dQ.out.below hbx)
     have jJ:=hid (dO.out.below hbx)
     have sS:=hid (bel iU.out hbx)
     have tC:=hid hown
     clear hown
     clear dQ dO iU
     clear hbx
     have BX:=zF.out
     have cx:=jJ.out.facts.2.2.2.2.2.2.2.2.1
     have fx:=jJ.out.thaw.2.2.2.2.2.2.2.2.1
     go_upto_region 20 with(fail)
     have hxr:=iI.out.set (k:=w2.heap.size) (i:=8) (.slice A (rooted S D).length c2) (aX.out)
     have hxu:=jJ.out.path (.slice A (rooted S D).length c2)
     have hoq:=gU.aN (w':=w8.setCell ⟨w2.heap.size,8,none⟩ (.slice A (rooted S D).length c2)) (gb:=w2.heap.size) tC.out (fun k hk=>heap_setCell_other _ _ _ _ hk) (by omega)
     have hb:=sS.out.setCell (p:=⟨w2.heap.size,8,none⟩) (fK.out) (.slice A (rooted S D).length c2)
     clear iI jJ tC sS
     clear cx fx
     generalize World.setCell w8 _ _=w9 at hxr hxu hoq hb⊢
     have Bg:Hid (UB w9 (w.heap.size) (U0) (.slice none 0 0)):=hxr
     clear hxr
     have yt:Hid (UB w9 (w2.heap.size) ({U0 with au:=S,usr:=[],MX:=[],hh:=true,hst:=R,port:=z}) (.slice A (rooted S D).length c2)):=hxu
     clear hxu
     have HOqw9:=hid hoq
     clear hoq
     have Fe:=hid hb
     clear hb
     clear BX
     obtain⟨c0,c1,c2',c3,c4,c5,c6,c7,c8,c9,c10,c11,c12⟩:=yt.out.facts
     go_wp2_with (refine aC Bg.out {U0 with au:=S,usr:=[],MX:=[],hh:=true,hst:=R,port:=z} A (rooted S D).length c2 (.tmp 4) (.tmp 91) rfl rfl rfl rfl ?_)
     try simp only[Exit.inBlock,Exit.then]
     have hpo:∀k,k≠w.heap.size→(World.setRow w9 (w.heap.size) (cells {U0 with au:=S,usr:=[],MX:=[],hh:=true,hst:=R,port:=z} (.slice A (rooted S D).length c2))).heap[k]?=w9.heap[k]?:=fun k hk=>setRow_other _ _ _ _ hk
     have ho:=ay (gU.aN HOqw9.out hpo iy.out) (by have h1:=bP.out;have h2:=iy.out;omega:w.heap.size≤_)
     exact bodyPost_ret (w:=World.setRow w9 w.heap.size (cells {U0 with au:=S,usr:=[],MX:=[],hh:=true,hst:=R,port:=z} (.slice A (rooted S D).length c2))) (res2 (u:={U0 with au:=S,usr:=[],MX:=[],hh:=true,hst:=R,port:=z}) (p:=(.slice A (rooted S D).length c2)) rfl (Bg.out.row {U0 with au:=S,usr:=[],MX:=[],hh:=true,hst:=R,port:=z} _) true _ rfl rfl) rfl (eH (u:={U0 with au:=S,usr:=[],MX:=[],hst:=R,hh:=true,port:=z,aO:=rooted S D}) mX.out (below_setRow Fe.out bP.out _) ho)
    ·
     have qc:Hid (O=none):=by show _=_;rw[Ti.out,hz]
     clear hz
     go_wp2_with (refine aC dQ.out U0 none 0 0 (.tmp 4) (.tmp 86) rfl rfl rfl rfl ?_)
     try simp only[Exit.inBlock,Exit.then]
     exact bodyPost_ret (w:=World.setRow w7 w.heap.size (cells U0 (.slice none 0 0))) (res2 (u:=U0) (p:=.slice none 0 0) rfl (dQ.out.row U0 _) false _ rfl rfl) rfl (kH qc.out (below_setRow iU.out bP.out _))
 ·
  rw[o9]at hk
  obtain⟨E,hE⟩:∃E,E=X.take k:=⟨_,rfl⟩
  obtain⟨V,hV⟩:∃V,V=X.drop (k+1):=⟨_,rfl⟩
  have hVl:V.length≤900000:=by rw[hV,List.length_drop];omega
  have hEl:E.length≤900000:=by rw[hE,List.length_take];omega
  obtain⟨N,P2,bb,hc⟩:∃N P2 b,fG 58 E=(N,P2,b):=⟨_,_,_,rfl⟩
  have hNl:N.length≤900000∧P2.length≤900000:=by have h:=rH 58 E;rw[hc]at h;simp only at h;omega
  have hC:∀w:World,Max w→Calls Tryz.prog 71 #[.string (strOf E),.string ⟨#[58]⟩] w fun e w'=>e=.returned (.tuple #[.string (strOf N),.string (strOf P2),.bool bb])∧Below w.heap.size w w':=fun w ⟨m,hm⟩=>(Tryz.strings_Cut (strOf E) ⟨#[58]⟩ m w (by rw[o9];omega) hm).mono fun e w' ⟨h1,q,h2⟩=>⟨by rw[h1,show(strOf E).data.toList=E from rfl,show(⟨#[58]⟩:ByteArray).data.toList=[58]from rfl,yG,hc];rfl,by rw[h2];exact Base.below_drewN (Below.refl _ _) _⟩
  have HC:=hid hC
  have hx1:(strOf X).extract 0 k=strOf E:=by rw[RU,hE];rfl
  have hx2:(strOf X).extract (k+1) (strOf X).size=strOf V:=by rw[l7,hV];rfl
  have hcr:jL X=(FM.enc 5 N,FM.enc 5 P2,V,true):=by unfold jL;rw[hl];simp only;rw[←hE,←hV,hc]
  have hO:=HO0.out
  rw[hcr]at hO
  simp only at hO
  have hkI:(k:Int)≤((strOf X).size:Int):=by rw[o9];omega
  have hkJ:(k:Int)+1≤((strOf X).size:Int):=by rw[o9];omega
  have hk0:¬(k:Int)<0:=by omega
  have hk1:(0:Int)≤(k:Int):=by omega
  have hkt:((k:Int)+1).toNat=k+1:=by omega
  have hXs:(strOf X).size≤900000:=dW hXl
  have HO:=hid hO
  have gY:=hid hx2
  clear hC hcr hO hE hV hc hl HO0
  go_wp2_with fail
  refine(HC.out _ (HM.out.below cZ.out)).mono ?_
  rintro e w4 ⟨rfl,hbx⟩
  have bF:=hid (bD.out.below hbx)
  have bV:=hid (eY.out.below hbx)
  have dD:=hid (bel cZ.out hbx)
  clear bD eY cZ
  clear hbx
  clear hx1
  have hcv:=fun(w:World) s=>run_bytes_of_string (P:=Tryz.prog) w 9 45 5 s Tryz.underlying9 Tryz.underlying45 Tryz.underlying5
  go_wp2_with fail
  clear hcv
  refine(FM.eF 5 _ _ _ N _ (fV (strOf N) _ _ _) (dW (by omega))).mono ?_
  rintro e w5 ⟨rfl,hb0⟩
  have hbx:Below w4.heap.size w4 w5:=bel (((Below.refl w4.heap.size w4).alloc (Nat.le_refl _) _).drew) hb0
  clear hb0
  have bH:=hid (bF.out.below hbx)
  have bJ:=hid (bV.out.below hbx)
  have fC:=hid (bel dD.out hbx)
  clear bF bV dD
  clear hbx
  have cx:=bJ.out.facts.2.1
  have fx:=bJ.out.thaw.2.1
  go_upto_region 7 with(fail)
  have hxr:=bH.out.set (k:=w2.heap.size) (i:=1) (.string (strOf (FM.enc 5 N))) (aX.out)
  have hxu:=bJ.out.usr (FM.enc 5 N)
  have hb:=fC.out.setCell (p:=⟨w2.heap.size,1,none⟩) (fK.out) (.string (strOf (FM.enc 5 N)))
  clear bH bJ fC
  clear cx fx
  generalize World.setCell w5 _ _=w6 at hxr hxu hb⊢
  have bT:Hid (UB w6 (w.heap.size) (U0) (.slice none 0 0)):=hxr
  clear hxr
  have bG:Hid (UB w6 (w2.heap.size) ({U0 with au:=S,hh:=true,usr:=FM.enc 5 N}) (.slice none 0 0)):=hxu
  clear hxu
  have gq:=hid hb
  clear hb
  have hcv:=fun(w:World) s=>run_bytes_of_string (P:=Tryz.prog) w 9 45 5 s Tryz.underlying9 Tryz.underlying45 Tryz.underlying5
  go_wp2_with fail
  clear hcv
  refine(FM.eF 5 _ _ _ P2 _ (fV (strOf P2) _ _ _) (dW (by omega))).mono ?_
  rintro e w7 ⟨rfl,hb0⟩
  have hbx:Below w6.heap.size w6 w7:=bel (((Below.refl w6.heap.size w6).alloc (Nat.le_refl _) _).drew) hb0
  clear hb0
  have dQ:=hid (bT.out.below hbx)
  have dO:=hid (bG.out.below hbx)
  have iU:=hid (bel gq.out hbx)
  clear bT bG gq
  clear hbx
  have cx:=dO.out.facts.2.2.1
  have fx:=dO.out.thaw.2.2.1
  go_upto_region 8 with(fail)
  have hxr:=dQ.out.set (k:=w2.heap.size) (i:=2) (.string (strOf (FM.enc 5 P2))) (aX.out)
  have hxu:=dO.out.MX (FM.enc 5 P2)
  have hb:=iU.out.setCell (p:=⟨w2.heap.size,2,none⟩) (fK.out) (.string (strOf (FM.enc 5 P2)))
  clear dQ dO iU
  clear cx fx
  generalize World.setCell w7 _ _=w8 at hxr hxu hb⊢
  have iI:Hid (UB w8 (w.heap.size) (U0) (.slice none 0 0)):=hxr
  clear hxr
  have jJ:Hid (UB w8 (w2.heap.size) ({U0 with au:=S,hh:=true,usr:=FM.enc 5 N,MX:=FM.enc 5 P2}) (.slice none 0 0)):=hxu
  clear hxu
  have sS:=hid hb
  clear hb
  have hx2:=gY.out
  by_cases h0:V=[]
  ·
   have qc:Hid (O=none):=by show _=_;rw[HO.out,if_pos ⟨by first|rfl|trivial,h0⟩]
   have q0:((strOf V).toList==[])=true:=by rw[aK,h0];rfl
   have q1:(strOf V).toList=[]:=by rw[aK,h0]
   clear h0
   go_wp2_with (refine aC iI.out U0 none 0 0 (.tmp 4) (.tmp 52) rfl rfl rfl rfl ?_)
   try simp only[Exit.inBlock,Exit.then]
   exact bodyPost_ret (w:=World.setRow w8 w.heap.size (cells U0 (.slice none 0 0))) (res2 (u:=U0) (p:=.slice none 0 0) rfl (iI.out.row U0 _) false _ rfl rfl) rfl (kH qc.out (below_setRow sS.out bP.out _))
  ·
   obtain⟨xe,hxe⟩:∃x,x=FM.enc 5 N:=⟨_,rfl⟩
   obtain⟨ye,hye⟩:∃x,x=FM.enc 5 P2:=⟨_,rfl⟩
   have HOT:Hid (O=FW S xe ye V D):=by show _=_;rw[HO.out,if_neg (fun h=>h0 h.2),hxe,hye]
   have q0:((strOf V).toList==[])=false:=by rw[aK,beq_eq_false_iff_ne];exact h0
   have q1:¬(strOf V).toList=[]:=by rw[aK];exact h0
   have q2:(strOf V).toList.isEmpty=false:=by rw[aK];simpa using h0
   rw[←hxe,←hye]at jJ
   clear h0 hxe hye HO
   go_upto_region 11 with(fail)
   clear q0 q1 q2 hx2 hkI hkJ hk0 hk1 hkt hXs hXl hEl hNl gY
   obtain⟨H1,H2,c,hh⟩:∃H1 H2 c,hap false V=(H1,H2,c):=⟨_,_,_,rfl⟩
   have hl1:=(EJ V false).1
   have hl2:=(EJ V false).2
   rw[hh]at hl1 hl2
   simp only at hl1 hl2
   have hhp:∀w:World,Calls Tryz.prog 226 #[.string (strOf V)] w fun e w'=>e=.returned (.tuple #[.string (strOf H1),.string (strOf H2),.bool c])∧Below w.heap.size w w':=fun w=>by
    have h:=Bq (strOf V) w (dW (by omega))
    rw[show(strOf V).data.toList=V from rfl,hh]at h
    exact h
   have HHP:=hid hhp
   have hO2:O=if c=true∧H1=[]then none else match hst H1 (special S),prt S H2 with|some H,some p=>some {U0 with au:=S,usr:=xe,MX:=ye,hst:=H,hh:=true,port:=p,aO:=rooted S D}|_,_=>none:=by
    rw[HOT.out];unfold FW;rw[hh];first|done|rfl
   have hH:∀w:World,oI w→Tab.Pow w→Max w→Calls Tryz.prog 227 #[.string (strOf H1),.bool (special S)] w fun e w'=>e=.returned (HV (hst H1 (special S)))∧Below w.heap.size w w':=fun w a b d=>sU.parse_any (strOf H1) (special S) w (dW (by omega)) a b d
   have hPo:∀w:World,Calls Tryz.prog 228 #[.string (strOf S),.string (strOf H2)] w fun e w'=>PrtV (prt S H2) e∧w'=w:=fun w=>aa4 (strOf S) (strOf H2) w (dW (by omega))
   have HH:=hid hH
   have HPO:=hid hPo
   have jy:=hid hO2
   clear hhp hl1 hl2 hh hH hPo HOT hO2
   go_wp2_with fail
   refine(HHP.out _).mono ?_
   rintro e w9 ⟨rfl,hbx⟩
   have Bg:=hid (iI.out.below hbx)
   have yt:=hid (jJ.out.below hbx)
   have Fe:=hid (bel sS.out hbx)
   clear iI jJ sS
   clear hbx
   cases c
   focus
    have iV:Hid (O=match hst H1 (special S),prt S H2 with|some H,some p=>some {U0 with au:=S,usr:=xe,MX:=ye,hst:=H,hh:=true,port:=p,aO:=rooted S D}|_,_=>none):=by show _=_;rw[jy.out,if_neg (by simp)]
    clear jy
    go_wp2_with fail
    refine(wC.out _).mono ?_
    rintro e wx ⟨rfl,hwx⟩
    obtain rfl:w9=wx:=by first|exact hwx|exact hwx.symm
    clear hwx
   rotate_left
   focus
    by_cases h0:H1=[]
    ·
     have qc:Hid (O=none):=by show _=_;rw[jy.out,if_pos ⟨rfl,h0⟩]
     have q0:((strOf H1).toList==[])=true:=by rw[aK,h0];rfl
     have q1:(strOf H1).toList=[]:=by rw[aK,h0]
     clear jy h0
     go_wp2_with (refine aC Bg.out U0 none 0 0 (.tmp 4) (.tmp 64) rfl rfl rfl rfl ?_)
     try simp only[Exit.inBlock,Exit.then]
     exact bodyPost_ret (w:=World.setRow w9 w.heap.size (cells U0 (.slice none 0 0))) (res2 (u:=U0) (p:=.slice none 0 0) rfl (Bg.out.row U0 _) false _ rfl rfl) rfl (kH qc.out (below_setRow Fe.out bP.out _))
    have iV:Hid (O=match hst H1 (special S),prt S H2 with|some H,some p=>some {U0 with au:=S,usr:=xe,MX:=ye,hst:=H,hh:=true,port:=p,aO:=rooted S D}|_,_=>none):=by show _=_;rw[jy.out,if_neg (fun h=>h0 h.2)]
    have q0:((strOf H1).toList==[])=false:=by rw[aK,beq_eq_false_iff_ne];exact h0
    have q1:¬(strOf H1).toList=[]:=by rw[aK];exact h0
    have q2:(strOf H1).toList.isEmpty=false:=by rw[aK];simpa using h0
    clear jy h0
    go_wp2_with fail
    refine(wC.out _).mono ?_
    rintro e wx ⟨rfl,hwx⟩
    obtain rfl:w9=wx:=by first|exact hwx|exact hwx.symm
    clear hwx
   rotate_left
   all_goals
    cases hx:hst H1 (special S)with
    |none=>
     have qc:Hid (O=none):=by show _=_;rw[iV.out,hx]
     rw[hx]at HH
     clear hx
     go_wp2_with fail
     refine(HH.out _ (HL.out.below Fe.out) (bY HT.out Fe.out) (HM.out.below Fe.out)).mono ?_
     rintro e w10 ⟨rfl,hbx⟩
     have CJ:=hid (Bg.out.below hbx)
     have uS:=hid (yt.out.below hbx)
     have OH:=hid (bel Fe.out hbx)
     clear Bg yt Fe
     clear hbx
     rw[show HV none=.tuple #[.string (strOf []),.bool false]from rfl]
     have cx:=uS.out.facts.2.2.2.1
     have fx:=uS.out.thaw.2.2.2.1
     go_upto_region 16 with(fail)
     have hxr:=CJ.out.set (k:=w2.heap.size) (i:=3) (.string (strOf [])) (aX.out)
     have hxu:=uS.out.hst []
     have hb:=OH.out.setCell (p:=⟨w2.heap.size,3,none⟩) (fK.out) (.string (strOf []))
     clear CJ uS OH
     clear cx fx
     generalize World.setCell w10 _ _=w11 at hxr hxu hb⊢
     have OV:Hid (UB w11 (w.heap.size) (U0) (.slice none 0 0)):=hxr
     clear hxr
     have zG:Hid (UB w11 (w2.heap.size) ({U0 with au:=S,usr:=xe,MX:=ye,hh:=true,hst:=[]}) (.slice none 0 0)):=hxu
     clear hxu
     have Y1:=hid hb
     clear hb
     go_wp2_with fail
     refine(HPO.out _).mono ?_
     rintro e wx ⟨hv,hwx⟩
     obtain rfl:w11=wx:=hwx.symm
     clear hwx
     obtain⟨z,ok,rfl,hzo⟩:=EX hv
     clear hv
     have cx:=zG.out.facts.2.2.2.2.2.1
     have fx:=zG.out.thaw.2.2.2.2.2.1
     go_upto_region 17 with(fail)
     have hxr:=OV.out.set (k:=w2.heap.size) (i:=5) (.int .i64 z) (aX.out)
     have hxu:=zG.out.port z
     have hb:=Y1.out.setCell (p:=⟨w2.heap.size,5,none⟩) (fK.out) (.int .i64 z)
     clear OV zG Y1
     clear cx fx
     generalize World.setCell w11 _ _=w12 at hxr hxu hb⊢
     have CO:Hid (UB w12 (w.heap.size) (U0) (.slice none 0 0)):=hxr
     clear hxr
     have WH:Hid (UB w12 (w2.heap.size) ({U0 with au:=S,usr:=xe,MX:=ye,hh:=true,hst:=[],port:=z}) (.slice none 0 0)):=hxu
     clear hxu
     have Y2:=hid hb
     clear hb
     clear hzo
     go_wp2_with (refine aC CO.out U0 none 0 0 (.tmp 4) (.tmp 86) rfl rfl rfl rfl ?_)
     try simp only[Exit.inBlock,Exit.then]
     exact bodyPost_ret (w:=World.setRow w12 w.heap.size (cells U0 (.slice none 0 0))) (res2 (u:=U0) (p:=.slice none 0 0) rfl (CO.out.row U0 _) false _ rfl rfl) rfl (kH qc.out (below_setRow Y2.out bP.out _))
    |some R=>
     have Ti:Hid (O=match prt S H2 with|some p=>some {U0 with au:=S,usr:=xe,MX:=ye,hst:=R,hh:=true,port:=p,aO:=rooted S D}|none=>none):=by show _=_;rw[iV.out,hx];cases prt S H2<;>rfl
     rw[hx]at HH
     clear hx
     go_wp2_with fail
     refine(HH.out _ (HL.out.below Fe.out) (bY HT.out Fe.out) (HM.out.below Fe.out)).mono ?_
     rintro e w10 ⟨rfl,hbx⟩
     have CJ:=hid (Bg.out.below hbx)
     have uS:=hid (yt.out.below hbx)
     have OH:=hid (bel Fe.out hbx)
     clear Bg yt Fe
     clear hbx
     rw[show HV (some R)=.tuple #[.string (strOf R),.bool true]from rfl]
     have cx:=uS.out.facts.2.2.2.1
     have fx:=uS.out.thaw.2.2.2.1
     go_upto_region 16 with(fail)
     have hxr:=CJ.out.set (k:=w2.heap.size) (i:=3) (.string (strOf R)) (aX.out)
     have hxu:=uS.out.hst R
     have hb:=OH.out.setCell (p:=⟨w2.heap.size,3,none⟩) (fK.out) (.string (strOf R))
     clear CJ uS OH
     clear cx fx
     generalize World.setCell w10 _ _=w11 at hxr hxu hb⊢
     have OV:Hid (UB w11 (w.heap.size) (U0) (.slice none 0 0)):=hxr
     clear hxr
     have zG:Hid (UB w11 (w2.heap.size) ({U0 with au:=S,usr:=xe,MX:=ye,hh:=true,hst:=R}) (.slice none 0 0)):=hxu
     clear hxu
     have Y1:=hid hb
     clear hb
     go_wp2_with fail
     refine(HPO.out _).mono ?_
     rintro e wx ⟨hv,hwx⟩
     obtain rfl:w11=wx:=hwx.symm
     clear hwx
     obtain⟨z,ok,rfl,hzo⟩:=EX hv
     clear hv
     have cx:=zG.out.facts.2.2.2.2.2.1
     have fx:=zG.out.thaw.2.2.2.2.2.1
     go_upto_region 17 with(fail)
     have hxr:=OV.out.set (k:=w2.heap.size) (i:=5) (.int .i64 z) (aX.out)
     have hxu:=zG.out.port z
     have hb:=Y1.out.setCell (p:=⟨w2.heap.size,5,none⟩) (fK.out) (.int .i64 z)
     clear OV zG Y1
     clear cx fx
     generalize World.setCell w11 _ _=w12 at hxr hxu hb⊢
     have CO:Hid (UB w12 (w.heap.size) (U0) (.slice none 0 0)):=hxr
     clear hxr
     have WH:Hid (UB w12 (w2.heap.size) ({U0 with au:=S,usr:=xe,MX:=ye,hh:=true,hst:=R,port:=z}) (.slice none 0 0)):=hxu
     clear hxu
     have Y2:=hid hb
     clear hb
     rcases hzo with⟨hz,rfl⟩|⟨hz,rfl⟩
     ·
      have mX:Hid (O=some {U0 with au:=S,usr:=xe,MX:=ye,hst:=R,hh:=true,port:=z,aO:=rooted S D}):=by show _=_;rw[Ti.out,hz]
      clear hz
      go_wp2_with fail
      refine(UC.out _).mono ?_
      rintro e w13 ⟨q,rfl,hown,hbx⟩
      obtain⟨A,c2,rfl,hq⟩:=bW (u:={U0 with aO:=rooted S D}) hown
      clear hq
      replace hown:=ay hown (Nat.le_refl _)
      have zF:Hid (w2.heap.size<w12.heap.size):=WH.out.lt
      have iy:Hid (w.heap.size<w12.heap.size):=CO.out.lt
      have ajV:=hid (CO.out.below hbx)
      have WI:=hid (WH.out.below hbx)
      have HBw13:=hid (bel Y2.out hbx)
      have ajJ:=hid hown
      clear hown
      clear CO WH Y2
      clear hbx
      have BX:=zF.out
      have cx:=WI.out.facts.2.2.2.2.2.2.2.2.1
      have fx:=WI.out.thaw.2.2.2.2.2.2.2.2.1
      go_upto_region 20 with(fail)
      have hxr:=ajV.out.set (k:=w2.heap.size) (i:=8) (.slice A (rooted S D).length c2) (aX.out)
      have hxu:=WI.out.path (.slice A (rooted S D).length c2)
      have hoq:=gU.aN (w':=w13.setCell ⟨w2.heap.size,8,none⟩ (.slice A (rooted S D).length c2)) (gb:=w2.heap.size) ajJ.out (fun k hk=>heap_setCell_other _ _ _ _ hk) (by omega)
      have hb:=HBw13.out.setCell (p:=⟨w2.heap.size,8,none⟩) (fK.out) (.slice A (rooted S D).length c2)
      clear ajV WI ajJ HBw13
      clear cx fx
      generalize World.setCell w13 _ _=w14 at hxr hxu hoq hb⊢
      have ajW:Hid (UB w14 (w.heap.size) (U0) (.slice none 0 0)):=hxr
      clear hxr
      have HXuw14:Hid (UB w14 (w2.heap.size) ({U0 with au:=S,usr:=xe,MX:=ye,hh:=true,hst:=R,port:=z}) (.slice A (rooted S D).length c2)):=hxu
      clear hxu
      have HOqw14:=hid hoq
      clear hoq
      have HBw14:=hid hb
      clear hb
      clear BX
      obtain⟨c0,c1,c2',c3,c4,c5,c6,c7,c8,c9,c10,c11,c12⟩:=HXuw14.out.facts
      go_wp2_with (refine aC ajW.out {U0 with au:=S,usr:=xe,MX:=ye,hh:=true,hst:=R,port:=z} A (rooted S D).length c2 (.tmp 4) (.tmp 91) rfl rfl rfl rfl ?_)
      try simp only[Exit.inBlock,Exit.then]
      have hpo:∀k,k≠w.heap.size→(World.setRow w14 (w.heap.size) (cells {U0 with au:=S,usr:=xe,MX:=ye,hh:=true,hst:=R,port:=z} (.slice A (rooted S D).length c2))).heap[k]?=w14.heap[k]?:=fun k hk=>setRow_other _ _ _ _ hk
      have ho:=ay (gU.aN HOqw14.out hpo iy.out) (by have h1:=bP.out;have h2:=iy.out;omega:w.heap.size≤_)
      exact bodyPost_ret (w:=World.setRow w14 w.heap.size (cells {U0 with au:=S,usr:=xe,MX:=ye,hh:=true,hst:=R,port:=z} (.slice A (rooted S D).length c2))) (res2 (u:={U0 with au:=S,usr:=xe,MX:=ye,hh:=true,hst:=R,port:=z}) (p:=(.slice A (rooted S D).length c2)) rfl (ajW.out.row {U0 with au:=S,usr:=xe,MX:=ye,hh:=true,hst:=R,port:=z} _) true _ rfl rfl) rfl (eH (u:={U0 with au:=S,usr:=xe,MX:=ye,hst:=R,hh:=true,port:=z,aO:=rooted S D}) mX.out (below_setRow HBw14.out bP.out _) ho)
     ·
      have qc:Hid (O=none):=by show _=_;rw[Ti.out,hz]
      clear hz
      go_wp2_with (refine aC CO.out U0 none 0 0 (.tmp 4) (.tmp 86) rfl rfl rfl rfl ?_)
      try simp only[Exit.inBlock,Exit.then]
      exact bodyPost_ret (w:=World.setRow w12 w.heap.size (cells U0 (.slice none 0 0))) (res2 (u:=U0) (p:=.slice none 0 0) rfl (CO.out.row U0 _) false _ rfl rfl) rfl (kH qc.out (below_setRow Y2.out bP.out _))
end Go.Proofs.YtgamccijegollaaGreatDoor.yx
namespace Go.Proofs.YtgamccijegollaaGreatDoor.WV
open Go.RowKit Base Dp wS mW tK yx
def wG (o:Bool) (t:List UInt8):Int:=if o=true∧t=[98,108,97,110,107]then 3 else if o=true∧t=[115,114,99,100,111,99]then 4 else 5
def qI (u:U):Int:=if u.au=[100,97,116,97]then 0 else if u.au=[98,108,111,98]then 1 else if u.au=[102,105,108,101]then 2 else if u.au=[97,98,111,117,116]then wG u.opq u.txt else if u.au=[106,97,118,97,115,99,114,105,112,116]then 6 else 7
theorem ag3 (u:U) (A:Option Addr) (n c:Nat) (w:World):Calls Tryz.prog 111 #[.agg (cells u (.slice A n c))] w fun e w'=>e=.returned (.int .i64 (wG u.opq u.txt))∧Below w.heap.size w w':=by
 obtain⟨z,hz⟩:∃z,z=wG u.opq u.txt:=⟨_,rfl⟩
 rw[←hz]
 have HZ:=hid hz
 clear hz
 cases ho:u.opq with
 |false=>
  have HE:Hid (z=5):=by show _=_;rw[HZ.out];unfold wG;simp[ho]
  go_enter Tryz.func111,Tryz.ntmps111
  go_upto_region 1 with(fail)
  generalize hw:World.alloc w _=w1
  have h1:UB w1 w.heap.size u (.slice A n c)∧Below w.heap.size w w1:=by
   subst hw
   exact laid1 w _ _
  clear hw
  obtain⟨d0,d1,d2,d3,d4,d5,d6,d7,d8,d9,d10,d11,d12⟩:=h1.1.facts
  have HB:=hid h1.2
  clear h1
  rw[ho]at d6
  clear ho
  go_wp2
  go_ret
  exact⟨by rw[HE.out];first|done|rfl,HB.out⟩
 | true=>
  by_cases h0:u.txt=[98,108,97,110,107]
  ·
   have Z9:((strOf u.txt).toList==[98,108,97,110,107])=true:=by rw[aK,h0];first|done|rfl
   have aac:(strOf u.txt).toList=[98,108,97,110,107]:=by rw[aK,h0];first|done|rfl
   have HE:Hid (z=3):=by show _=_;rw[HZ.out];unfold wG;simp[ho,h0]
   clear h0
   go_enter Tryz.func111,Tryz.ntmps111
   go_upto_region 1 with(fail)
   generalize hw:World.alloc w _=w1
   have h1:UB w1 w.heap.size u (.slice A n c)∧Below w.heap.size w w1:=by
    subst hw
    exact laid1 w _ _
   clear hw
   obtain⟨d0,d1,d2,d3,d4,d5,d6,d7,d8,d9,d10,d11,d12⟩:=h1.1.facts
   have HB:=hid h1.2
   clear h1
   rw[ho]at d6
   clear ho
   go_wp2
   go_ret
   exact⟨by rw[HE.out];first|done|rfl,HB.out⟩
  ·
   have Z9:((strOf u.txt).toList==[98,108,97,110,107])=false:=by rw[aK,beq_eq_false_iff_ne];exact h0
   have aac:¬(strOf u.txt).toList=[98,108,97,110,107]:=by rw[aK];exact h0
   by_cases h1:u.txt=[115,114,99,100,111,99]
   ·
    have e0h1:((strOf u.txt).toList==[115,114,99,100,111,99])=true:=by rw[aK,h1];first|done|rfl
    have e1h1:(strOf u.txt).toList=[115,114,99,100,111,99]:=by rw[aK,h1];first|done|rfl
    have HE:Hid (z=4):=by show _=_;rw[HZ.out];unfold wG;simp[ho,h1]
    clear h0 h1
    go_enter Tryz.func111,Tryz.ntmps111
    go_upto_region 1 with(fail)
    generalize hw:World.alloc w _=w1
    have h1:UB w1 w.heap.size u (.slice A n c)∧Below w.heap.size w w1:=by
     subst hw
     exact laid1 w _ _
    clear hw
    obtain⟨d0,d1,d2,d3,d4,d5,d6,d7,d8,d9,d10,d11,d12⟩:=h1.1.facts
    have HB:=hid h1.2
    clear h1
    rw[ho]at d6
    clear ho
    go_wp2
    go_ret
    exact⟨by rw[HE.out];first|done|rfl,HB.out⟩
   ·
    have e0h1:((strOf u.txt).toList==[115,114,99,100,111,99])=false:=by rw[aK,beq_eq_false_iff_ne];exact h1
    have e1h1:¬(strOf u.txt).toList=[115,114,99,100,111,99]:=by rw[aK];exact h1
    have HE:Hid (z=5):=by show _=_;rw[HZ.out];unfold wG;simp[ho,h0,h1]
    clear h0 h1
    go_enter Tryz.func111,Tryz.ntmps111
    go_upto_region 1 with(fail)
    generalize hw:World.alloc w _=w1
    have h1:UB w1 w.heap.size u (.slice A n c)∧Below w.heap.size w w1:=by
     subst hw
     exact laid1 w _ _
    clear hw
    obtain⟨d0,d1,d2,d3,d4,d5,d6,d7,d8,d9,d10,d11,d12⟩:=h1.1.facts
    have HB:=hid h1.2
    clear h1
    rw[ho]at d6
    clear ho
    go_wp2
    go_ret
    exact⟨by rw[HE.out];first|done|rfl,HB.out⟩
theorem KY (u:U) (A:Option Addr) (n c:Nat) (w:World):Calls Tryz.prog 52 #[.agg (cells u (.slice A n c))] w fun e w'=>e=.returned (.int .i64 (qI u))∧Below w.heap.size w w':=by
 have HAB:=hid (fun w=>ag3 u A n c w)
 obtain⟨z,hz⟩:∃z,z=qI u:=⟨_,rfl⟩
 rw[←hz]
 have HZ:=hid hz
 clear hz
 by_cases h0:u.au=[100,97,116,97]
 ·
  have Z9:((strOf u.au).toList==[100,97,116,97])=true:=by rw[aK,h0];first|done|rfl
  have aac:(strOf u.au).toList=[100,97,116,97]:=by rw[aK,h0];first|done|rfl
  have HE:Hid (z=0):=by show _=_;rw[HZ.out];unfold qI;simp[h0]
  clear h0
  go_enter Tryz.func52,Tryz.ntmps52
  go_upto_region 1 with(fail)
  generalize hw:World.alloc w _=w1
  have h1:UB w1 w.heap.size u (.slice A n c)∧Below w.heap.size w w1:=by
   subst hw
   exact laid1 w _ _
  clear hw
  obtain⟨d0,d1,d2,d3,d4,d5,d6,d7,d8,d9,d10,d11,d12⟩:=h1.1.facts
  have HB:=hid h1.2
  clear h1
  go_wp2
  go_ret
  exact⟨by rw[HE.out];first|done|rfl,HB.out⟩
 ·
  have Z9:((strOf u.au).toList==[100,97,116,97])=false:=by rw[aK,beq_eq_false_iff_ne];exact h0
  have aac:¬(strOf u.au).toList=[100,97,116,97]:=by rw[aK];exact h0
  by_cases h1:u.au=[98,108,111,98]
  ·
   have e0h1:((strOf u.au).toList==[98,108,111,98])=true:=by rw[aK,h1];first|done|rfl
   have e1h1:(strOf u.au).toList=[98,108,111,98]:=by rw[aK,h1];first|done|rfl
   have HE:Hid (z=1):=by show _=_;rw[HZ.out];unfold qI;simp[h0,h1]
   clear h0 h1
   go_enter Tryz.func52,Tryz.ntmps52
   go_upto_region 1 with(fail)
   generalize hw:World.alloc w _=w1
   have h1:UB w1 w.heap.size u (.slice A n c)∧Below w.heap.size w w1:=by
    subst hw
    exact laid1 w _ _
   clear hw
   obtain⟨d0,d1,d2,d3,d4,d5,d6,d7,d8,d9,d10,d11,d12⟩:=h1.1.facts
   have HB:=hid h1.2
   clear h1
   go_wp2
   go_ret
   exact⟨by rw[HE.out];first|done|rfl,HB.out⟩
  ·
   have e0h1:((strOf u.au).toList==[98,108,111,98])=false:=by rw[aK,beq_eq_false_iff_ne];exact h1
   have e1h1:¬(strOf u.au).toList=[98,108,111,98]:=by rw[aK];exact h1
   by_cases h2:u.au=[102,105,108,101]
   ·
        have e0h2:((strOf u.au).toList==[102,105,108,101])=true:=by rw[aK,h2];first|done|rfl
        have e1h2:(strOf u.au).toList=[102,105,108,101]:=by rw[aK,h2];first|done|rfl
        have HE:Hid (z=2):=by show _=_;rw[HZ.out];unfold qI;simp[h0,h1,h2]
        clear h0 h1 h2
        go_enter Tryz.func52,Tryz.ntmps52
        go_upto_region 1 with(fail)
        generalize hw:World.alloc w _=w1
        have h1:UB w1 w.heap.size u (.slice A n c)∧Below w.heap.size w w1:=by
         subst hw
         exact laid1 w _ _
        clear hw
        obtain⟨d0,d1,d2,d3,d4,d5,d6,d7,d8,d9,d10,d11,d12⟩:=h1.1.facts
        have HB:=hid h1.2
        clear h1
        go_wp2
        go_ret
        exact⟨by rw[HE.out];first|done|rfl,HB.out⟩
   ·
        have e0h2:((strOf u.au).toList==[102,105,108,101])=false:=by rw[aK,beq_eq_false_iff_ne];exact h2
        have e1h2:¬(strOf u.au).toList=[102,105,108,101]:=by rw[aK];exact h2
        by_cases h3:u.au=[97,98,111,117,116]
        ·
         have e0h3:((strOf u.au).toList==[97,98,111,117,116])=true:=by rw[aK,h3];first|done|rfl
         have e1h3:(strOf u.au).toList=[97,98,111,117,116]:=by rw[aK,h3];first|done|rfl
         have HE:Hid (z=wG u.opq u.txt):=by show _=_;rw[HZ.out];unfold qI;simp[h0,h1,h2,h3]
         clear h0 h1 h2 h3
         go_enter Tryz.func52,Tryz.ntmps52
         go_upto_region 1 with(fail)
         generalize hw:World.alloc w _=w1
         have h1:UB w1 w.heap.size u (.slice A n c)∧Below w.heap.size w w1:=by
          subst hw
          exact laid1 w _ _
         clear hw
         obtain⟨d0,d1,d2,d3,d4,d5,d6,d7,d8,d9,d10,d11,d12⟩:=h1.1.facts
         have HB:=hid h1.2
         clear h1
         go_wp2_with fail
         clear d0 d1 d2 d3 d4 d5 d6 d7 d8 d9 d10 d11 d12
         refine(HAB.out _).mono ?_
         rintro e w2 ⟨rfl,hb2⟩
         have HB2:=hid (bel HB.out hb2)
         clear hb2
         go_wp2
         go_ret
         exact⟨by rw[HE.out];first|done|rfl,HB2.out⟩
        ·
         have e0h3:((strOf u.au).toList==[97,98,111,117,116])=false:=by rw[aK,beq_eq_false_iff_ne];exact h3
         have e1h3:¬(strOf u.au).toList=[97,98,111,117,116]:=by rw[aK];exact h3
         by_cases h4:u.au=[106,97,118,97,115,99,114,105,112,116]
         ·
          have e0h4:((strOf u.au).toList==[106,97,118,97,115,99,114,105,112,116])=true:=by rw[aK,h4];first|done|rfl
          have e1h4:(strOf u.au).toList=[106,97,118,97,115,99,114,105,112,116]:=by rw[aK,h4];first|done|rfl
          have HE:Hid (z=6):=by show _=_;rw[HZ.out];unfold qI;simp[h0,h1,h2,h3,h4]
          clear h0 h1 h2 h3 h4
          go_enter Tryz.func52,Tryz.ntmps52
          go_upto_region 1 with(fail)
          generalize hw:World.alloc w _=w1
          have h1:UB w1 w.heap.size u (.slice A n c)∧Below w.heap.size w w1:=by
           subst hw
           exact laid1 w _ _
          clear hw
          obtain⟨d0,d1,d2,d3,d4,d5,d6,d7,d8,d9,d10,d11,d12⟩:=h1.1.facts
          have HB:=hid h1.2
          clear h1
          go_wp2
          go_ret
          exact⟨by rw[HE.out];first|done|rfl,HB.out⟩
         ·
          have e0h4:((strOf u.au).toList==[106,97,118,97,115,99,114,105,112,116])=false:=by rw[aK,beq_eq_false_iff_ne];exact h4
          have e1h4:¬(strOf u.au).toList=[106,97,118,97,115,99,114,105,112,116]:=by rw[aK];exact h4
          have HE:Hid (z=7):=by show _=_;rw[HZ.out];unfold qI;simp[h0,h1,h2,h3,h4]
          clear h0 h1 h2 h3 h4
          go_enter Tryz.func52,Tryz.ntmps52
          go_upto_region 1 with(fail)
          generalize hw:World.alloc w _=w1
          have h1:UB w1 w.heap.size u (.slice A n c)∧Below w.heap.size w w1:=by
           subst hw
           exact laid1 w _ _
          clear hw
          obtain⟨d0,d1,d2,d3,d4,d5,d6,d7,d8,d9,d10,d11,d12⟩:=h1.1.facts
          have HB:=hid h1.2
          clear h1
          go_wp2
          go_ret
          exact⟨by rw[HE.out];first|done|rfl,HB.out⟩
end Go.Proofs.YtgamccijegollaaGreatDoor.WV
namespace Go.Proofs.YtgamccijegollaaGreatDoor.TbB
open Go.RowKit Base Dp acj L6 uw
theorem new_any (n:Nat) (h1:1≤n) (h2:n≤64) (w:World):Calls Tryz.prog 104 #[.int .i64 (n:Int)] w fun e w'=>∃g,e=.returned (.tuple #[.pointer (some ⟨g,0,none⟩),.int .i64 0])∧Ny 251 368 (uw.nT) w.heap.size g n 0 [] w'∧Below w.heap.size w w':=by
 have q1:¬(n:Int)<1:=by omega
 have q2:¬(64:Int)<(n:Int):=by omega
 go_enter Tryz.func104,Tryz.ntmps104
 go_wp2
 go_ret2
 exact⟨_,rfl,⟨_,heap_alloc_new w _,World.ownsRow_nil _ _ _ _,Nat.le_refl _⟩,(Below.refl _ _).alloc (Nat.le_refl _) _⟩
end Go.Proofs.YtgamccijegollaaGreatDoor.TbB
namespace Go.Proofs.YtgamccijegollaaGreatDoor.WX
open Go.RowKit Base Dp acj L6 uw xH Kq mW ES
theorem nI {w:World} {g:Nat} {s h:ByteArray} {p n:Int} (x:OB w g s h p n):(loadVar 38 ⟨g,0,none⟩).run Tryz.prog w=.ok (.agg #[.string s,.string h,.int .i64 p,.int .i64 n]) w:=
 run_loadVar_row w g _ _ #[.string s,.string h,.int .i64 p,.int .i64 n] (0,0) _ x Tryz.underlying38 rfl (by kernel_rfl)
theorem new_any (n:Nat) (h1:1≤n) (h2:n≤64) (w:World):Calls Tryz.prog 95 #[.int .i64 (n:Int)] w fun e w'=>∃g,e=.returned (.tuple #[.pointer (some ⟨g,0,none⟩),.int .i64 0])∧IsS 225 227 (uw.nT) w.heap.size g n [] w'∧Below w.heap.size w w':=by
 have q1:¬(n:Int)<1:=by omega
 have q2:¬(64:Int)<(n:Int):=by omega
 go_enter Tryz.func95,Tryz.ntmps95
 go_wp2
 go_ret2
 exact⟨_,rfl,⟨_,heap_alloc_new w _,World.ownsRow_nil _ _ _ _,Nat.le_refl _⟩,(Below.refl _ _).alloc (Nat.le_refl _) _⟩
end Go.Proofs.YtgamccijegollaaGreatDoor.WX
namespace Go.Proofs.YtgamccijegollaaGreatDoor.MaiA
open Go.Conc Go.RowKit Base Dp
def M2 (t:TypeId) (w:World) (g cu cp:Nat):Prop:=w.heap[g]?=some (.cells #[.chan (some cu),.chan (some cp)] t (0,0))
def Box (w:World) (c cap:Nat) (buf:Array Value) (s r:Nat):Prop:=w.heap[c]?=some (.chan cap buf false s r false)
end Go.Proofs.YtgamccijegollaaGreatDoor.MaiA
namespace Go.Proofs.YtgamccijegollaaGreatDoor.ajY
open Go.Conc Go.RowKit Base Dp MaiA
def MS (t:TypeId) (B:Nat) (w:World) (g cap:Nat) (U P:List Value):Prop:=∃cu cp s r s' r',M2 t w g cu cp∧Box w cu cap U.toArray s r∧Box w cp cap P.toArray s' r'∧cu≠cp∧B≤g∧B≤cu∧B≤cp
theorem akX {w:World} {c cap s r:Nat} {buf:Array Value} (h:Box w c cap buf s r):c<w.heap.size:=(Array.getElem?_eq_some_iff.1 h).1
theorem m2_lt {t:TypeId} {w:World} {g cu cp:Nat} (h:M2 t w g cu cp):g<w.heap.size:=(Array.getElem?_eq_some_iff.1 h).1
theorem MS.below {t:TypeId} {B:Nat} {w w':World} {g cap:Nat} {U P:List Value} (h:MS t B w g cap U P) (hb:Below w.heap.size w w'):MS t B w' g cap U P:=by
 obtain⟨cu,cp,s,r,s',r',h1,h2,h3,rest⟩:=h
 exact⟨cu,cp,s,r,s',r',(hb.block _ (m2_lt h1)).trans h1,(hb.block _ (akX h2)).trans h2,(hb.block _ (akX h3)).trans h3,rest⟩
theorem abW (w:World) (a b c:Obj):((((w.alloc a).alloc b).alloc c).heap[w.heap.size]?=some a∧(((w.alloc a).alloc b).alloc c).heap[w.heap.size+1]?=some b∧(((w.alloc a).alloc b).alloc c).heap[w.heap.size+2]?=some c):=by
 refine⟨?_,?_,?_⟩
 ·rw[Below.heap_alloc _ _ _ (by simp;omega),Below.heap_alloc _ _ _ (by simp)];exact heap_alloc_new w _
 ·rw[Below.heap_alloc _ _ _ (by simp)]
  have:=heap_alloc_new (w.alloc a) b
  simpa only[World.size_alloc]using this
 have:=heap_alloc_new ((w.alloc a).alloc b) c
 simpa only[World.size_alloc]using this
theorem infoS:∃i,Tryz.prog.info? 9=some i∧i.bytes=16:=by
 have h:(Tryz.prog.info? 9).map (·.bytes)=some 16:=by kernel_rfl
 obtain⟨i,hi,hb⟩:=Option.map_eq_some_iff.1 h
 exact⟨i,hi,hb⟩
theorem mkS (n:Nat) (hn:n≤64) (w:World):(Instr.makeChan 252 (.int .i64 (n:Int))).run Tryz.prog w=.ok (.chan (some w.heap.size)) (w.alloc (.chan n #[] false 0 0 false)):=by
 obtain⟨i,hi,hb⟩:=infoS
 exact run_makeChan (P:=Tryz.prog) (w:=w) Tryz.underlying252 hi .i64 n (by omega) (by rw[hb];omega)
theorem newS (n:Nat) (h1:1≤n) (hn:n≤64) (w:World):Calls Tryz.prog 105 #[.int .i64 (n:Int)] w fun e w'=>∃g,e=.returned (.tuple #[.pointer (some ⟨g,0,none⟩),.int .i64 0])∧MS 254 w.heap.size w' g n [] []∧Below w.heap.size w w':=by
 have hmc:=mkS n hn
 have h1i:¬(n:Int)<1:=by omega
 have h2i:¬(64:Int)<(n:Int):=by omega
 go_enter Tryz.func105,Tryz.ntmps105
 go_wp2_with fail
 go_region
 ·go_wp2
  go_ret2
  obtain⟨t0,t1,t2⟩:=abW w (.chan n #[] false 0 0 false) (.chan n #[] false 0 0 false) (.cells #[.chan (some w.heap.size),.chan (some (w.heap.size+1))] 254 (0,0))
  exact⟨_,rfl,⟨_,_,0,0,0,0,t2,t0,t1,by omega,by omega,by omega,by omega⟩,((((Below.refl _ _).alloc (Nat.le_refl _) _).alloc (by simp) _).alloc (by simp;omega) _).drew⟩
 go_wp2
 go_ret2
 obtain⟨t0,t1,t2⟩:=abW w (.chan n #[] false 0 0 false) (.chan n #[] false 0 0 false) (.cells #[.chan (some (w.heap.size+1)),.chan (some w.heap.size)] 254 (0,0))
 exact⟨_,rfl,⟨_,_,0,0,0,0,t2,t1,t0,by omega,by omega,by omega,by omega⟩,((((Below.refl _ _).alloc (Nat.le_refl _) _).alloc (by simp) _).alloc (by simp;omega) _).drew⟩
end Go.Proofs.YtgamccijegollaaGreatDoor.ajY
namespace Go.Proofs.YtgamccijegollaaGreatDoor.TL
open Go.RowKit Base Dp uw xH iH ajY
structure SM where
 bytes:Nat
 qo:Nat
 Ep:Nat
 last:Nat
 kY:List (Nat×Nat)
 urls:List (Bc Nat)
 U:List Value
 P:List Value
 bl:Nat→List UInt8×List UInt8
def total (m:SM):Nat:=(m.kY.map fun p=>(m.bl p.2).1.length).sum
def Live (m:SM) (g:Nat):Prop:=(∃p ∈ m.kY,p.2=g)∨∃e ∈ m.urls,e.x=g
structure Fit (m:SM):Prop where
 tn:m.kY.length≤m.qo
 b64:m.qo≤64
 un:m.urls.length≤m.Ep
 u64:m.Ep≤64
 sum:total m≤m.bytes
 cap:m.bytes≤1048576
 ord:∀i j (hi:i<m.kY.length) (hj:j<m.kY.length),i<j→m.kY[i].1<m.kY[j].1
 top:∀p ∈ m.kY,1≤p.1∧p.1≤m.last
abbrev TT:TypeId:=251
abbrev TE:TypeId:=368
abbrev ST:TypeId:=225
abbrev SE:TypeId:=227
structure Bh (B gs gt gu gm:Nat) (m:SM) (w:World):Prop where
 top:w.heap[gs]?=some (.cells #[.int .i64 (m.bytes:Int),.pointer (some ⟨gt,0,none⟩),.pointer (some ⟨gu,0,none⟩),.pointer (some ⟨gm,0,none⟩)] 165 (0,0))
 tab:Ny TT TE uw.nT B gt m.qo m.last m.kY w
 sto:IsS ST SE uw.nT B gu m.Ep m.urls w
 mai:MS 254 B w gm m.Ep m.U m.P
 blo:∀g,Live m g→iH B w g (m.bl g).1 (m.bl g).2
 lo:B≤gs
 fit:Fit m
section
variable {B gs gt gu gm:Nat} {m:SM} {w w':World}
end
end Go.Proofs.YtgamccijegollaaGreatDoor.TL
namespace Go.Proofs.YtgamccijegollaaGreatDoor.akM
open Go.RowKit Base Dp L6 Kq mW wS ES uw xH WX akL ajr TL
theorem aaj (li sp:Value) (T:List UInt8) (u:U) (s h:ByteArray) (p n:Int) (w:World)
  (HP:Hid (∀w',Below w.heap.size w w'→Calls Tryz.prog 16 #[.string (strOf T),.pointer none] w' fun e w''=>∃A n' c,e=.returned (.tuple #[.agg (cells u (.slice A n' c)),.int .i64 0])∧dR w'' u A n' c∧Below w'.heap.size w' w''))
  (hz:WV.qI u=3):
  Calls Tryz.prog 45 #[li,.string (strOf T),.agg #[.string s,.string h,.int .i64 p,.int .i64 n],sp] w fun e w'=>e=.returned (.agg #[.int .i64 3,.int .i64 200,.int .i64 0,.int .i64 0,.string ⟨#[116,101,120,116,47,104,116,109,108,59,99,104,97,114,115,101,116,61,117,116,102,45,56]⟩,.slice none 0 0])∧Below w.heap.size w w':=by
 have HZ:=hid hz
 clear hz
 go_enter Tryz.func45,Tryz.ntmps45
 go_upto_region 1 with(fail)
 generalize bI:World.alloc (World.alloc w _) _=v1
 have h1_:OB v1 w.heap.size s h p n∧AB v1 (w.heap.size+1) #[.int .i64 0,.int .i64 0,.int .i64 0,.int .i64 0,.string ⟨#[]⟩,.slice none 0 0]∧Below w.heap.size w v1:=by
  subst bI
  exact laid2 w _ _ _ _
 clear bI
 have ZE:=hid h1_.1
 have Po:=hid h1_.2.1
 have HB1:=hid h1_.2.2
 clear h1_
 go_wp2_with fail
 refine(HP.out _ HB1.out).mono ?_
 rintro e v2 ⟨A,n',c,rfl,hpt,hb2⟩
 have XO2:=hid (ZE.out.below hb2)
 have Pq:=hid (Po.out.below hb2)
 have HB2:=hid (bel HB1.out hb2)
 have Zc:=hid hpt
 clear ZE Po HB1 hb2 hpt
 rw[show Value.agg (cells u (.slice A n' c))=.agg #[.string (strOf u.au),.string (strOf u.usr),.string (strOf u.MX),.string (strOf u.hst),.bool u.hh,.int .i64 u.port,.bool u.opq,.string (strOf u.txt),.slice A n' c,.bool u.hq,.bool u.hf,.string (strOf u.dY),.string (strOf u.fB)]from rfl]
 go_upto_region 4 with(fail)
 generalize bI:World.alloc v2 _=v3
 have h3_:UB v3 v2.heap.size u (.slice A n' c)∧Below v2.heap.size v2 v3:=by
  subst bI
  exact laid1 v2 _ _
 clear bI
 have XO3:=hid (XO2.out.below h3_.2)
 have NZ:=hid (Pq.out.below h3_.2)
 have HB3:=hid (bel HB2.out h3_.2)
 have Zd:=hid (dR.below Zc.out h3_.2)
 have ZG:=hid h3_.1
 clear h3_ XO2 Pq HB2 Zc
 have SA:=hid ZG.out.load
 go_wp2_with (refine fJ SA.out (.tmp 9) rfl rfl rfl ?_)
 refine(WV.KY u A n' c _).mono ?_
 rw[HZ.out]
 rintro e v4 ⟨rfl,hb4⟩
 have XO4:=hid (XO3.out.below hb4)
 have Pv:=hid (NZ.out.below hb4)
 have HB4:=hid (bel HB3.out hb4)
 have Ze:=hid (dR.below Zd.out hb4)
 have XU4:=hid (ZG.out.below hb4)
 clear XO3 NZ HB3 Zd ZG SA hb4
 go_upto_region 5 with(fail)
 generalize bI:World.alloc v4 _=v5
 have h5_:AB v5 v4.heap.size #[.int .i64 3,.int .i64 0,.int .i64 0,.int .i64 0,.string ⟨#[]⟩,.slice none 0 0]∧Below v4.heap.size v4 v5:=by
  subst bI
  exact laid1 v4 _ _
 clear bI
 have XO5:=hid (XO4.out.below h5_.2)
 have ZF:=hid (Pv.out.below h5_.2)
 have iG:=hid (bel HB4.out h5_.2)
 have acF:=hid (dR.below Ze.out h5_.2)
 have XU5:=hid (XU4.out.below h5_.2)
 have Xc:=hid h5_.1
 have X7:Hid (w.heap.size+1<v4.heap.size):=Pv.out.lt
 clear h5_ XO4 Pv HB4 Ze XU4
 obtain⟨a0,a1,a2,a3,a4,a5⟩:=Xc.out.facts
 obtain⟨f0,f1,f2,f3,f4,f5⟩:=Xc.out.thaw
 go_upto_region 14 with(fail)
 have hx:AB ((v5.setCell ⟨v4.heap.size,1,none⟩ (.int .i64 200)).setCell ⟨v4.heap.size,4,none⟩ (.string ⟨#[116,101,120,116,47,104,116,109,108,59,99,104,97,114,115,101,116,61,117,116,102,45,56]⟩)) v4.heap.size #[.int .i64 3,.int .i64 200,.int .i64 0,.int .i64 0,.string ⟨#[116,101,120,116,47,104,116,109,108,59,99,104,97,114,115,101,116,61,117,116,102,45,56]⟩,.slice none 0 0]:=(Xc.out.set 1 _).set 4 _
 have hr:AB ((v5.setCell ⟨v4.heap.size,1,none⟩ (.int .i64 200)).setCell ⟨v4.heap.size,4,none⟩ (.string ⟨#[116,101,120,116,47,104,116,109,108,59,99,104,97,114,115,101,116,61,117,116,102,45,56]⟩)) (w.heap.size+1) #[.int .i64 0,.int .i64 0,.int .i64 0,.int .i64 0,.string ⟨#[]⟩,.slice none 0 0]:=(ZF.out.Rx _ (by have:=X7.out;omega)).Rx _ (by have:=X7.out;omega)
 have hb:Below w.heap.size w ((v5.setCell ⟨v4.heap.size,1,none⟩ (.int .i64 200)).setCell ⟨v4.heap.size,4,none⟩ (.string ⟨#[116,101,120,116,47,104,116,109,108,59,99,104,97,114,115,101,116,61,117,116,102,45,56]⟩)):=(iG.out.setCell (p:=⟨v4.heap.size,1,none⟩) (by have:=X7.out;show w.heap.size≤v4.heap.size;omega) _).setCell (p:=⟨v4.heap.size,4,none⟩) (by have:=X7.out;show w.heap.size≤v4.heap.size;omega) _
 generalize (v5.setCell _ _).setCell _ _=v6 at hx hr hb⊢
 have XA6:=hid hx
 have dB:=hid hr
 have nN:=hid hb
 clear hx hr hb Xc ZF iG XO5 XU5 acF a0 a1 a2 a3 a4 a5 f0 f1 f2 f3 f4 f5
 have Uy:=hid (XA6.out.load rfl)
 go_wp2_with (first|refine fJ Uy.out (.tmp 11) rfl rfl rfl ?_|refine sG dB.out #[.int .i64 3,.int .i64 200,.int .i64 0,.int .i64 0,.string ⟨#[116,101,120,116,47,104,116,109,108,59,99,104,97,114,115,101,116,61,117,116,102,45,56]⟩,.slice none 0 0] rfl rfl (by simp[Value.oneCell']) (.tmp 8) (.tmp 50) rfl rfl rfl rfl ?_)
 try simp only[Exit.inBlock,Exit.then]
 exact bodyPost_ret (w:=World.setRow v6 (w.heap.size+1) #[.int .i64 3,.int .i64 200,.int .i64 0,.int .i64 0,.string ⟨#[116,101,120,116,47,104,116,109,108,59,99,104,97,114,115,101,116,61,117,116,102,45,56]⟩,.slice none 0 0]) (abo rfl (AB.row dB.out _) rfl _ rfl) rfl ⟨rfl,below_setRow nN.out (Nat.le_succ w.heap.size) _⟩
theorem Qh (li sp:Value) (T:List UInt8) (u:U) (s h:ByteArray) (p n:Int) (w:World)
  (HP:Hid (∀w',Below w.heap.size w w'→Calls Tryz.prog 16 #[.string (strOf T),.pointer none] w' fun e w''=>∃A n' c,e=.returned (.tuple #[.agg (cells u (.slice A n' c)),.int .i64 0])∧dR w'' u A n' c∧Below w'.heap.size w' w''))
  (hz:WV.qI u=1) (HF:Hid (∀(A:Option Addr) (n' c:Nat) (w':World),Below w.heap.size w w'→dR w' u A n' c→Calls Tryz.prog 101 #[li,.agg (cells u (.slice A n' c)),.agg #[.string s,.string h,.int .i64 p,.int .i64 n]] w' fun e w''=>e=.returned (.tuple #[.pointer none,.bool false])∧Below w'.heap.size w' w'')):
  Calls Tryz.prog 45 #[li,.string (strOf T),.agg #[.string s,.string h,.int .i64 p,.int .i64 n],sp] w fun e w'=>e=.returned (.agg #[.int .i64 1,.int .i64 0,.int .i64 0,.int .i64 0,.string ⟨#[]⟩,.slice none 0 0])∧Below w.heap.size w w':=by
 have HZ:=hid hz
 clear hz
 go_enter Tryz.func45,Tryz.ntmps45
 go_upto_region 1 with(fail)
 generalize bI:World.alloc (World.alloc w _) _=v1
 have h1_:OB v1 w.heap.size s h p n∧AB v1 (w.heap.size+1) #[.int .i64 0,.int .i64 0,.int .i64 0,.int .i64 0,.string ⟨#[]⟩,.slice none 0 0]∧Below w.heap.size w v1:=by
  subst bI
  exact laid2 w _ _ _ _
 clear bI
 have ZE:=hid h1_.1
 have Po:=hid h1_.2.1
 have HB1:=hid h1_.2.2
 clear h1_
 go_wp2_with fail
 refine(HP.out _ HB1.out).mono ?_
 rintro e v2 ⟨A,n',c,rfl,hpt,hb2⟩
 have XO2:=hid (ZE.out.below hb2)
 have Pq:=hid (Po.out.below hb2)
 have HB2:=hid (bel HB1.out hb2)
 have Zc:=hid hpt
 clear ZE Po HB1 hb2 hpt
 rw[show Value.agg (cells u (.slice A n' c))=.agg #[.string (strOf u.au),.string (strOf u.usr),.string (strOf u.MX),.string (strOf u.hst),.bool u.hh,.int .i64 u.port,.bool u.opq,.string (strOf u.txt),.slice A n' c,.bool u.hq,.bool u.hf,.string (strOf u.dY),.string (strOf u.fB)]from rfl]
 go_upto_region 4 with(fail)
 generalize bI:World.alloc v2 _=v3
 have h3_:UB v3 v2.heap.size u (.slice A n' c)∧Below v2.heap.size v2 v3:=by
  subst bI
  exact laid1 v2 _ _
 clear bI
 have XO3:=hid (XO2.out.below h3_.2)
 have NZ:=hid (Pq.out.below h3_.2)
 have HB3:=hid (bel HB2.out h3_.2)
 have Zd:=hid (dR.below Zc.out h3_.2)
 have ZG:=hid h3_.1
 clear h3_ XO2 Pq HB2 Zc
 have SA:=hid ZG.out.load
 go_wp2_with (refine fJ SA.out (.tmp 9) rfl rfl rfl ?_)
 refine(WV.KY u A n' c _).mono ?_
 rw[HZ.out]
 rintro e v4 ⟨rfl,hb4⟩
 have XO4:=hid (XO3.out.below hb4)
 have Pv:=hid (NZ.out.below hb4)
 have HB4:=hid (bel HB3.out hb4)
 have Ze:=hid (dR.below Zd.out hb4)
 have XU4:=hid (ZG.out.below hb4)
 clear XO3 NZ HB3 Zd ZG SA hb4
 go_upto_region 5 with(fail)
 generalize bI:World.alloc v4 _=v5
 have h5_:AB v5 v4.heap.size #[.int .i64 1,.int .i64 0,.int .i64 0,.int .i64 0,.string ⟨#[]⟩,.slice none 0 0]∧Below v4.heap.size v4 v5:=by
  subst bI
  exact laid1 v4 _ _
 clear bI
 have XO5:=hid (XO4.out.below h5_.2)
 have ZF:=hid (Pv.out.below h5_.2)
 have iG:=hid (bel HB4.out h5_.2)
 have acF:=hid (dR.below Ze.out h5_.2)
 have XU5:=hid (XU4.out.below h5_.2)
 have Xc:=hid h5_.1
 have X7:Hid (w.heap.size+1<v4.heap.size):=Pv.out.lt
 clear h5_ XO4 Pv HB4 Ze XU4
 obtain⟨a0,a1,a2,a3,a4,a5⟩:=Xc.out.facts
 have SA:=hid XU5.out.load
 have pY:=hid (nI XO5.out)
 go_wp2_with (first|refine fJ SA.out (.tmp 9) rfl rfl rfl ?_|refine fJ pY.out (.tmp 6) rfl rfl rfl ?_)
 refine(HF.out A n' c _ iG.out acF.out).mono ?_
 rintro e v6 ⟨rfl,hb6⟩
 have XA6:=hid (Xc.out.below hb6)
 have dB:=hid (ZF.out.below hb6)
 have nN:=hid (bel iG.out hb6)
 clear Xc ZF iG XO5 XU5 acF SA pY hb6 a0 a1 a2 a3 a4 a5
 have Uy:=hid (XA6.out.load rfl)
 go_wp2_with (first|refine fJ Uy.out (.tmp 11) rfl rfl rfl ?_|refine sG dB.out #[.int .i64 1,.int .i64 0,.int .i64 0,.int .i64 0,.string ⟨#[]⟩,.slice none 0 0] rfl rfl (by simp[Value.oneCell']) (.tmp 8) (.tmp 50) rfl rfl rfl rfl ?_)
 try simp only[Exit.inBlock,Exit.then]
 exact bodyPost_ret (w:=World.setRow v6 (w.heap.size+1) #[.int .i64 1,.int .i64 0,.int .i64 0,.int .i64 0,.string ⟨#[]⟩,.slice none 0 0]) (abo rfl (AB.row dB.out _) rfl _ rfl) rfl ⟨rfl,below_setRow nN.out (Nat.le_succ w.heap.size) _⟩
end Go.Proofs.YtgamccijegollaaGreatDoor.akM
namespace Go.Proofs.YtgamccijegollaaGreatDoor.FetD
open Go.RowKit Base Dp L6 Kq mW wS ES uw xH WX akL ajr TL akM
theorem ai1 (li sp:Value) (T:List UInt8) (u:U) (s h:ByteArray) (p n:Int) (w:World)
  (HP:Hid (∀w',Below w.heap.size w w'→Calls Tryz.prog 16 #[.string (strOf T),.pointer none] w' fun e w''=>∃A n' c,e=.returned (.tuple #[.agg (cells u (.slice A n' c)),.int .i64 0])∧dR w'' u A n' c∧Below w'.heap.size w' w''))
  (z:Int) (hz:WV.qI u=z) (h0:(z==0)=false) (h1:(z==1)=false) (h3:(z==3)=false):
  Calls Tryz.prog 45 #[li,.string (strOf T),.agg #[.string s,.string h,.int .i64 p,.int .i64 n],sp] w fun e w'=>e=.returned (.agg #[.int .i64 z,.int .i64 0,.int .i64 0,.int .i64 0,.string ⟨#[]⟩,.slice none 0 0])∧Below w.heap.size w w':=by
 have HZ:=hid hz
 clear hz
 go_enter Tryz.func45,Tryz.ntmps45
 go_upto_region 1 with(fail)
 generalize bI:World.alloc (World.alloc w _) _=v1
 have h1_:OB v1 w.heap.size s h p n∧AB v1 (w.heap.size+1) #[.int .i64 0,.int .i64 0,.int .i64 0,.int .i64 0,.string ⟨#[]⟩,.slice none 0 0]∧Below w.heap.size w v1:=by
  subst bI
  exact laid2 w _ _ _ _
 clear bI
 have ZE:=hid h1_.1
 have Po:=hid h1_.2.1
 have HB1:=hid h1_.2.2
 clear h1_
 go_wp2_with fail
 refine(HP.out _ HB1.out).mono ?_
 rintro e v2 ⟨A,n',c,rfl,hpt,hb2⟩
 have XO2:=hid (ZE.out.below hb2)
 have Pq:=hid (Po.out.below hb2)
 have HB2:=hid (bel HB1.out hb2)
 have Zc:=hid hpt
 clear ZE Po HB1 hb2 hpt
 rw[show Value.agg (cells u (.slice A n' c))=.agg #[.string (strOf u.au),.string (strOf u.usr),.string (strOf u.MX),.string (strOf u.hst),.bool u.hh,.int .i64 u.port,.bool u.opq,.string (strOf u.txt),.slice A n' c,.bool u.hq,.bool u.hf,.string (strOf u.dY),.string (strOf u.fB)]from rfl]
 go_upto_region 4 with(fail)
 generalize bI:World.alloc v2 _=v3
 have h3_:UB v3 v2.heap.size u (.slice A n' c)∧Below v2.heap.size v2 v3:=by
  subst bI
  exact laid1 v2 _ _
 clear bI
 have XO3:=hid (XO2.out.below h3_.2)
 have NZ:=hid (Pq.out.below h3_.2)
 have HB3:=hid (bel HB2.out h3_.2)
 have Zd:=hid (dR.below Zc.out h3_.2)
 have ZG:=hid h3_.1
 clear h3_ XO2 Pq HB2 Zc
 have SA:=hid ZG.out.load
 go_wp2_with (refine fJ SA.out (.tmp 9) rfl rfl rfl ?_)
 refine(WV.KY u A n' c _).mono ?_
 rw[HZ.out]
 rintro e v4 ⟨rfl,hb4⟩
 have XO4:=hid (XO3.out.below hb4)
 have Pv:=hid (NZ.out.below hb4)
 have HB4:=hid (bel HB3.out hb4)
 have Ze:=hid (dR.below Zd.out hb4)
 have XU4:=hid (ZG.out.below hb4)
 clear XO3 NZ HB3 Zd ZG SA hb4
 go_upto_region 5 with(fail)
 generalize bI:World.alloc v4 _=v5
 have h5_:AB v5 v4.heap.size #[.int .i64 z,.int .i64 0,.int .i64 0,.int .i64 0,.string ⟨#[]⟩,.slice none 0 0]∧Below v4.heap.size v4 v5:=by
  subst bI
  exact laid1 v4 _ _
 clear bI
 have XO5:=hid (XO4.out.below h5_.2)
 have ZF:=hid (Pv.out.below h5_.2)
 have iG:=hid (bel HB4.out h5_.2)
 have acF:=hid (dR.below Ze.out h5_.2)
 have XU5:=hid (XU4.out.below h5_.2)
 have Xc:=hid h5_.1
 have X7:Hid (w.heap.size+1<v4.heap.size):=Pv.out.lt
 clear h5_ XO4 Pv HB4 Ze XU4
 obtain⟨a0,a1,a2,a3,a4,a5⟩:=Xc.out.facts
 have Uy:=hid (Xc.out.load rfl)
 go_wp2_with (first|refine fJ Uy.out (.tmp 11) rfl rfl rfl ?_|refine sG ZF.out #[.int .i64 z,.int .i64 0,.int .i64 0,.int .i64 0,.string ⟨#[]⟩,.slice none 0 0] rfl rfl (by simp[Value.oneCell']) (.tmp 8) (.tmp 50) rfl rfl rfl rfl ?_)
 try simp only[Exit.inBlock,Exit.then]
 exact bodyPost_ret (w:=World.setRow v5 (w.heap.size+1) #[.int .i64 z,.int .i64 0,.int .i64 0,.int .i64 0,.string ⟨#[]⟩,.slice none 0 0]) (abo rfl (AB.row ZF.out _) rfl _ rfl) rfl ⟨rfl,below_setRow iG.out (Nat.le_succ w.heap.size) _⟩
theorem adE (li sp:Value) (T:List UInt8) (u:U) (s h:ByteArray) (p n:Int) (w:World)
  (HP:Hid (∀w',Below w.heap.size w w'→Calls Tryz.prog 16 #[.string (strOf T),.pointer none] w' fun e w''=>∃A n' c,e=.returned (.tuple #[.agg (cells u (.slice A n' c)),.int .i64 2])∧dR w'' u A n' c∧Below w'.heap.size w' w''))
  :
  Calls Tryz.prog 45 #[li,.string (strOf T),.agg #[.string s,.string h,.int .i64 p,.int .i64 n],sp] w fun e w'=>e=.returned (.agg #[.int .i64 7,.int .i64 0,.int .i64 0,.int .i64 0,.string ⟨#[]⟩,.slice none 0 0])∧Below w.heap.size w w':=by
 go_enter Tryz.func45,Tryz.ntmps45
 go_upto_region 1 with(fail)
 generalize bI:World.alloc (World.alloc w _) _=v1
 have h1_:OB v1 w.heap.size s h p n∧AB v1 (w.heap.size+1) #[.int .i64 0,.int .i64 0,.int .i64 0,.int .i64 0,.string ⟨#[]⟩,.slice none 0 0]∧Below w.heap.size w v1:=by
  subst bI
  exact laid2 w _ _ _ _
 clear bI
 have ZE:=hid h1_.1
 have Po:=hid h1_.2.1
 have HB1:=hid h1_.2.2
 clear h1_
 go_wp2_with fail
 refine(HP.out _ HB1.out).mono ?_
 rintro e v2 ⟨A,n',c,rfl,hpt,hb2⟩
 have XO2:=hid (ZE.out.below hb2)
 have Pq:=hid (Po.out.below hb2)
 have HB2:=hid (bel HB1.out hb2)
 have Zc:=hid hpt
 clear ZE Po HB1 hb2 hpt
 rw[show Value.agg (cells u (.slice A n' c))=.agg #[.string (strOf u.au),.string (strOf u.usr),.string (strOf u.MX),.string (strOf u.hst),.bool u.hh,.int .i64 u.port,.bool u.opq,.string (strOf u.txt),.slice A n' c,.bool u.hq,.bool u.hf,.string (strOf u.dY),.string (strOf u.fB)]from rfl]
 go_upto_region 2 with(fail)
 generalize bI:World.alloc v2 _=v3
 have h3_:UB v3 v2.heap.size u (.slice A n' c)∧Below v2.heap.size v2 v3:=by
  subst bI
  exact laid1 v2 _ _
 clear bI
 have NZ:=hid (Pq.out.below h3_.2)
 have HB3:=hid (bel HB2.out h3_.2)
 clear h3_ XO2 Pq HB2 Zc
 go_wp2_with (refine sG NZ.out #[.int .i64 7,.int .i64 0,.int .i64 0,.int .i64 0,.string ⟨#[]⟩,.slice none 0 0] rfl rfl (by simp[Value.oneCell']) (.tmp 8) (.tmp 21) rfl rfl rfl rfl ?_)
 try simp only[Exit.inBlock,Exit.then]
 exact bodyPost_ret (w:=World.setRow v3 (w.heap.size+1) #[.int .i64 7,.int .i64 0,.int .i64 0,.int .i64 0,.string ⟨#[]⟩,.slice none 0 0]) (abo rfl (AB.row NZ.out _) rfl _ rfl) rfl ⟨rfl,below_setRow HB3.out (Nat.le_succ w.heap.size) _⟩
end Go.Proofs.YtgamccijegollaaGreatDoor.FetD
namespace Go.Proofs.YtgamccijegollaaGreatDoor.pU
open Go.RowKit Base dI
def marks:List UInt8:=[33,35,36,37,38,39,42,43,45,46,94,95,96,124,126]
def FX (c:UInt8):Bool:=letter c.toNat||digit c.toNat||marks.contains c
def dP (L:List UInt8):Bool:=L.all FX&& !L.isEmpty
theorem EM (l:List UInt8) (c:UInt8):decide (Lib.indexByte l c<0)= !l.contains c:=by
 have hge:=Lib.indexByte_ge l c
 cases h:l.contains c
 ·have:¬∃o:Nat,Lib.indexByte l c=o:=by
   rintro⟨o,e⟩
   have:=(Lib.indexByte_some e).1
   have hm:=List.mem_of_getElem? this
   rw[List.contains_iff_mem.2 hm]at h
   cases h
  have hn:Lib.indexByte l c<0:=by
   by_cases h0:Lib.indexByte l c<0
   ·exact h0
   exact absurd ⟨(Lib.indexByte l c).toNat,by omega⟩ this
  simp[hn]
 have hm:=List.contains_iff_mem.1 h
 obtain⟨k,hk⟩:=List.mem_iff_getElem?.1 hm
 have:Lib.indexByte l c≠-1:=fun e=>Lib.indexByte_none e k hk
 simp
 omega
def qd:List UInt8→List UInt8×Nat
 |[]=>([],0)
 |[c]=>if c=34 then([],1)else([c],1)
 |c::d::t=>if c=34 then([],1)else if c=92 then(d::(qd t).1,(qd t).2+2)else(c::(qd (d::t)).1,(qd (d::t)).2+1)
theorem aen (t:List UInt8):qd (34::t)=([],1):=by cases t<;>simp[qd]
theorem aeo (d:UInt8) (t:List UInt8):qd (92::d::t)=(d::(qd t).1,(qd t).2+2):=by simp[qd]
theorem agc:qd [92]=([92],1):=by simp[qd]
theorem Rk (c:UInt8) (t:List UInt8) (h1:c≠34) (h2:c≠92):qd (c::t)=(c::(qd t).1,(qd t).2+1):=by
 cases t<;>simp[qd,h1,h2]
def jT:List UInt8→List UInt8×Nat
 |[]=>([],0)
 |c::t=>if c=34 then((qd t).1,(qd t).2+1)else([],0)
theorem Yh:∀L:List UInt8,(qd L).1.length≤L.length∧(qd L).2≤L.length
 |[]=>by simp[qd]
 |[c]=>by unfold qd;split<;>simp
 | c :: d :: t => by
  have h1:=Yh t
  have h2:=Yh (d::t)
  unfold qd
  split
  ·simp
  ·split
   ·simp
    omega
   ·simp at h2⊢
    omega
def qe (c:UInt8):List UInt8:=if c=34∨c=92 then[92,c]else[c]
def qt (L:List UInt8):List UInt8:=L.flatMap qe
theorem agd (L:List UInt8) (c:UInt8):qt (L++[c])=qt L++qe c:=by simp[qt]
theorem qt_len (L:List UInt8):(qt L).length≤2*L.length:=by
 induction L with
 |nil=>simp[qt]
 |cons c l ih=>
  have:(qe c).length≤2:=by unfold qe;split<;>simp
  simp only[qt,List.flatMap_cons,List.length_append,List.length_cons]at ih⊢
  omega
theorem qd_qt (T:List UInt8):∀L:List UInt8,qd (qt L++34::T)=(L,(qt L).length+1)
 |[]=>by simp[qt,aen]
 |c::l=>by
  have ih:=qd_qt T l
  have e:qt (c::l)=qe c++qt l:=by simp[qt]
  rw[e]
  unfold qe
  split
  ·rename_i h
   show qd (92::c::(qt l++34::T))=_
   rw[aeo,ih]
   refine Prod.ext rfl ?_
   simp
  ·rename_i h
   show qd (c::(qt l++34::T))=_
   rw[Rk c _ (fun h'=>h (.inl h')) (fun h'=>h (.inr h')),ih]
   refine Prod.ext rfl ?_
   simp
def qq (L:List UInt8):List UInt8:=34::(qt L++[34])
theorem qval_qq (L T:List UInt8):jT (qq L++T)=(L,(qq L).length):=by
 have e:qq L++T=34::(qt L++34::T):=by simp[qq]
 rw[e,jT,if_pos rfl,qd_qt]
 refine Prod.ext rfl ?_
 simp[qq]
theorem ane (L:List UInt8):(qq L).length≤2*L.length+2:=by
 have:=qt_len L
 simp[qq]
 omega
def blanks:List UInt8:=[9,10,13,32]
def tl (L:List UInt8):List UInt8:=Lib.trimLeftS L blanks
def tr (L:List UInt8):List UInt8:=Lib.trimRightS L blanks
def ru (L:List UInt8):List UInt8:=Lib.trimS L blanks
theorem qU (p:UInt8→Bool) (a b:List UInt8) (h:∀x ∈ a,p x=true):(a++b).dropWhile p=b.dropWhile p:=by
 induction a with
 |nil=>rfl
 |cons x a ih=>
  rw[List.cons_append,List.dropWhile_cons,if_pos (h x (by simp))]
  exact ih fun y hy=>h y (by simp[hy])
theorem alf (p:UInt8→Bool):∀L:List UInt8,L.dropWhile p=[]→∀y ∈ L,p y=true
 |[],_,y,hy=>by cases hy
 |x::l,h,y,hy=>by
  rw[List.dropWhile_cons]at h
  split at h
  ·rename_i hx
   rcases List.mem_cons.1 hy with rfl|hy
   ·exact hx
   ·exact alf p l h y hy
  ·cases h
theorem alg (p:UInt8→Bool) (L:List UInt8):(L.dropWhile p).reverse.dropWhile p=((L.reverse.dropWhile p).reverse.dropWhile p).reverse:=by
 induction L with
 |nil=>rfl
 | cons x l ih=>
  by_cases hx:p x=true
  ·rw [List.dropWhile_cons, if_pos hx, ih, List.reverse_cons]
   by_cases ha:∀y ∈ l,p y=true
   ·have e1:l.reverse.dropWhile p=[]:=by
     have:=qU p l.reverse [] (fun y hy=>ha y (by simpa using hy))
     simpa using this
    have e2:(l.reverse++[x]).dropWhile p=[]:=by
     rw[qU p l.reverse [x] (fun y hy=>ha y (by simpa using hy)),List.dropWhile_cons,if_pos hx]
     rfl
    rw[e1,e2]
   have e3:(l.reverse++[x]).dropWhile p=l.reverse.dropWhile p++[x]:=by
    rw[List.dropWhile_append,if_neg]
    intro h
    refine ha fun y hy=>?_
    have h':l.reverse.dropWhile p=[]:=by simpa using h
    exact alf p _ h' y (by simpa using hy)
   rw[e3,List.reverse_append,List.reverse_singleton,List.singleton_append,List.dropWhile_cons,if_pos hx]
  rw[List.dropWhile_cons,if_neg hx,List.reverse_cons]
  have e3:(l.reverse++[x]).dropWhile p=l.reverse.dropWhile p++[x]:=by
   rw[List.dropWhile_append]
   split
   ·rename_i h
    have h':l.reverse.dropWhile p=[]:=by simpa using h
    rw[h',List.dropWhile_cons,if_neg hx]
    rfl
   rfl
  rw[e3,List.reverse_append,List.reverse_singleton,List.singleton_append,List.dropWhile_cons,if_neg hx,List.reverse_cons,List.reverse_reverse]
theorem xw (L:List UInt8):ru L=tl (tr L):=rfl
theorem Hl (L:List UInt8):(tl L).length≤L.length:=by
 unfold tl Lib.trimLeftS
 exact(List.dropWhile_sublist _).length_le
theorem Sl (L:List UInt8):(tr L).length≤L.length:=by
 unfold tr Lib.trimRightS
 rw[List.length_reverse]
 have:=(List.dropWhile_sublist (fun x=>blanks.contains x) (l:=L.reverse)).length_le
 simpa using this
theorem agx (L:List UInt8):(ru L).length≤L.length:=Nat.le_trans (Hl _) (Sl _)
end Go.Proofs.YtgamccijegollaaGreatDoor.pU
