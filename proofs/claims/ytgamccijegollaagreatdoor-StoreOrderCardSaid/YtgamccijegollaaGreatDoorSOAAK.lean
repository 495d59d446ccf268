/- Texts that belong together: yx, aj8, PrsF, Pbx. -/
import Derived.Test.YtgamccijegollaaGreatDoorSOAAJ
import Derived.Test.YtgamccijegollaaGreatDoorSOAAI
set_option linter.unusedSimpArgs false
set_option linter.unusedVariables false
set_option maxRecDepth 100000
set_option maxHeartbeats 64000000
namespace Go.Proofs.YtgamccijegollaaGreatDoor.yx
open Go.RowKit Base L6 Dp dI cO acv ac2 acD aco jQ acJ Zo WJ sU pO wS yw tN Fp mW tK
def FW (S x y V D:List UInt8):Option U:=
 if (hap false V).2.2=true∧(hap false V).1=[]then none else
 match hst (hap false V).1 (special S),prt S (hap false V).2.1 with
 |some H,some p=>some {U0 with au:=S,usr:=x,MX:=y,hst:=H,hh:=true,port:=p,aO:=rooted S D}
 |_,_=>none
theorem ag6 (S T:List UInt8):authority S T=if (jL (T.take (upto (special S) T))).2.2.2=true∧(jL (T.take (upto (special S) T))).2.2.1=[]then none else FW S (jL (T.take (upto (special S) T))).1 (jL (T.take (upto (special S) T))).2.1 (jL (T.take (upto (special S) T))).2.2.1 (T.drop (upto (special S) T)):=rfl
theorem EX {o:Option Int} {e:Ending} (h:PrtV o e):∃z b,e=.returned (.tuple #[.int .i64 z,.bool b])∧(o=some z∧b=true∨o=none∧b=false):=by
 cases o with
 |some z=>exact⟨z,true,h,.inl ⟨rfl,rfl⟩⟩
 |none=>obtain⟨z,hz⟩:=h;exact⟨z,false,hz,.inr ⟨rfl,rfl⟩⟩
theorem dW {L:List UInt8} {n:Nat} (h:L.length≤n):(strOf L).size≤n:=by rw[o9];exact h
theorem aK (L:List UInt8):(strOf L).toList=L:=by rw[Lib.toList_data];rfl
theorem kH {w w':World} {o:Option U} (ho:o=none) (hb:Below w.heap.size w w'):mO w o (.returned (.tuple #[.agg (cells U0 (.slice none 0 0)),.bool false])) w':=
 ⟨hb,U0,none,0,0,false,rfl,wY _ _ rfl,.inr ⟨ho,rfl,rfl⟩⟩
theorem eH {w w':World} {o:Option U} {u:U} {A:Option Addr} {n c:Nat} (ho:o=some u) (hb:Below w.heap.size w w') (hp:Own w w' u A n c):mO w o (.returned (.tuple #[.agg (cells u (.slice A n c)),.bool true])) w':=
 ⟨hb,u,A,n,c,true,rfl,hp,.inl ⟨ho,rfl⟩⟩
theorem rH (b:UInt8):∀L:List UInt8,(fG b L).1.length≤L.length∧(fG b L).2.1.length≤L.length
 |[]=>by simp[fG]
 |c::L=>by
  have h:=rH b L
  unfold fG
  split
  ·simp
  ·simp only[List.length_cons]
   omega
theorem qP (S T:List UInt8) (w:World) (hs:T.length≤900000) (hL:oI w) (hT:Tab.Pow w) (hM:Max w):Calls Tryz.prog 118 #[.string (strOf S),.string (strOf T)] w (mO w (authority S T)):=by
 obtain⟨O,hO⟩:∃O,O=authority S T:=⟨_,rfl⟩
 rw[←hO]
 rw[ag6]at hO
 obtain⟨X,hX⟩:∃X,X=T.take (upto (special S) T):=⟨_,rfl⟩
 obtain⟨D,hD⟩:∃D,D=T.drop (upto (special S) T):=⟨_,rfl⟩
 have hXl:X.length≤900000:=by rw[hX,List.length_take];omega
 have hDl:D.length≤900000:=by rw[hD,List.length_drop];omega
 have hU:∀w:World,Calls Tryz.prog 224 #[.string (strOf S),.string (strOf T)] w fun e w'=>e=.returned (.tuple #[.string (strOf X),.string (strOf D)])∧Below w.heap.size w w':=fun w=>by rw[hX,hD];exact Ws (strOf S) (strOf T) w (dW (by omega))
 rw[←hX,←hD]at hO
 have hLa:∀w:World,Calls Tryz.prog 225 #[.string (strOf X),.int .u8 64] w fun e w'=>e=.returned (.int .i64 (Lib.lastIndexByte (strOf X) 64))∧w'=w:=fun w=>Tryz.strings_LastIndexByte (strOf X) 64 w (by rw[o9];omega)
 have hsp:∀w:World,Calls Tryz.prog 115 #[.string (strOf S)] w fun e w'=>e=.returned (.bool (special S))∧w'=w:=fun w=>jv (strOf S) w
 have hrt:∀w:World,Calls Tryz.prog 223 #[.string (strOf S),.string (strOf D)] w (lu w.heap.size w (rooted S D)):=fun w=>AA (strOf S) (strOf D) w (dW hDl)
 have HU:=hid hU
 have wC:=hid hsp
 have UC:=hid hrt
 have HL:=hid hL
 have HT:=hid hT
 have HM:=hid hM
 clear hU hsp hrt hL hT hM hX hD hDl hs
 have hls:=ahT (strOf X)
 rw[show(strOf X).data.toList=X from rfl]at hls
 obtain⟨zl,hzl⟩:∃z,z=Lib.lastIndexByte (strOf X) 64:=⟨_,rfl⟩
 rw[←hzl]at hLa hls
 have Uy:=hid hLa
 have HO0:=hid hO
 clear hLa hzl hO
 go_enter Tryz.func118,Tryz.ntmps118
 go_upto_region 1 with(fail)
 generalize hw:World.alloc w _=w1
 have h1:UB w1 (w.heap.size) (U0) (.slice none 0 0)∧Below w.heap.size w w1:=by
  subst hw
  exact laid1 w _ _
 clear hw
 have bP:Hid (w.heap.size≤w.heap.size):=(Below.refl w.heap.size w).size
 have bM:=hid (bel (Below.refl w.heap.size w) h1.2)
 have aW:=hid h1.1
 clear h1
 go_wp2_with fail
 refine(HU.out _).mono ?_
 rintro e w2 ⟨rfl,hbx⟩
 have bK:=hid (aW.out.below hbx)
 have eX:=hid (bel bM.out hbx)
 clear aW bM
 clear hbx
 go_upto_region 3 with(fail)
 generalize hw:World.alloc w2 _=w3
 have h1:UB w3 (w2.heap.size) ({U0 with au:=S,hh:=true}) (.slice none 0 0)∧Below w2.heap.size w2 w3:=by
  subst hw
  exact laid1 w2 _ _
 clear hw
 have hlr:=bK.out.lt
 have aX:Hid (w.heap.size≠w2.heap.size):=by show _≠_;omega
 have nO:Hid (w2.heap.size≠w.heap.size):=by show _≠_;omega
 clear hlr
 have fK:Hid (w.heap.size≤w2.heap.size):=eX.out.size
 have bD:=hid (bK.out.below h1.2)
 have cZ:=hid (bel eX.out h1.2)
 have eY:=hid h1.1
 clear bK eX
 clear h1
 go_wp2_with fail
 refine(Uy.out _).mono ?_
 rintro e wx ⟨rfl,hwx⟩
 obtain rfl:w3=wx:=by first|exact hwx|exact hwx.symm
 clear hwx
 rcases hls with⟨rfl,hl⟩|⟨k,hk,rfl,hl⟩
 ·
  obtain⟨V,hV⟩:∃V,V=X:=⟨_,rfl⟩
  have HOT:Hid (O=FW S [] [] V D):=by show _=_;rw[HO0.out,show jL X=([],[],X,false)by unfold jL;rw[hl],hV];rfl
  have hVl:V.length≤900000:=by rw[hV];exact hXl
  rw[←hV]
  clear HO0 hl hXl HU Uy
  subst hV
  obtain⟨H1,H2,c,hh⟩:∃H1 H2 c,hap false V=(H1,H2,c):=⟨_,_,_,rfl⟩
  have hl1:=(EJ V false).1
  have hl2:=(EJ V false).2
  rw[hh]at hl1 hl2
  simp only at hl1 hl2
  have hhp:∀w:World,Calls Tryz.prog 226 #[.string (strOf V)] w fun e w'=>e=.returned (.tuple #[.string (strOf H1),.string (strOf H2),.bool c])∧Below w.heap.size w w':=fun w=>by
   have h:=Bq (strOf V) w (dW (by omega))
   rw[show(strOf V).data.toList=V from rfl,hh]at h
   exact h
  have HHP:=hid hhp
  have hO2:O=if c=true∧H1=[]then none else match hst H1 (special S),prt S H2 with|some H,some p=>some {U0 with au:=S,usr:=[],MX:=[],hst:=H,hh:=true,port:=p,aO:=rooted S D}|_,_=>none:=by
   rw[HOT.out];unfold FW;rw[hh];first|done|rfl
  have hH:∀w:World,oI w→Tab.Pow w→Max w→Calls Tryz.prog 227 #[.string (strOf H1),.bool (special S)] w fun e w'=>e=.returned (HV (hst H1 (special S)))∧Below w.heap.size w w':=fun w a b d=>sU.parse_any (strOf H1) (special S) w (dW (by omega)) a b d
  have hPo:∀w:World,Calls Tryz.prog 228 #[.string (strOf S),.string (strOf H2)] w fun e w'=>PrtV (prt S H2) e∧w'=w:=fun w=>aa4 (strOf S) (strOf H2) w (dW (by omega))
  have HH:=hid hH
  have HPO:=hid hPo
  have jy:=hid hO2
  clear hhp hl1 hl2 hh hH hPo HOT hO2
  go_wp2_with fail
  refine(HHP.out _).mono ?_
  rintro e w4 ⟨rfl,hbx⟩
  have bF:=hid (bD.out.below hbx)
  have bV:=hid (eY.out.below hbx)
  have dD:=hid (bel cZ.out hbx)
  clear bD eY cZ
  clear hbx
  cases c
  focus
   have iV:Hid (O=match hst H1 (special S),prt S H2 with|some H,some p=>some {U0 with au:=S,usr:=[],MX:=[],hst:=H,hh:=true,port:=p,aO:=rooted S D}|_,_=>none):=by show _=_;rw[jy.out,if_neg (by simp)]
   clear jy
   go_wp2_with fail
   refine(wC.out _).mono ?_
   rintro e wx ⟨rfl,hwx⟩
   obtain rfl:w4=wx:=by first|exact hwx|exact hwx.symm
   clear hwx
  rotate_left
  focus
   by_cases h0:H1=[]
   ·
    have qc:Hid (O=none):=by show _=_;rw[jy.out,if_pos ⟨rfl,h0⟩]
    have q0:((strOf H1).toList==[])=true:=by rw[aK,h0];rfl
    have q1:(strOf H1).toList=[]:=by rw[aK,h0]
    clear jy h0
    go_wp2_with (refine aC bF.out U0 none 0 0 (.tmp 4) (.tmp 64) rfl rfl rfl rfl ?_)
    try simp only[Exit.inBlock,Exit.then]
    exact bodyPost_ret (w:=World.setRow w4 w.heap.size (cells U0 (.slice none 0 0))) (res2 (u:=U0) (p:=.slice none 0 0) rfl (bF.out.row U0 _) false _ rfl rfl) rfl (kH qc.out (below_setRow dD.out bP.out _))
   have iV:Hid (O=match hst H1 (special S),prt S H2 with|some H,some p=>some {U0 with au:=S,usr:=[],MX:=[],hst:=H,hh:=true,port:=p,aO:=rooted S D}|_,_=>none):=by show _=_;rw[jy.out,if_neg (fun h=>h0 h.2)]
   have q0:((strOf H1).toList==[])=false:=by rw[aK,beq_eq_false_iff_ne];exact h0
   have q1:¬(strOf H1).toList=[]:=by rw[aK];exact h0
   have q2:(strOf H1).toList.isEmpty=false:=by rw[aK];simpa using h0
   clear jy h0
   go_wp2_with fail
   refine(wC.out _).mono ?_
   rintro e wx ⟨rfl,hwx⟩
   obtain rfl:w4=wx:=by first|exact hwx|exact hwx.symm
   clear hwx
  rotate_left
  all_goals
   cases hx:hst H1 (special S)with
   |none=>
    have qc:Hid (O=none):=by show _=_;rw[iV.out,hx]
    rw[hx]at HH
    clear hx
    go_wp2_with fail
    refine(HH.out _ (HL.out.below dD.out) (bY HT.out dD.out) (HM.out.below dD.out)).mono ?_
    rintro e w5 ⟨rfl,hbx⟩
    have bH:=hid (bF.out.below hbx)
    have bJ:=hid (bV.out.below hbx)
    have fC:=hid (bel dD.out hbx)
    clear bF bV dD
    clear hbx
    rw[show HV none=.tuple #[.string (strOf []),.bool false]from rfl]
    have cx:=bJ.out.facts.2.2.2.1
    have fx:=bJ.out.thaw.2.2.2.1
    go_upto_region 16 with(fail)
    have hxr:=bH.out.set (k:=w2.heap.size) (i:=3) (.string (strOf [])) (aX.out)
    have hxu:=bJ.out.hst []
    have hb:=fC.out.setCell (p:=⟨w2.heap.size,3,none⟩) (fK.out) (.string (strOf []))
    clear bH bJ fC
    clear cx fx
    generalize World.setCell w5 _ _=w6 at hxr hxu hb⊢
    have bT:Hid (UB w6 (w.heap.size) (U0) (.slice none 0 0)):=hxr
    clear hxr
    have bG:Hid (UB w6 (w2.heap.size) ({U0 with au:=S,usr:=[],MX:=[],hh:=true,hst:=[]}) (.slice none 0 0)):=hxu
    clear hxu
    have gq:=hid hb
    clear hb
    go_wp2_with fail
    refine(HPO.out _).mono ?_
    rintro e wx ⟨hv,hwx⟩
    obtain rfl:w6=wx:=hwx.symm
    clear hwx
    obtain⟨z,ok,rfl,hzo⟩:=EX hv
    clear hv
    have cx:=bG.out.facts.2.2.2.2.2.1
    have fx:=bG.out.thaw.2.2.2.2.2.1
    go_upto_region 17 with(fail)
    have hxr:=bT.out.set (k:=w2.heap.size) (i:=5) (.int .i64 z) (aX.out)
    have hxu:=bG.out.port z
    have hb:=gq.out.setCell (p:=⟨w2.heap.size,5,none⟩) (fK.out) (.int .i64 z)
    clear bT bG gq
    clear cx fx
    generalize World.setCell w6 _ _=w7 at hxr hxu hb⊢
    have dQ:Hid (UB w7 (w.heap.size) (U0) (.slice none 0 0)):=hxr
    clear hxr
    have dO:Hid (UB w7 (w2.heap.size) ({U0 with au:=S,usr:=[],MX:=[],hh:=true,hst:=[],port:=z}) (.slice none 0 0)):=hxu
    clear hxu
    have iU:=hid hb
    clear hb
    clear hzo
    go_wp2_with (refine aC dQ.out U0 none 0 0 (.tmp 4) (.tmp 86) rfl rfl rfl rfl ?_)
    try simp only[Exit.inBlock,Exit.then]
    exact bodyPost_ret (w:=World.setRow w7 w.heap.size (cells U0 (.slice none 0 0))) (res2 (u:=U0) (p:=.slice none 0 0) rfl (dQ.out.row U0 _) false _ rfl rfl) rfl (kH qc.out (below_setRow iU.out bP.out _))
   |some R=>
    have Ti:Hid (O=match prt S H2 with|some p=>some {U0 with au:=S,usr:=[],MX:=[],hst:=R,hh:=true,port:=p,aO:=rooted S D}|none=>none):=by show _=_;rw[iV.out,hx];cases prt S H2<;>rfl
    rw[hx]at HH
    clear hx
    go_wp2_with fail
    refine(HH.out _ (HL.out.below dD.out) (bY HT.out dD.out) (HM.out.below dD.out)).mono ?_
    rintro e w5 ⟨rfl,hbx⟩
    have bH:=hid (bF.out.below hbx)
    have bJ:=hid (bV.out.below hbx)
    have fC:=hid (bel dD.out hbx)
    clear bF bV dD
    clear hbx
    rw[show HV (some R)=.tuple #[.string (strOf R),.bool true]from rfl]
    have cx:=bJ.out.facts.2.2.2.1
    have fx:=bJ.out.thaw.2.2.2.1
    go_upto_region 16 with(fail)
    have hxr:=bH.out.set (k:=w2.heap.size) (i:=3) (.string (strOf R)) (aX.out)
    have hxu:=bJ.out.hst R
    have hb:=fC.out.setCell (p:=⟨w2.heap.size,3,none⟩) (fK.out) (.string (strOf R))
    clear bH bJ fC
    clear cx fx
    generalize World.setCell w5 _ _=w6 at hxr hxu hb⊢
    have bT:Hid (UB w6 (w.heap.size) (U0) (.slice none 0 0)):=hxr
    clear hxr
    have bG:Hid (UB w6 (w2.heap.size) ({U0 with au:=S,usr:=[],MX:=[],hh:=true,hst:=R}) (.slice none 0 0)):=hxu
    clear hxu
    have gq:=hid hb
    clear hb
    go_wp2_with fail
    refine(HPO.out _).mono ?_
    rintro e wx ⟨hv,hwx⟩
    obtain rfl:w6=wx:=hwx.symm
    clear hwx
    obtain⟨z,ok,rfl,hzo⟩:=EX hv
    clear hv
    have cx:=bG.out.facts.2.2.2.2.2.1
    have fx:=bG.out.thaw.2.2.2.2.2.1
    go_upto_region 17 with(fail)
    have hxr:=bT.out.set (k:=w2.heap.size) (i:=5) (.int .i64 z) (aX.out)
    have hxu:=bG.out.port z
    have hb:=gq.out.setCell (p:=⟨w2.heap.size,5,none⟩) (fK.out) (.int .i64 z)
    clear bT bG gq
    clear cx fx
    generalize World.setCell w6 _ _=w7 at hxr hxu hb⊢
    have dQ:Hid (UB w7 (w.heap.size) (U0) (.slice none 0 0)):=hxr
    clear hxr
    have dO:Hid (UB w7 (w2.heap.size) ({U0 with au:=S,usr:=[],MX:=[],hh:=true,hst:=R,port:=z}) (.slice none 0 0)):=hxu
    clear hxu
    have iU:=hid hb
    clear hb
    rcases hzo with⟨hz,rfl⟩|⟨hz,rfl⟩
    ·
     have mX:Hid (O=some {U0 with au:=S,usr:=[],MX:=[],hst:=R,hh:=true,port:=z,aO:=rooted S D}):=by show _=_;rw[Ti.out,hz]
     clear hz
     go_wp2_with fail
     refine(UC.out _).mono ?_
     rintro e w8 ⟨q,rfl,hown,hbx⟩
     obtain⟨A,c2,rfl,hq⟩:=bW (u:={U0 with aO:=rooted S D}) hown
     clear hq
     replace hown:=ay hown (Nat.le_refl _)
     have zF:Hid (w2.heap.size<w7.heap.size):=dO.out.lt
     have iy:Hid (w.heap.size<w7.heap.size):=dQ.out.lt
     have iI:=hid (dQ.out.below hbx)
     have jJ:=hid (dO.out.below hbx)
     have sS:=hid (bel iU.out hbx)
     have tC:=hid hown
     clear hown
     clear dQ dO iU
     clear hbx
     have BX:=zF.out
     have cx:=jJ.out.facts.2.2.2.2.2.2.2.2.1
     have fx:=jJ.out.thaw.2.2.2.2.2.2.2.2.1
     go_upto_region 20 with(fail)
     have hxr:=iI.out.set (k:=w2.heap.size) (i:=8) (.slice A (rooted S D).length c2) (aX.out)
     have hxu:=jJ.out.path (.slice A (rooted S D).length c2)
     have hoq:=gU.aN (w':=w8.setCell ⟨w2.heap.size,8,none⟩ (.slice A (rooted S D).length c2)) (gb:=w2.heap.size) tC.out (fun k hk=>heap_setCell_other _ _ _ _ hk) (by omega)
     have hb:=sS.out.setCell (p:=⟨w2.heap.size,8,none⟩) (fK.out) (.slice A (rooted S D).length c2)
     clear iI jJ tC sS
     clear cx fx
     generalize World.setCell w8 _ _=w9 at hxr hxu hoq hb⊢
     have Bg:Hid (UB w9 (w.heap.size) (U0) (.slice none 0 0)):=hxr
     clear hxr
     have yt:Hid (UB w9 (w2.heap.size) ({U0 with au:=S,usr:=[],MX:=[],hh:=true,hst:=R,port:=z}) (.slice A (rooted S D).length c2)):=hxu
     clear hxu
     have HOqw9:=hid hoq
     clear hoq
     have Fe:=hid hb
     clear hb
     clear BX
     obtain⟨c0,c1,c2',c3,c4,c5,c6,c7,c8,c9,c10,c11,c12⟩:=yt.out.facts
     go_wp2_with (refine aC Bg.out {U0 with au:=S,usr:=[],MX:=[],hh:=true,hst:=R,port:=z} A (rooted S D).length c2 (.tmp 4) (.tmp 91) rfl rfl rfl rfl ?_)
     try simp only[Exit.inBlock,Exit.then]
     have hpo:∀k,k≠w.heap.size→(World.setRow w9 (w.heap.size) (cells {U0 with au:=S,usr:=[],MX:=[],hh:=true,hst:=R,port:=z} (.slice A (rooted S D).length c2))).heap[k]?=w9.heap[k]?:=fun k hk=>setRow_other _ _ _ _ hk
     have ho:=ay (gU.aN HOqw9.out hpo iy.out) (by have h1:=bP.out;have h2:=iy.out;omega:w.heap.size≤_)
     exact bodyPost_ret (w:=World.setRow w9 w.heap.size (cells {U0 with au:=S,usr:=[],MX:=[],hh:=true,hst:=R,port:=z} (.slice A (rooted S D).length c2))) (res2 (u:={U0 with au:=S,usr:=[],MX:=[],hh:=true,hst:=R,port:=z}) (p:=(.slice A (rooted S D).length c2)) rfl (Bg.out.row {U0 with au:=S,usr:=[],MX:=[],hh:=true,hst:=R,port:=z} _) true _ rfl rfl) rfl (eH (u:={U0 with au:=S,usr:=[],MX:=[],hst:=R,hh:=true,port:=z,aO:=rooted S D}) mX.out (below_setRow Fe.out bP.out _) ho)
    ·
     have qc:Hid (O=none):=by show _=_;rw[Ti.out,hz]
     clear hz
     go_wp2_with (refine aC dQ.out U0 none 0 0 (.tmp 4) (.tmp 86) rfl rfl rfl rfl ?_)
     try simp only[Exit.inBlock,Exit.then]
     exact bodyPost_ret (w:=World.setRow w7 w.heap.size (cells U0 (.slice none 0 0))) (res2 (u:=U0) (p:=.slice none 0 0) rfl (dQ.out.row U0 _) false _ rfl rfl) rfl (kH qc.out (below_setRow iU.out bP.out _))
 ·
  rw[o9]at hk
  obtain⟨E,hE⟩:∃E,E=X.take k:=⟨_,rfl⟩
  obtain⟨V,hV⟩:∃V,V=X.drop (k+1):=⟨_,rfl⟩
  have hVl:V.length≤900000:=by rw[hV,List.length_drop];omega
  have hEl:E.length≤900000:=by rw[hE,List.length_take];omega
  obtain⟨N,P2,bb,hc⟩:∃N P2 b,fG 58 E=(N,P2,b):=⟨_,_,_,rfl⟩
  have hNl:N.length≤900000∧P2.length≤900000:=by have h:=rH 58 E;rw[hc]at h;simp only at h;omega
  have hC:∀w:World,Max w→Calls Tryz.prog 71 #[.string (strOf E),.string ⟨#[58]⟩] w fun e w'=>e=.returned (.tuple #[.string (strOf N),.string (strOf P2),.bool bb])∧Below w.heap.size w w':=fun w ⟨m,hm⟩=>(Tryz.strings_Cut (strOf E) ⟨#[58]⟩ m w (by rw[o9];omega) hm).mono fun e w' ⟨h1,q,h2⟩=>⟨by rw[h1,show(strOf E).data.toList=E from rfl,show(⟨#[58]⟩:ByteArray).data.toList=[58]from rfl,yG,hc];rfl,by rw[h2];exact Base.below_drewN (Below.refl _ _) _⟩
  have HC:=hid hC
  have hx1:(strOf X).extract 0 k=strOf E:=by rw[RU,hE];rfl
  have hx2:(strOf X).extract (k+1) (strOf X).size=strOf V:=by rw[l7,hV];rfl
  have hcr:jL X=(FM.enc 5 N,FM.enc 5 P2,V,true):=by unfold jL;rw[hl];simp only;rw[←hE,←hV,hc]
  have hO:=HO0.out
  rw[hcr]at hO
  simp only at hO
  have hkI:(k:Int)≤((strOf X).size:Int):=by rw[o9];omega
  have hkJ:(k:Int)+1≤((strOf X).size:Int):=by rw[o9];omega
  have hk0:¬(k:Int)<0:=by omega
  have hk1:(0:Int)≤(k:Int):=by omega
  have hkt:((k:Int)+1).toNat=k+1:=by omega
  have hXs:(strOf X).size≤900000:=dW hXl
  have HO:=hid hO
  have gY:=hid hx2
  clear hC hcr hO hE hV hc hl HO0
  go_wp2_with fail
  refine(HC.out _ (HM.out.below cZ.out)).mono ?_
  rintro e w4 ⟨rfl,hbx⟩
  have bF:=hid (bD.out.below hbx)
  have bV:=hid (eY.out.below hbx)
  have dD:=hid (bel cZ.out hbx)
  clear bD eY cZ
  clear hbx
  clear hx1
  have hcv:=fun(w:World) s=>run_bytes_of_string (P:=Tryz.prog) w 9 45 5 s Tryz.underlying9 Tryz.underlying45 Tryz.underlying5
  go_wp2_with fail
  clear hcv
  refine(FM.eF 5 _ _ _ N _ (fV (strOf N) _ _ _) (dW (by omega))).mono ?_
  rintro e w5 ⟨rfl,hb0⟩
  have hbx:Below w4.heap.size w4 w5:=bel (((Below.refl w4.heap.size w4).alloc (Nat.le_refl _) _).drew) hb0
  clear hb0
  have bH:=hid (bF.out.below hbx)
  have bJ:=hid (bV.out.below hbx)
  have fC:=hid (bel dD.out hbx)
  clear bF bV dD
  clear hbx
  have cx:=bJ.out.facts.2.1
  have fx:=bJ.out.thaw.2.1
  go_upto_region 7 with(fail)
  have hxr:=bH.out.set (k:=w2.heap.size) (i:=1) (.string (strOf (FM.enc 5 N))) (aX.out)
  have hxu:=bJ.out.usr (FM.enc 5 N)
  have hb:=fC.out.setCell (p:=⟨w2.heap.size,1,none⟩) (fK.out) (.string (strOf (FM.enc 5 N)))
  clear bH bJ fC
  clear cx fx
  generalize World.setCell w5 _ _=w6 at hxr hxu hb⊢
  have bT:Hid (UB w6 (w.heap.size) (U0) (.slice none 0 0)):=hxr
  clear hxr
  have bG:Hid (UB w6 (w2.heap.size) ({U0 with au:=S,hh:=true,usr:=FM.enc 5 N}) (.slice none 0 0)):=hxu
  clear hxu
  have gq:=hid hb
  clear hb
  have hcv:=fun(w:World) s=>run_bytes_of_string (P:=Tryz.prog) w 9 45 5 s Tryz.underlying9 Tryz.underlying45 Tryz.underlying5
  go_wp2_with fail
  clear hcv
  refine(FM.eF 5 _ _ _ P2 _ (fV (strOf P2) _ _ _) (dW (by omega))).mono ?_
  rintro e w7 ⟨rfl,hb0⟩
  have hbx:Below w6.heap.size w6 w7:=bel (((Below.refl w6.heap.size w6).alloc (Nat.le_refl _) _).drew) hb0
  clear hb0
  have dQ:=hid (bT.out.below hbx)
  have dO:=hid (bG.out.below hbx)
  have iU:=hid (bel gq.out hbx)
  clear bT bG gq
  clear hbx
  have cx:=dO.out.facts.2.2.1
  have fx:=dO.out.thaw.2.2.1
  go_upto_region 8 with(fail)
  have hxr:=dQ.out.set (k:=w2.heap.size) (i:=2) (.string (strOf (FM.enc 5 P2))) (aX.out)
  have hxu:=dO.out.MX (FM.enc 5 P2)
  have hb:=iU.out.setCell (p:=⟨w2.heap.size,2,none⟩) (fK.out) (.string (strOf (FM.enc 5 P2)))
  clear dQ dO iU
  clear cx fx
  generalize World.setCell w7 _ _=w8 at hxr hxu hb⊢
  have iI:Hid (UB w8 (w.heap.size) (U0) (.slice none 0 0)):=hxr
  clear hxr
  have jJ:Hid (UB w8 (w2.heap.size) ({U0 with au:=S,hh:=true,usr:=FM.enc 5 N,MX:=FM.enc 5 P2}) (.slice none 0 0)):=hxu
  clear hxu
  have sS:=hid hb
  clear hb
  have hx2:=gY.out
  by_cases h0:V=[]
  ·
   have qc:Hid (O=none):=by show _=_;rw[HO.out,if_pos ⟨by first|rfl|trivial,h0⟩]
   have q0:((strOf V).toList==[])=true:=by rw[aK,h0];rfl
   have q1:(strOf V).toList=[]:=by rw[aK,h0]
   clear h0
   go_wp2_with (refine aC iI.out U0 none 0 0 (.tmp 4) (.tmp 52) rfl rfl rfl rfl ?_)
   try simp only[Exit.inBlock,Exit.then]
   exact bodyPost_ret (w:=World.setRow w8 w.heap.size (cells U0 (.slice none 0 0))) (res2 (u:=U0) (p:=.slice none 0 0) rfl (iI.out.row U0 _) false _ rfl rfl) rfl (kH qc.out (below_setRow sS.out bP.out _))
  ·
   obtain⟨xe,hxe⟩:∃x,x=FM.enc 5 N:=⟨_,rfl⟩
   obtain⟨ye,hye⟩:∃x,x=FM.enc 5 P2:=⟨_,rfl⟩
   have HOT:Hid (O=FW S xe ye V D):=by show _=_;rw[HO.out,if_neg (fun h=>h0 h.2),hxe,hye]
   have q0:((strOf V).toList==[])=false:=by rw[aK,beq_eq_false_iff_ne];exact h0
   have q1:¬(strOf V).toList=[]:=by rw[aK];exact h0
   have q2:(strOf V).toList.isEmpty=false:=by rw[aK];simpa using h0
   rw[←hxe,←hye]at jJ
   clear h0 hxe hye HO
   go_upto_region 11 with(fail)
   clear q0 q1 q2 hx2 hkI hkJ hk0 hk1 hkt hXs hXl hEl hNl gY
   obtain⟨H1,H2,c,hh⟩:∃H1 H2 c,hap false V=(H1,H2,c):=⟨_,_,_,rfl⟩
   have hl1:=(EJ V false).1
   have hl2:=(EJ V false).2
   rw[hh]at hl1 hl2
   simp only at hl1 hl2
   have hhp:∀w:World,Calls Tryz.prog 226 #[.string (strOf V)] w fun e w'=>e=.returned (.tuple #[.string (strOf H1),.string (strOf H2),.bool c])∧Below w.heap.size w w':=fun w=>by
    have h:=Bq (strOf V) w (dW (by omega))
    rw[show(strOf V).data.toList=V from rfl,hh]at h
    exact h
   have HHP:=hid hhp
   have hO2:O=if c=true∧H1=[]then none else match hst H1 (special S),prt S H2 with|some H,some p=>some {U0 with au:=S,usr:=xe,MX:=ye,hst:=H,hh:=true,port:=p,aO:=rooted S D}|_,_=>none:=by
    rw[HOT.out];unfold FW;rw[hh];first|done|rfl
   have hH:∀w:World,oI w→Tab.Pow w→Max w→Calls Tryz.prog 227 #[.string (strOf H1),.bool (special S)] w fun e w'=>e=.returned (HV (hst H1 (special S)))∧Below w.heap.size w w':=fun w a b d=>sU.parse_any (strOf H1) (special S) w (dW (by omega)) a b d
   have hPo:∀w:World,Calls Tryz.prog 228 #[.string (strOf S),.string (strOf H2)] w fun e w'=>PrtV (prt S H2) e∧w'=w:=fun w=>aa4 (strOf S) (strOf H2) w (dW (by omega))
   have HH:=hid hH
   have HPO:=hid hPo
   have jy:=hid hO2
   clear hhp hl1 hl2 hh hH hPo HOT hO2
   go_wp2_with fail
   refine(HHP.out _).mono ?_
   rintro e w9 ⟨rfl,hbx⟩
   have Bg:=hid (iI.out.below hbx)
   have yt:=hid (jJ.out.below hbx)
   have Fe:=hid (bel sS.out hbx)
   clear iI jJ sS
   clear hbx
   cases c
   focus
    have iV:Hid (O=match hst H1 (special S),prt S H2 with|some H,some p=>some {U0 with au:=S,usr:=xe,MX:=ye,hst:=H,hh:=true,port:=p,aO:=rooted S D}|_,_=>none):=by show _=_;rw[jy.out,if_neg (by simp)]
    clear jy
    go_wp2_with fail
    refine(wC.out _).mono ?_
    rintro e wx ⟨rfl,hwx⟩
    obtain rfl:w9=wx:=by first|exact hwx|exact hwx.symm
    clear hwx
   rotate_left
   focus
    by_cases h0:H1=[]
    ·
     have qc:Hid (O=none):=by show _=_;rw[jy.out,if_pos ⟨rfl,h0⟩]
     have q0:((strOf H1).toList==[])=true:=by rw[aK,h0];rfl
     have q1:(strOf H1).toList=[]:=by rw[aK,h0]
     clear jy h0
     go_wp2_with (refine aC Bg.out U0 none 0 0 (.tmp 4) (.tmp 64) rfl rfl rfl rfl ?_)
     try simp only[Exit.inBlock,Exit.then]
     exact bodyPost_ret (w:=World.setRow w9 w.heap.size (cells U0 (.slice none 0 0))) (res2 (u:=U0) (p:=.slice none 0 0) rfl (Bg.out.row U0 _) false _ rfl rfl) rfl (kH qc.out (below_setRow Fe.out bP.out _))
    have iV:Hid (O=match hst H1 (special S),prt S H2 with|some H,some p=>some {U0 with au:=S,usr:=xe,MX:=ye,hst:=H,hh:=true,port:=p,aO:=rooted S D}|_,_=>none):=by show _=_;rw[jy.out,if_neg (fun h=>h0 h.2)]
    have q0:((strOf H1).toList==[])=false:=by rw[aK,beq_eq_false_iff_ne];exact h0
    have q1:¬(strOf H1).toList=[]:=by rw[aK];exact h0
    have q2:(strOf H1).toList.isEmpty=false:=by rw[aK];simpa using h0
    clear jy h0
    go_wp2_with fail
    refine(wC.out _).mono ?_
    rintro e wx ⟨rfl,hwx⟩
    obtain rfl:w9=wx:=by first|exact hwx|exact hwx.symm
    clear hwx
   rotate_left
   all_goals
    cases hx:hst H1 (special S)with
    |none=>
     have qc:Hid (O=none):=by show _=_;rw[iV.out,hx]
     rw[hx]at HH
     clear hx
     go_wp2_with fail
     refine(HH.out _ (HL.out.below Fe.out) (bY HT.out Fe.out) (HM.out.below Fe.out)).mono ?_
     rintro e w10 ⟨rfl,hbx⟩
     have CJ:=hid (Bg.out.below hbx)
     have uS:=hid (yt.out.below hbx)
     have OH:=hid (bel Fe.out hbx)
     clear Bg yt Fe
     clear hbx
     rw[show HV none=.tuple #[.string (strOf []),.bool false]from rfl]
     have cx:=uS.out.facts.2.2.2.1
     have fx:=uS.out.thaw.2.2.2.1
     go_upto_region 16 with(fail)
     have hxr:=CJ.out.set (k:=w2.heap.size) (i:=3) (.string (strOf [])) (aX.out)
     have hxu:=uS.out.hst []
     have hb:=OH.out.setCell (p:=⟨w2.heap.size,3,none⟩) (fK.out) (.string (strOf []))
     clear CJ uS OH
     clear cx fx
     generalize World.setCell w10 _ _=w11 at hxr hxu hb⊢
     have OV:Hid (UB w11 (w.heap.size) (U0) (.slice none 0 0)):=hxr
     clear hxr
     have zG:Hid (UB w11 (w2.heap.size) ({U0 with au:=S,usr:=xe,MX:=ye,hh:=true,hst:=[]}) (.slice none 0 0)):=hxu
     clear hxu
     have Y1:=hid hb
     clear hb
     go_wp2_with fail
     refine(HPO.out _).mono ?_
     rintro e wx ⟨hv,hwx⟩
     obtain rfl:w11=wx:=hwx.symm
     clear hwx
     obtain⟨z,ok,rfl,hzo⟩:=EX hv
     clear hv
     have cx:=zG.out.facts.2.2.2.2.2.1
     have fx:=zG.out.thaw.2.2.2.2.2.1
     go_upto_region 17 with(fail)
     have hxr:=OV.out.set (k:=w2.heap.size) (i:=5) (.int .i64 z) (aX.out)
     have hxu:=zG.out.port z
     have hb:=Y1.out.setCell (p:=⟨w2.heap.size,5,none⟩) (fK.out) (.int .i64 z)
     clear OV zG Y1
     clear cx fx
     generalize World.setCell w11 _ _=w12 at hxr hxu hb⊢
     have CO:Hid (UB w12 (w.heap.size) (U0) (.slice none 0 0)):=hxr
     clear hxr
     have WH:Hid (UB w12 (w2.heap.size) ({U0 with au:=S,usr:=xe,MX:=ye,hh:=true,hst:=[],port:=z}) (.slice none 0 0)):=hxu
     clear hxu
     have Y2:=hid hb
     clear hb
     clear hzo
     go_wp2_with (refine aC CO.out U0 none 0 0 (.tmp 4) (.tmp 86) rfl rfl rfl rfl ?_)
     try simp only[Exit.inBlock,Exit.then]
     exact bodyPost_ret (w:=World.setRow w12 w.heap.size (cells U0 (.slice none 0 0))) (res2 (u:=U0) (p:=.slice none 0 0) rfl (CO.out.row U0 _) false _ rfl rfl) rfl (kH qc.out (below_setRow Y2.out bP.out _))
    |some R=>
     have Ti:Hid (O=match prt S H2 with|some p=>some {U0 with au:=S,usr:=xe,MX:=ye,hst:=R,hh:=true,port:=p,aO:=rooted S D}|none=>none):=by show _=_;rw[iV.out,hx];cases prt S H2<;>rfl
     rw[hx]at HH
     clear hx
     go_wp2_with fail
     refine(HH.out _ (HL.out.below Fe.out) (bY HT.out Fe.out) (HM.out.below Fe.out)).mono ?_
     rintro e w10 ⟨rfl,hbx⟩
     have CJ:=hid (Bg.out.below hbx)
     have uS:=hid (yt.out.below hbx)
     have OH:=hid (bel Fe.out hbx)
     clear Bg yt Fe
     clear hbx
     rw[show HV (some R)=.tuple #[.string (strOf R),.bool true]from rfl]
     have cx:=uS.out.facts.2.2.2.1
     have fx:=uS.out.thaw.2.2.2.1
     go_upto_region 16 with(fail)
     have hxr:=CJ.out.set (k:=w2.heap.size) (i:=3) (.string (strOf R)) (aX.out)
     have hxu:=uS.out.hst R
     have hb:=OH.out.setCell (p:=⟨w2.heap.size,3,none⟩) (fK.out) (.string (strOf R))
     clear CJ uS OH
     clear cx fx
     generalize World.setCell w10 _ _=w11 at hxr hxu hb⊢
     have OV:Hid (UB w11 (w.heap.size) (U0) (.slice none 0 0)):=hxr
     clear hxr
     have zG:Hid (UB w11 (w2.heap.size) ({U0 with au:=S,usr:=xe,MX:=ye,hh:=true,hst:=R}) (.slice none 0 0)):=hxu
     clear hxu
     have Y1:=hid hb
     clear hb
     go_wp2_with fail
     refine(HPO.out _).mono ?_
     rintro e wx ⟨hv,hwx⟩
     obtain rfl:w11=wx:=hwx.symm
     clear hwx
     obtain⟨z,ok,rfl,hzo⟩:=EX hv
     clear hv
     have cx:=zG.out.facts.2.2.2.2.2.1
     have fx:=zG.out.thaw.2.2.2.2.2.1
     go_upto_region 17 with(fail)
     have hxr:=OV.out.set (k:=w2.heap.size) (i:=5) (.int .i64 z) (aX.out)
     have hxu:=zG.out.port z
     have hb:=Y1.out.setCell (p:=⟨w2.heap.size,5,none⟩) (fK.out) (.int .i64 z)
     clear OV zG Y1
     clear cx fx
     generalize World.setCell w11 _ _=w12 at hxr hxu hb⊢
     have CO:Hid (UB w12 (w.heap.size) (U0) (.slice none 0 0)):=hxr
     clear hxr
     have WH:Hid (UB w12 (w2.heap.size) ({U0 with au:=S,usr:=xe,MX:=ye,hh:=true,hst:=R,port:=z}) (.slice none 0 0)):=hxu
     clear hxu
     have Y2:=hid hb
     clear hb
     rcases hzo with⟨hz,rfl⟩|⟨hz,rfl⟩
     ·
      have mX:Hid (O=some {U0 with au:=S,usr:=xe,MX:=ye,hst:=R,hh:=true,port:=z,aO:=rooted S D}):=by show _=_;rw[Ti.out,hz]
      clear hz
      go_wp2_with fail
      refine(UC.out _).mono ?_
      rintro e w13 ⟨q,rfl,hown,hbx⟩
      obtain⟨A,c2,rfl,hq⟩:=bW (u:={U0 with aO:=rooted S D}) hown
      clear hq
      replace hown:=ay hown (Nat.le_refl _)
      have zF:Hid (w2.heap.size<w12.heap.size):=WH.out.lt
      have iy:Hid (w.heap.size<w12.heap.size):=CO.out.lt
      have ajV:=hid (CO.out.below hbx)
      have WI:=hid (WH.out.below hbx)
      have HBw13:=hid (bel Y2.out hbx)
      have ajJ:=hid hown
      clear hown
      clear CO WH Y2
      clear hbx
      have BX:=zF.out
      have cx:=WI.out.facts.2.2.2.2.2.2.2.2.1
      have fx:=WI.out.thaw.2.2.2.2.2.2.2.2.1
      go_upto_region 20 with(fail)
      have hxr:=ajV.out.set (k:=w2.heap.size) (i:=8) (.slice A (rooted S D).length c2) (aX.out)
      have hxu:=WI.out.path (.slice A (rooted S D).length c2)
      have hoq:=gU.aN (w':=w13.setCell ⟨w2.heap.size,8,none⟩ (.slice A (rooted S D).length c2)) (gb:=w2.heap.size) ajJ.out (fun k hk=>heap_setCell_other _ _ _ _ hk) (by omega)
      have hb:=HBw13.out.setCell (p:=⟨w2.heap.size,8,none⟩) (fK.out) (.slice A (rooted S D).length c2)
      clear ajV WI ajJ HBw13
      clear cx fx
      generalize World.setCell w13 _ _=w14 at hxr hxu hoq hb⊢
      have ajW:Hid (UB w14 (w.heap.size) (U0) (.slice none 0 0)):=hxr
      clear hxr
      have HXuw14:Hid (UB w14 (w2.heap.size) ({U0 with au:=S,usr:=xe,MX:=ye,hh:=true,hst:=R,port:=z}) (.slice A (rooted S D).length c2)):=hxu
      clear hxu
      have HOqw14:=hid hoq
      clear hoq
      have HBw14:=hid hb
      clear hb
      clear BX
      obtain⟨c0,c1,c2',c3,c4,c5,c6,c7,c8,c9,c10,c11,c12⟩:=HXuw14.out.facts
      go_wp2_with (refine aC ajW.out {U0 with au:=S,usr:=xe,MX:=ye,hh:=true,hst:=R,port:=z} A (rooted S D).length c2 (.tmp 4) (.tmp 91) rfl rfl rfl rfl ?_)
      try simp only[Exit.inBlock,Exit.then]
      have hpo:∀k,k≠w.heap.size→(World.setRow w14 (w.heap.size) (cells {U0 with au:=S,usr:=xe,MX:=ye,hh:=true,hst:=R,port:=z} (.slice A (rooted S D).length c2))).heap[k]?=w14.heap[k]?:=fun k hk=>setRow_other _ _ _ _ hk
      have ho:=ay (gU.aN HOqw14.out hpo iy.out) (by have h1:=bP.out;have h2:=iy.out;omega:w.heap.size≤_)
      exact bodyPost_ret (w:=World.setRow w14 w.heap.size (cells {U0 with au:=S,usr:=xe,MX:=ye,hh:=true,hst:=R,port:=z} (.slice A (rooted S D).length c2))) (res2 (u:={U0 with au:=S,usr:=xe,MX:=ye,hh:=true,hst:=R,port:=z}) (p:=(.slice A (rooted S D).length c2)) rfl (ajW.out.row {U0 with au:=S,usr:=xe,MX:=ye,hh:=true,hst:=R,port:=z} _) true _ rfl rfl) rfl (eH (u:={U0 with au:=S,usr:=xe,MX:=ye,hst:=R,hh:=true,port:=z,aO:=rooted S D}) mX.out (below_setRow HBw14.out bP.out _) ho)
     ·
      have qc:Hid (O=none):=by show _=_;rw[Ti.out,hz]
      clear hz
      go_wp2_with (refine aC CO.out U0 none 0 0 (.tmp 4) (.tmp 86) rfl rfl rfl rfl ?_)
      try simp only[Exit.inBlock,Exit.then]
      exact bodyPost_ret (w:=World.setRow w12 w.heap.size (cells U0 (.slice none 0 0))) (res2 (u:=U0) (p:=.slice none 0 0) rfl (CO.out.row U0 _) false _ rfl rfl) rfl (kH qc.out (below_setRow Y2.out bP.out _))
end Go.Proofs.YtgamccijegollaaGreatDoor.yx
namespace Go.Proofs.YtgamccijegollaaGreatDoor.aj8
open Go.RowKit Base L6 Dp dI cO acA Kr acG WS acv ac2 acD aco jQ acJ Zo WJ sU pO wS yw tN Fp mW tK yx
theorem AX (L:List UInt8) (w:World):Calls Tryz.prog 119 #[.string (strOf L),.string (cs true)] w fun e w'=>e=.returned (.string (strOf (L.dropWhile (gB true))))∧Below w.heap.size w w':=by
 refine(Tryz.strings_TrimLeft_set (strOf L) (cs true) w (by decide) (fun j b h=>?_)).mono ?_
 ·have:b ∈ [47,92]:=List.mem_of_getElem? h
  simp only[List.mem_cons,List.not_mem_nil,or_false]at this
  rcases this with rfl|rfl<;>decide
 rintro e w2 ⟨rfl,hb⟩
 refine⟨?_,hb⟩
 rw[show(strOf L).data.toList=L from rfl,show(cs true).data.toList=[47,92]from rfl]
 unfold Lib.trimLeftS
 congr 3
 have:(fun c=>[47,92].contains c)=gB true:=by
  funext c
  simp[gB]
 rw[this]
theorem Oa (T:List UInt8) (w:World) (hs:T.length≤900000) (hL:oI w) (hT:Tab.Pow w) (hM:Max w):Calls Tryz.prog 214 #[.string (strOf T)] w (mO w (far T)):=by
 obtain⟨O,hO⟩:∃O,O=far T:=⟨_,rfl⟩
 rw[←hO]
 obtain⟨X,hX⟩:∃X,X=T.take (upto true T):=⟨_,rfl⟩
 obtain⟨D,hD⟩:∃D,D=T.drop (upto true T):=⟨_,rfl⟩
 have hXl:X.length≤900000:=by rw[hX,List.length_take];omega
 have hDl:D.length≤900000:=by rw[hD,List.length_drop];omega
 have hU:∀w:World,Calls Tryz.prog 224 #[.string ⟨#[102,105,108,101]⟩,.string (strOf T)] w fun e w'=>e=.returned (.tuple #[.string (strOf X),.string (strOf D)])∧Below w.heap.size w w':=fun w=>by rw[hX,hD];exact Ws (strOf FILE) (strOf T) w (dW (by omega))
 unfold far at hO
 rw[←hX,←hD]at hO
 have HO:=hid hO
 have HU:=hid hU
 have HDR:Hid (∀w:World,Calls Tryz.prog 277 #[.string (strOf X)] w fun e w'=>e=.returned (.bool (drv X))∧w=w'):=fun w=>kL (strOf X) w
 have UC:Hid (∀(L:List UInt8) (w:World),L.length≤900000→Calls Tryz.prog 223 #[.string ⟨#[102,105,108,101]⟩,.string (strOf L)] w (lu w.heap.size w (rooted FILE L))):=fun L w h=>AA (strOf FILE) (strOf L) w (dW h)
 have HH:Hid (∀w:World,oI w→Tab.Pow w→Max w→Calls Tryz.prog 227 #[.string (strOf X),.bool true] w fun e w'=>e=.returned (HV (hst X true))∧Below w.heap.size w w'):=fun w a b d=>sU.parse_any (strOf X) true w (dW hXl) a b d
 have HL:=hid hL
 have HT:=hid hT
 have HM:=hid hM
 clear hO hU hX hD hL hT hM hXl
 go_enter Tryz.func214,Tryz.ntmps214
 go_upto_region 1 with(fail)
 generalize hw:World.alloc w _=w1
 have h1:UB w1 (w.heap.size) (U0) (.slice none 0 0)∧Below w.heap.size w w1:=by
  subst hw
  exact laid1 w _ _
 clear hw
 have bP:Hid (w.heap.size≤w.heap.size):=(Below.refl w.heap.size w).size
 have bM:=hid (bel (Below.refl w.heap.size w) h1.2)
 have aW:=hid h1.1
 clear h1
 go_upto_region 2 with(fail)
 generalize hw:World.alloc w1 _=w2
 have h1:UB w2 (w1.heap.size) (uF) (.slice none 0 0)∧Below w1.heap.size w1 w2:=by
  subst hw
  exact laid1 w1 _ _
 clear hw
 have hlr:=aW.out.lt
 have aX:Hid (w.heap.size≠w1.heap.size):=by show _≠_;omega
 have nO:Hid (w1.heap.size≠w.heap.size):=by show _≠_;omega
 clear hlr
 have fK:Hid (w.heap.size≤w1.heap.size):=bM.out.size
 have bK:=hid (aW.out.below h1.2)
 have eX:=hid (bel bM.out h1.2)
 have fZ:=hid h1.1
 clear aW bM
 clear h1
 go_wp2_with fail
 refine(HU.out _).mono ?_
 rintro e w3 ⟨rfl,hbx⟩
 have bD:=hid (bK.out.below hbx)
 have eY:=hid (fZ.out.below hbx)
 have cZ:=hid (bel eX.out hbx)
 clear bK fZ eX
 clear hbx
 cases hd:drv X with
 |true=>
  have mX:Hid (O=some {uF with aO:=rooted FILE T}):=by show _=_;rw[HO.out,if_pos hd]
  rw[hd]at HDR
  clear hd
  go_wp2_with fail
  refine(HDR.out _).mono ?_
  rintro e wx ⟨rfl,hwx⟩
  obtain rfl:w3=wx:=by first|exact hwx|exact hwx.symm
  clear hwx
  go_wp2_with fail
  refine(UC.out T _ hs).mono ?_
  rintro e w4 ⟨q,rfl,hown,hbx⟩
  obtain⟨Aq,cq,rfl,hq⟩:=bW (u:={U0 with aO:=rooted FILE T}) hown
  clear hq
  replace hown:=ay hown (Nat.le_refl _)
  have zF:Hid (w1.heap.size<w3.heap.size):=eY.out.lt
  have iy:Hid (w.heap.size<w3.heap.size):=bD.out.lt
  have bF:=hid (bD.out.below hbx)
  have bV:=hid (eY.out.below hbx)
  have dD:=hid (bel cZ.out hbx)
  have OQ:=hid hown
  clear hown
  clear bD eY cZ
  clear hbx
  have BX:=zF.out
  have cx:=bV.out.facts.2.2.2.2.2.2.2.2.1
  have fx:=bV.out.thaw.2.2.2.2.2.2.2.2.1
  go_upto_region 12 with(fail)
  have hxr:=bF.out.set (k:=w1.heap.size) (i:=8) (.slice Aq (rooted FILE T).length cq) (aX.out)
  have hxu:=bV.out.path (.slice Aq (rooted FILE T).length cq)
  have hoq:=gU.aN (w':=w4.setCell ⟨w1.heap.size,8,none⟩ (.slice Aq (rooted FILE T).length cq)) (gb:=w1.heap.size) OQ.out (fun k hk=>heap_setCell_other _ _ _ _ hk) (by omega)
  have hb:=dD.out.setCell (p:=⟨w1.heap.size,8,none⟩) (fK.out) (.slice Aq (rooted FILE T).length cq)
  clear bF bV OQ dD
  clear cx fx
  generalize World.setCell w4 _ _=w5 at hxr hxu hoq hb⊢
  have bH:Hid (UB w5 (w.heap.size) (U0) (.slice none 0 0)):=hxr
  clear hxr
  have bJ:Hid (UB w5 (w1.heap.size) (uF) (.slice Aq (rooted FILE T).length cq)):=hxu
  clear hxu
  have Ic:=hid hoq
  clear hoq
  have fC:=hid hb
  clear hb
  clear BX
  obtain⟨c0,c1,c2',c3,c4,c5,c6,c7,c8,c9,c10,c11,c12⟩:=bJ.out.facts
  go_wp2_with (refine aC bH.out (uF) Aq (rooted FILE T).length cq (.tmp 2) (.tmp 35) rfl rfl rfl rfl ?_)
  try simp only[Exit.inBlock,Exit.then]
  have hpo:∀k,k≠w.heap.size→(World.setRow w5 (w.heap.size) (cells (uF) (.slice Aq (rooted FILE T).length cq))).heap[k]?=w5.heap[k]?:=fun k hk=>setRow_other _ _ _ _ hk
  have ho:=ay (gU.aN Ic.out hpo iy.out) (by have h1:=bP.out;have h2:=iy.out;omega:w.heap.size≤_)
  exact bodyPost_ret (w:=World.setRow w5 w.heap.size (cells (uF) (.slice Aq (rooted FILE T).length cq))) (res2 (u:=uF) (p:=.slice Aq (rooted FILE T).length cq) rfl (bH.out.row (uF) _) true _ rfl rfl) rfl (eH (u:={uF with aO:=rooted FILE T}) mX.out (below_setRow fC.out bP.out _) ho)
 | false=>
  have jy:Hid (O=if X=[]then some {uF with aO:=rooted FILE D}else match hst X true with|none=>none|some H=>some {uF with hst:=if H=LOCAL then[]else H,aO:=rooted FILE D}):=by show _=_;rw[HO.out,if_neg (by rw[hd];simp)];first|done|rfl
  rw[hd]at HDR
  clear hd HO
  go_wp2_with fail
  refine(HDR.out _).mono ?_
  rintro e wx ⟨rfl,hwx⟩
  obtain rfl:w3=wx:=by first|exact hwx|exact hwx.symm
  clear hwx
  by_cases h0:X=[]
  ·
   have mX:Hid (O=some {uF with aO:=rooted FILE D}):=by show _=_;rw[jy.out,if_pos h0]
   have q0:((strOf X).toList==[])=true:=by rw[aK,h0];rfl
   have q1:(strOf X).toList=[]:=by rw[aK,h0]
   clear h0
   go_wp2_with fail
   refine(UC.out D _ hDl).mono ?_
   rintro e w4 ⟨q,rfl,hown,hbx⟩
   obtain⟨Aq,cq,rfl,hq⟩:=bW (u:={U0 with aO:=rooted FILE D}) hown
   clear hq
   replace hown:=ay hown (Nat.le_refl _)
   have zF:Hid (w1.heap.size<w3.heap.size):=eY.out.lt
   have iy:Hid (w.heap.size<w3.heap.size):=bD.out.lt
   have bF:=hid (bD.out.below hbx)
   have bV:=hid (eY.out.below hbx)
   have dD:=hid (bel cZ.out hbx)
   have OQ:=hid hown
   clear hown
   clear bD eY cZ
   clear hbx
   have BX:=zF.out
   have cx:=bV.out.facts.2.2.2.2.2.2.2.2.1
   have fx:=bV.out.thaw.2.2.2.2.2.2.2.2.1
   go_upto_region 12 with(fail)
   have hxr:=bF.out.set (k:=w1.heap.size) (i:=8) (.slice Aq (rooted FILE D).length cq) (aX.out)
   have hxu:=bV.out.path (.slice Aq (rooted FILE D).length cq)
   have hoq:=gU.aN (w':=w4.setCell ⟨w1.heap.size,8,none⟩ (.slice Aq (rooted FILE D).length cq)) (gb:=w1.heap.size) OQ.out (fun k hk=>heap_setCell_other _ _ _ _ hk) (by omega)
   have hb:=dD.out.setCell (p:=⟨w1.heap.size,8,none⟩) (fK.out) (.slice Aq (rooted FILE D).length cq)
   clear bF bV OQ dD
   clear cx fx
   generalize World.setCell w4 _ _=w5 at hxr hxu hoq hb⊢
   have bH:Hid (UB w5 (w.heap.size) (U0) (.slice none 0 0)):=hxr
   clear hxr
   have bJ:Hid (UB w5 (w1.heap.size) (uF) (.slice Aq (rooted FILE D).length cq)):=hxu
   clear hxu
   have Ic:=hid hoq
   clear hoq
   have fC:=hid hb
   clear hb
   clear BX
   obtain⟨c0,c1,c2',c3,c4,c5,c6,c7,c8,c9,c10,c11,c12⟩:=bJ.out.facts
   go_wp2_with (refine aC bH.out (uF) Aq (rooted FILE D).length cq (.tmp 2) (.tmp 35) rfl rfl rfl rfl ?_)
   try simp only[Exit.inBlock,Exit.then]
   have hpo:∀k,k≠w.heap.size→(World.setRow w5 (w.heap.size) (cells (uF) (.slice Aq (rooted FILE D).length cq))).heap[k]?=w5.heap[k]?:=fun k hk=>setRow_other _ _ _ _ hk
   have ho:=ay (gU.aN Ic.out hpo iy.out) (by have h1:=bP.out;have h2:=iy.out;omega:w.heap.size≤_)
   exact bodyPost_ret (w:=World.setRow w5 w.heap.size (cells (uF) (.slice Aq (rooted FILE D).length cq))) (res2 (u:=uF) (p:=.slice Aq (rooted FILE D).length cq) rfl (bH.out.row (uF) _) true _ rfl rfl) rfl (eH (u:={uF with aO:=rooted FILE D}) mX.out (below_setRow fC.out bP.out _) ho)
  ·
   have iV:Hid (O=match hst X true with|none=>none|some H=>some {uF with hst:=if H=LOCAL then[]else H,aO:=rooted FILE D}):=by show _=_;rw[jy.out,if_neg h0]
   have q0:((strOf X).toList==[])=false:=by rw[aK,beq_eq_false_iff_ne];exact h0
   have q1:¬(strOf X).toList=[]:=by rw[aK];exact h0
   have q2:(strOf X).toList.isEmpty=false:=by rw[aK];simpa using h0
   clear h0 jy
   cases hx:hst X true with
   |none=>
    have qc:Hid (O=none):=by show _=_;rw[iV.out,hx]
    rw[hx]at HH
    clear hx
    go_wp2_with fail
    refine(HH.out _ (HL.out.below cZ.out) (bY HT.out cZ.out) (HM.out.below cZ.out)).mono ?_
    rintro e w4 ⟨rfl,hbx⟩
    have bF:=hid (bD.out.below hbx)
    have bV:=hid (eY.out.below hbx)
    have dD:=hid (bel cZ.out hbx)
    clear bD eY cZ
    clear hbx
    rw[show HV none=.tuple #[.string (strOf []),.bool false]from rfl]
    go_wp2_with (refine aC bF.out U0 none 0 0 (.tmp 2) (.tmp 27) rfl rfl rfl rfl ?_)
    try simp only[Exit.inBlock,Exit.then]
    exact bodyPost_ret (w:=World.setRow w4 w.heap.size (cells U0 (.slice none 0 0))) (res2 (u:=U0) (p:=.slice none 0 0) rfl (bF.out.row U0 _) false _ rfl rfl) rfl (kH qc.out (below_setRow dD.out bP.out _))
   |some H=>
    have Ti:Hid (O=some {uF with hst:=if H=LOCAL then[]else H,aO:=rooted FILE D}):=by show _=_;rw[iV.out,hx]
    rw[hx]at HH
    clear hx iV
    go_wp2_with fail
    refine(HH.out _ (HL.out.below cZ.out) (bY HT.out cZ.out) (HM.out.below cZ.out)).mono ?_
    rintro e w4 ⟨rfl,hbx⟩
    have bF:=hid (bD.out.below hbx)
    have bV:=hid (eY.out.below hbx)
    have dD:=hid (bel cZ.out hbx)
    clear bD eY cZ
    clear hbx
    rw[show HV (some H)=.tuple #[.string (strOf H),.bool true]from rfl]
    skip
    by_cases hl:H=LOCAL
    ·
     have mX:Hid (O=some {uF with aO:=rooted FILE D}):=by show _=_;rw[Ti.out,if_pos hl];rfl
     have l0:((strOf H).toList==[108,111,99,97,108,104,111,115,116])=true:=by rw[aK,hl];rfl
     have l1:(strOf H).toList=[108,111,99,97,108,104,111,115,116]:=by rw[aK,hl];rfl
     clear hl
     go_wp2_with fail
     refine(UC.out D _ hDl).mono ?_
     rintro e w5 ⟨q,rfl,hown,hbx⟩
     obtain⟨Aq,cq,rfl,hq⟩:=bW (u:={U0 with aO:=rooted FILE D}) hown
     clear hq
     replace hown:=ay hown (Nat.le_refl _)
     have zF:Hid (w1.heap.size<w4.heap.size):=bV.out.lt
     have iy:Hid (w.heap.size<w4.heap.size):=bF.out.lt
     have bH:=hid (bF.out.below hbx)
     have bJ:=hid (bV.out.below hbx)
     have fC:=hid (bel dD.out hbx)
     have Ic:=hid hown
     clear hown
     clear bF bV dD
     clear hbx
     have BX:=zF.out
     have cx:=bJ.out.facts.2.2.2.2.2.2.2.2.1
     have fx:=bJ.out.thaw.2.2.2.2.2.2.2.2.1
     go_upto_region 12 with(fail)
     have hxr:=bH.out.set (k:=w1.heap.size) (i:=8) (.slice Aq (rooted FILE D).length cq) (aX.out)
     have hxu:=bJ.out.path (.slice Aq (rooted FILE D).length cq)
     have hoq:=gU.aN (w':=w5.setCell ⟨w1.heap.size,8,none⟩ (.slice Aq (rooted FILE D).length cq)) (gb:=w1.heap.size) Ic.out (fun k hk=>heap_setCell_other _ _ _ _ hk) (by omega)
     have hb:=fC.out.setCell (p:=⟨w1.heap.size,8,none⟩) (fK.out) (.slice Aq (rooted FILE D).length cq)
     clear bH bJ Ic fC
     clear cx fx
     generalize World.setCell w5 _ _=w6 at hxr hxu hoq hb⊢
     have bT:Hid (UB w6 (w.heap.size) (U0) (.slice none 0 0)):=hxr
     clear hxr
     have bG:Hid (UB w6 (w1.heap.size) (uF) (.slice Aq (rooted FILE D).length cq)):=hxu
     clear hxu
     have uP:=hid hoq
     clear hoq
     have gq:=hid hb
     clear hb
     clear BX
     obtain⟨c0,c1,c2',c3,c4,c5,c6,c7,c8,c9,c10,c11,c12⟩:=bG.out.facts
     go_wp2_with (refine aC bT.out (uF) Aq (rooted FILE D).length cq (.tmp 2) (.tmp 35) rfl rfl rfl rfl ?_)
     try simp only[Exit.inBlock,Exit.then]
     have hpo:∀k,k≠w.heap.size→(World.setRow w6 (w.heap.size) (cells (uF) (.slice Aq (rooted FILE D).length cq))).heap[k]?=w6.heap[k]?:=fun k hk=>setRow_other _ _ _ _ hk
     have ho:=ay (gU.aN uP.out hpo iy.out) (by have h1:=bP.out;have h2:=iy.out;omega:w.heap.size≤_)
     exact bodyPost_ret (w:=World.setRow w6 w.heap.size (cells (uF) (.slice Aq (rooted FILE D).length cq))) (res2 (u:=uF) (p:=.slice Aq (rooted FILE D).length cq) rfl (bT.out.row (uF) _) true _ rfl rfl) rfl (eH (u:={uF with aO:=rooted FILE D}) mX.out (below_setRow gq.out bP.out _) ho)
    ·
     have mX:Hid (O=some {uF with hst:=H,aO:=rooted FILE D}):=by show _=_;rw[Ti.out,if_neg hl]
     have l0:((strOf H).toList==[108,111,99,97,108,104,111,115,116])=false:=by rw[aK,beq_eq_false_iff_ne];exact hl
     have l1:¬(strOf H).toList=[108,111,99,97,108,104,111,115,116]:=by rw[aK];exact hl
     clear hl
     have cx:=bV.out.facts.2.2.2.1
     have fx:=bV.out.thaw.2.2.2.1
     go_upto_region 11 with(fail)
     have hxr:=bF.out.set (k:=w1.heap.size) (i:=3) (.string (strOf H)) (aX.out)
     have hxu:=bV.out.hst H
     have hb:=dD.out.setCell (p:=⟨w1.heap.size,3,none⟩) (fK.out) (.string (strOf H))
     clear bF bV dD
     clear cx fx
     generalize World.setCell w4 _ _=w5 at hxr hxu hb⊢
     have bH:Hid (UB w5 (w.heap.size) (U0) (.slice none 0 0)):=hxr
     clear hxr
     have bJ:Hid (UB w5 (w1.heap.size) ({uF with hst:=H}) (.slice none 0 0)):=hxu
     clear hxu
     have fC:=hid hb
     clear hb
     go_wp2_with fail
     refine(UC.out D _ hDl).mono ?_
     rintro e w6 ⟨q,rfl,hown,hbx⟩
     obtain⟨Aq,cq,rfl,hq⟩:=bW (u:={U0 with aO:=rooted FILE D}) hown
     clear hq
     replace hown:=ay hown (Nat.le_refl _)
     have zF:Hid (w1.heap.size<w5.heap.size):=bJ.out.lt
     have iy:Hid (w.heap.size<w5.heap.size):=bH.out.lt
     have bT:=hid (bH.out.below hbx)
     have bG:=hid (bJ.out.below hbx)
     have gq:=hid (bel fC.out hbx)
     have uP:=hid hown
     clear hown
     clear bH bJ fC
     clear hbx
     have BX:=zF.out
     have cx:=bG.out.facts.2.2.2.2.2.2.2.2.1
     have fx:=bG.out.thaw.2.2.2.2.2.2.2.2.1
     go_upto_region 12 with(fail)
     have hxr:=bT.out.set (k:=w1.heap.size) (i:=8) (.slice Aq (rooted FILE D).length cq) (aX.out)
     have hxu:=bG.out.path (.slice Aq (rooted FILE D).length cq)
     have hoq:=gU.aN (w':=w6.setCell ⟨w1.heap.size,8,none⟩ (.slice Aq (rooted FILE D).length cq)) (gb:=w1.heap.size) uP.out (fun k hk=>heap_setCell_other _ _ _ _ hk) (by omega)
     have hb:=gq.out.setCell (p:=⟨w1.heap.size,8,none⟩) (fK.out) (.slice Aq (rooted FILE D).length cq)
     clear bT bG uP gq
     clear cx fx
     generalize World.setCell w6 _ _=w7 at hxr hxu hoq hb⊢
     have dQ:Hid (UB w7 (w.heap.size) (U0) (.slice none 0 0)):=hxr
     clear hxr
     have dO:Hid (UB w7 (w1.heap.size) ({uF with hst:=H}) (.slice Aq (rooted FILE D).length cq)):=hxu
     clear hxu
     have jD:=hid hoq
     clear hoq
     have iU:=hid hb
     clear hb
     clear BX
     obtain⟨c0,c1,c2',c3,c4,c5,c6,c7,c8,c9,c10,c11,c12⟩:=dO.out.facts
     go_wp2_with (refine aC dQ.out ({uF with hst:=H}) Aq (rooted FILE D).length cq (.tmp 2) (.tmp 35) rfl rfl rfl rfl ?_)
     try simp only[Exit.inBlock,Exit.then]
     have hpo:∀k,k≠w.heap.size→(World.setRow w7 (w.heap.size) (cells ({uF with hst:=H}) (.slice Aq (rooted FILE D).length cq))).heap[k]?=w7.heap[k]?:=fun k hk=>setRow_other _ _ _ _ hk
     have ho:=ay (gU.aN jD.out hpo iy.out) (by have h1:=bP.out;have h2:=iy.out;omega:w.heap.size≤_)
     exact bodyPost_ret (w:=World.setRow w7 w.heap.size (cells ({uF with hst:=H}) (.slice Aq (rooted FILE D).length cq))) (res2 (u:={uF with hst:=H}) (p:=.slice Aq (rooted FILE D).length cq) rfl (dQ.out.row ({uF with hst:=H}) _) true _ rfl rfl) rfl (eH (u:={uF with hst:=H,aO:=rooted FILE D}) mX.out (below_setRow iU.out bP.out _) ho)
end Go.Proofs.YtgamccijegollaaGreatDoor.aj8
namespace Go.Proofs.YtgamccijegollaaGreatDoor.PrsF
open Go.RowKit Base L6 Dp dI cO acA Kr acG WS acv ac2 acD aco jQ acJ Zo WJ sU pO wS yw tN Fp mW tK yx aso aj8
theorem Ve (T:List UInt8) (w:World) (hs:T.length≤700000) (hL:oI w) (hT:Tab.Pow w) (hM:Max w):Calls Tryz.prog 114 #[.string (strOf T),.pointer none] w (mO w (file T none)):=by
 obtain⟨O,hO⟩:∃O,O=file T none:=⟨_,rfl⟩
 rw[←hO]
 obtain⟨s0,hs0⟩:∃x,x=rU true T 0:=⟨_,rfl⟩
 obtain⟨s1,hs1⟩:∃x,x=rU true T 1:=⟨_,rfl⟩
 unfold file at hO
 rw[←hs0,←hs1]at hO
 have hlen0:s0=true→1≤T.length:=fun h=>by
  rw[h]at hs0
  by_cases h2:0<T.length
  ·omega
  rw[yM _ _ _ h2]at hs0;cases hs0
 have Y9:=hid hlen0
 have hlen:s1=true→2≤T.length:=fun h=>by
  rw[h]at hs1
  by_cases h2:1<T.length
  ·omega
  rw[yM _ _ _ h2]at hs1;cases hs1
 have HLEN:=hid hlen
 have FI:Hid (∀w:World,Calls Tryz.prog 213 #[.string ⟨#[102,105,108,101]⟩,.string (strOf T),.int .i64 0] w fun e w'=>e=.returned (.bool s0)∧Below w.heap.size w w'):=fun w=>by rw[hs0];exact lJ (strOf FILE) (strOf T) 0 w (by omega)
 have BD:Hid (∀w:World,Calls Tryz.prog 213 #[.string ⟨#[102,105,108,101]⟩,.string (strOf T),.int .i64 1] w fun e w'=>e=.returned (.bool s1)∧Below w.heap.size w w'):=fun w=>by rw[hs1];exact lJ (strOf FILE) (strOf T) 1 w (by omega)
 have HO:=hid hO
 have HFA:Hid (∀(L:List UInt8) (w:World),L.length≤900000→oI w→Tab.Pow w→Max w→Calls Tryz.prog 214 #[.string (strOf L)] w (mO w (far L))):=fun L w h a c d=>Oa L w h a c d
 have HBG:Hid (∀(L:List UInt8) (w:World),L.length≤900000→Calls Tryz.prog 217 #[.string (strOf L)] w fun e w'=>e=.returned (.bool (JR L))∧w=w'):=fun L w h=>PK (strOf L) w (dW (by omega))
 have HWK:Hid (∀(A:Option Addr) (n c:Nat) (l:List ByteArray) (L:List UInt8) (w:World),aY w A n (l.map Value.string)→n≤c→c≤maxLen→n+L.length≤900000→Calls Tryz.prog 220 #[.string ⟨#[102,105,108,101]⟩,.slice A n c,.string (strOf L)] w (lu w.heap.size w (walk FILE l L))):=fun A n c l L w h1 h2 h3 h4=>walk_any (strOf FILE) A n c l (strOf L) w h1 h2 h3 (by rw[o9];exact h4)
 have HL:=hid hL
 have HT:=hid hT
 have HM:=hid hM
 clear hO hs0 hs1 hlen hlen0 hL hT hM
 go_enter Tryz.func114,Tryz.ntmps114
 go_upto_region 1 with(fail)
 generalize hw:World.alloc w _=w1
 have h1:UB w1 (w.heap.size) (U0) (.slice none 0 0)∧Below w.heap.size w w1:=by
  subst hw
  exact laid1 w _ _
 clear hw
 have bP:Hid (w.heap.size≤w.heap.size):=(Below.refl w.heap.size w).size
 have bM:=hid (bel (Below.refl w.heap.size w) h1.2)
 have aW:=hid h1.1
 clear h1
 go_wp2_with fail
 refine(FI.out _).mono ?_
 rintro e w2 ⟨rfl,hbx⟩
 have bK:=hid (aW.out.below hbx)
 have eX:=hid (bel bM.out hbx)
 clear aW bM
 clear hbx
 cases s0 with
 | true=>
  go_wp2_with fail
  refine(BD.out _).mono ?_
  rintro e w3 ⟨rfl,hbx⟩
  have bD:=hid (bK.out.below hbx)
  have cZ:=hid (bel eX.out hbx)
  clear bK eX
  clear hbx
  cases s1 with
  |true=>
   have hl2:=HLEN.out (by simp)
   have iV:Hid (O=far (T.drop 2)):=by show _=_;rw[HO.out,if_pos (by simp)]
   obtain⟨T2,hT2⟩:∃x,x=T.drop 2:=⟨_,rfl⟩
   have hx2:(strOf T).extract 2 (strOf T).size=strOf T2:=by rw[l7,hT2];rfl
   have hkI:(2:Int)≤((strOf T).size:Int):=by rw[o9];omega
   rw[←hT2]at iV
   have XL:T2.length≤800000:=by rw[hT2,List.length_drop];omega
   clear hT2 hl2
   go_wp2_with fail
   clear hx2
   refine(HFA.out _ _ (by omega) (HL.out.below cZ.out) (bY HT.out cZ.out) (HM.out.below cZ.out)).mono ?_
   rintro e w4 ⟨hbx,u',A',n',c',ok,rfl,hown,yK⟩
   have iy:Hid (w.heap.size<w3.heap.size):=bD.out.lt
   have HOW:=hid hown
   have F8:=hid yK
   clear hown yK
   have bF:=hid (bD.out.below hbx)
   have dD:=hid (bel cZ.out hbx)
   have Ib:Hid (w.heap.size≤w3.heap.size):=cZ.out.size
   clear bD cZ
   clear hbx
   go_wp2_with (refine aC bF.out u' A' n' c' (.tmp 4) (.tmp 17) rfl rfl rfl rfl ?_)
   try simp only[Exit.inBlock,Exit.then]
   exact bodyPost_ret (w:=World.setRow w4 w.heap.size (cells u' (.slice A' n' c'))) (res2 (u:=u') (p:=.slice A' n' c') rfl (bF.out.row u' _) ok _ rfl rfl) rfl ⟨below_setRow dD.out bP.out _,u',A',n',c',ok,rfl,(HOW.out.row iy.out _).base Ib.out,by rw[iV.out];exact F8.out⟩
  |false=>
   have hl1:=Y9.out (by simp)
   have iV:Hid (O=some {uF with aO:=walk FILE [] (T.drop 1)}):=by show _=_;rw[HO.out,if_neg (by simp),if_pos (by simp)];first|done|rfl|(congr 2;simp)
   obtain⟨T2,hT2⟩:∃x,x=T.drop 1:=⟨_,rfl⟩
   have hx2:(strOf T).extract 1 (strOf T).size=strOf T2:=by rw[l7,hT2];rfl
   have hkI:(1:Int)≤((strOf T).size:Int):=by rw[o9];omega
   rw[←hT2]at iV
   have XL:T2.length≤800000:=by rw[hT2,List.length_drop];omega
   clear hT2 hl1
   go_upto_region 4 with(fail)
   generalize hw:World.alloc w3 _=w4
   have h1:UB w4 (w3.heap.size) (uF) (.slice none 0 0)∧Below w3.heap.size w3 w4:=by
    subst hw
    exact laid1 w3 _ _
   clear hw
   have hlr:=bD.out.lt
   have aX:Hid (w.heap.size≠w3.heap.size):=by show _≠_;omega
   have nO:Hid (w3.heap.size≠w.heap.size):=by show _≠_;omega
   clear hlr
   have fK:Hid (w.heap.size≤w3.heap.size):=cZ.out.size
   have bF:=hid (bD.out.below h1.2)
   have dD:=hid (bel cZ.out h1.2)
   have bV:=hid h1.1
   clear bD cZ
   clear h1
   go_wp2_with fail
   refine(FI.out _).mono ?_
   rintro e w5 ⟨rfl,hbx⟩
   have bH:=hid (bF.out.below hbx)
   have bJ:=hid (bV.out.below hbx)
   have fC:=hid (bel dD.out hbx)
   clear bF bV dD
   clear hbx
   go_wp2_with fail
   clear hx2
   refine(HWK.out none 0 0 [] T2 _ (aY.nil _) (Nat.le_refl _) (Nat.zero_le _) (by omega)).mono ?_
   rintro e w6 ⟨q,rfl,hown,hbx⟩
   obtain⟨Aq,cq,rfl,hq⟩:=bW (u:={U0 with aO:=walk FILE [] T2}) hown
   clear hq
   replace hown:=ay hown (Nat.le_refl _)
   have zF:Hid (w3.heap.size<w5.heap.size):=bJ.out.lt
   have iy:Hid (w.heap.size<w5.heap.size):=bH.out.lt
   have bT:=hid (bH.out.below hbx)
   have bG:=hid (bJ.out.below hbx)
   have gq:=hid (bel fC.out hbx)
   have uP:=hid hown
   clear hown
   clear bH bJ fC
   clear hbx
   have BX:=zF.out
   have cx:=bG.out.facts.2.2.2.2.2.2.2.2.1
   have fx:=bG.out.thaw.2.2.2.2.2.2.2.2.1
   go_upto_region 18 with(fail)
   have hxr:=bT.out.set (k:=w3.heap.size) (i:=8) (.slice Aq (walk FILE [] T2).length cq) (aX.out)
   have hxu:=bG.out.path (.slice Aq (walk FILE [] T2).length cq)
   have hoq:=gU.aN (w':=w6.setCell ⟨w3.heap.size,8,none⟩ (.slice Aq (walk FILE [] T2).length cq)) (gb:=w3.heap.size) uP.out (fun k hk=>heap_setCell_other _ _ _ _ hk) (by omega)
   have hb:=gq.out.setCell (p:=⟨w3.heap.size,8,none⟩) (fK.out) (.slice Aq (walk FILE [] T2).length cq)
   clear bT bG uP gq
   clear cx fx
   generalize World.setCell w6 _ _=w7 at hxr hxu hoq hb⊢
   have dQ:Hid (UB w7 (w.heap.size) (U0) (.slice none 0 0)):=hxr
   clear hxr
   have dO:Hid (UB w7 (w3.heap.size) (uF) (.slice Aq (walk FILE [] T2).length cq)):=hxu
   clear hxu
   have jD:=hid hoq
   clear hoq
   have iU:=hid hb
   clear hb
   clear BX
   obtain⟨c0,c1,c2',c3,c4,c5,c6,c7,c8,c9,c10,c11,c12⟩:=dO.out.facts
   go_wp2_with (refine aC dQ.out (uF) Aq (walk FILE [] T2).length cq (.tmp 4) (.tmp 72) rfl rfl rfl rfl ?_)
   try simp only[Exit.inBlock,Exit.then]
   have hpo:∀k,k≠w.heap.size→(World.setRow w7 (w.heap.size) (cells (uF) (.slice Aq (walk FILE [] T2).length cq))).heap[k]?=w7.heap[k]?:=fun k hk=>setRow_other _ _ _ _ hk
   have ho:=ay (gU.aN jD.out hpo iy.out) (by have h1:=bP.out;have h2:=iy.out;omega:w.heap.size≤_)
   exact bodyPost_ret (w:=World.setRow w7 w.heap.size (cells (uF) (.slice Aq (walk FILE [] T2).length cq))) (res2 (u:=uF) (p:=.slice Aq (walk FILE [] T2).length cq) rfl (dQ.out.row (uF) _) true _ rfl rfl) rfl (eH (u:={uF with aO:=walk FILE [] T2}) iV.out (below_setRow iU.out bP.out _) ho)
 |false=>
  clear HLEN Y9 BD
  have jy:Hid (O=some {uF with aO:=walk FILE (if JR T=true then[]else mM true []) T}):=by show _=_;rw[HO.out,if_neg (by simp),if_neg (by simp)]
  clear HO
  go_upto_region 4 with(fail)
  generalize hw:World.alloc w2 _=w3
  have h1:UB w3 (w2.heap.size) (uF) (.slice none 0 0)∧Below w2.heap.size w2 w3:=by
   subst hw
   exact laid1 w2 _ _
  clear hw
  have hlr:=bK.out.lt
  have aX:Hid (w.heap.size≠w2.heap.size):=by show _≠_;omega
  have nO:Hid (w2.heap.size≠w.heap.size):=by show _≠_;omega
  clear hlr
  have fK:Hid (w.heap.size≤w2.heap.size):=eX.out.size
  have bD:=hid (bK.out.below h1.2)
  have cZ:=hid (bel eX.out h1.2)
  have eY:=hid h1.1
  clear bK eX
  clear h1
  go_wp2_with fail
  refine(FI.out _).mono ?_
  rintro e w4 ⟨rfl,hbx⟩
  have bF:=hid (bD.out.below hbx)
  have bV:=hid (eY.out.below hbx)
  have dD:=hid (bel cZ.out hbx)
  clear bD eY cZ
  clear hbx
  cases hb:JR T with
  |true=>
   have HB1:=HBG.out T
   rw[hb]at HB1
   have HB2:=hid HB1
   have iV:Hid (O=some {uF with aO:=walk FILE [] T}):=by show _=_;rw[jy.out,hb];rfl
   clear HB1 hb jy
   go_wp2_with fail
   refine(HB2.out _ (by omega)).mono ?_
   rintro e wx ⟨rfl,hwx⟩
   obtain rfl:w4=wx:=by first|exact hwx|exact hwx.symm
   clear hwx
   go_wp2_with fail
   refine(HWK.out none 0 0 [] T _ (aY.nil _) (Nat.le_refl _) (Nat.zero_le _) (by omega)).mono ?_
   rintro e w5 ⟨q,rfl,hown,hbx⟩
   obtain⟨Aq,cq,rfl,hq⟩:=bW (u:={U0 with aO:=walk FILE [] T}) hown
   clear hq
   replace hown:=ay hown (Nat.le_refl _)
   have zF:Hid (w2.heap.size<w4.heap.size):=bV.out.lt
   have iy:Hid (w.heap.size<w4.heap.size):=bF.out.lt
   have bH:=hid (bF.out.below hbx)
   have bJ:=hid (bV.out.below hbx)
   have fC:=hid (bel dD.out hbx)
   have Ic:=hid hown
   clear hown
   clear bF bV dD
   clear hbx
   have BX:=zF.out
   have cx:=bJ.out.facts.2.2.2.2.2.2.2.2.1
   have fx:=bJ.out.thaw.2.2.2.2.2.2.2.2.1
   go_upto_region 18 with(fail)
   have hxr:=bH.out.set (k:=w2.heap.size) (i:=8) (.slice Aq (walk FILE [] T).length cq) (aX.out)
   have hxu:=bJ.out.path (.slice Aq (walk FILE [] T).length cq)
   have hoq:=gU.aN (w':=w5.setCell ⟨w2.heap.size,8,none⟩ (.slice Aq (walk FILE [] T).length cq)) (gb:=w2.heap.size) Ic.out (fun k hk=>heap_setCell_other _ _ _ _ hk) (by omega)
   have hb:=fC.out.setCell (p:=⟨w2.heap.size,8,none⟩) (fK.out) (.slice Aq (walk FILE [] T).length cq)
   clear bH bJ Ic fC
   clear cx fx
   generalize World.setCell w5 _ _=w6 at hxr hxu hoq hb⊢
   have bT:Hid (UB w6 (w.heap.size) (U0) (.slice none 0 0)):=hxr
   clear hxr
   have bG:Hid (UB w6 (w2.heap.size) (uF) (.slice Aq (walk FILE [] T).length cq)):=hxu
   clear hxu
   have uP:=hid hoq
   clear hoq
   have gq:=hid hb
   clear hb
   clear BX
   obtain⟨c0,c1,c2',c3,c4,c5,c6,c7,c8,c9,c10,c11,c12⟩:=bG.out.facts
   go_wp2_with (refine aC bT.out (uF) Aq (walk FILE [] T).length cq (.tmp 4) (.tmp 72) rfl rfl rfl rfl ?_)
   try simp only[Exit.inBlock,Exit.then]
   have hpo:∀k,k≠w.heap.size→(World.setRow w6 (w.heap.size) (cells (uF) (.slice Aq (walk FILE [] T).length cq))).heap[k]?=w6.heap[k]?:=fun k hk=>setRow_other _ _ _ _ hk
   have ho:=ay (gU.aN uP.out hpo iy.out) (by have h1:=bP.out;have h2:=iy.out;omega:w.heap.size≤_)
   exact bodyPost_ret (w:=World.setRow w6 w.heap.size (cells (uF) (.slice Aq (walk FILE [] T).length cq))) (res2 (u:=uF) (p:=.slice Aq (walk FILE [] T).length cq) rfl (bT.out.row (uF) _) true _ rfl rfl) rfl (eH (u:={uF with aO:=walk FILE [] T}) iV.out (below_setRow gq.out bP.out _) ho)
  |false=>
   have HB1:=HBG.out T
   rw[hb]at HB1
   have HB2:=hid HB1
   have iV:Hid (O=some {uF with aO:=walk FILE [] T}):=by show _=_;rw[jy.out,hb];rfl
   clear HB1 hb jy
   go_wp2_with fail
   refine(HB2.out _ (by omega)).mono ?_
   rintro e wx ⟨rfl,hwx⟩
   obtain rfl:w4=wx:=by first|exact hwx|exact hwx.symm
   clear hwx
   go_wp2_with fail
   refine(Ed true none 0 0 [] _ (aY.nil _) (Nat.le_refl _) (Nat.zero_le _) (by omega)).mono ?_
   rintro e w5 ⟨v,rfl,hown,hbx⟩
   obtain⟨A4,c4,rfl,h4,h5,h6⟩:=aJ hown
   have bH:=hid (bF.out.below hbx)
   have bJ:=hid (bV.out.below hbx)
   have fC:=hid (bel dD.out hbx)
   clear bF bV dD
   clear hbx hown
   rw[show mM true []=[]from rfl]at h4 h6⊢
   go_wp2_with fail
   refine(HWK.out A4 _ c4 [] T _ h6 h4 h5 (by simp;omega)).mono ?_
   rintro e w6 ⟨q,rfl,hown,hbx⟩
   obtain⟨Aq,cq,rfl,hq⟩:=bW (u:={U0 with aO:=walk FILE [] T}) hown
   clear hq
   replace hown:=ay hown (Nat.le_refl _)
   have zF:Hid (w2.heap.size<w5.heap.size):=bJ.out.lt
   have iy:Hid (w.heap.size<w5.heap.size):=bH.out.lt
   have bT:=hid (bH.out.below hbx)
   have bG:=hid (bJ.out.below hbx)
   have gq:=hid (bel fC.out hbx)
   have uP:=hid hown
   clear hown
   clear bH bJ fC
   clear hbx
   have BX:=zF.out
   have cx:=bG.out.facts.2.2.2.2.2.2.2.2.1
   have fx:=bG.out.thaw.2.2.2.2.2.2.2.2.1
   go_upto_region 18 with(fail)
   have hxr:=bT.out.set (k:=w2.heap.size) (i:=8) (.slice Aq (walk FILE [] T).length cq) (aX.out)
   have hxu:=bG.out.path (.slice Aq (walk FILE [] T).length cq)
   have hoq:=gU.aN (w':=w6.setCell ⟨w2.heap.size,8,none⟩ (.slice Aq (walk FILE [] T).length cq)) (gb:=w2.heap.size) uP.out (fun k hk=>heap_setCell_other _ _ _ _ hk) (by omega)
   have hb:=gq.out.setCell (p:=⟨w2.heap.size,8,none⟩) (fK.out) (.slice Aq (walk FILE [] T).length cq)
   clear bT bG uP gq
   clear cx fx
   generalize World.setCell w6 _ _=w7 at hxr hxu hoq hb⊢
   have dQ:Hid (UB w7 (w.heap.size) (U0) (.slice none 0 0)):=hxr
   clear hxr
   have dO:Hid (UB w7 (w2.heap.size) (uF) (.slice Aq (walk FILE [] T).length cq)):=hxu
   clear hxu
   have jD:=hid hoq
   clear hoq
   have iU:=hid hb
   clear hb
   clear BX
   obtain⟨c0,c1,c2',c3,c4,c5,c6,c7,c8,c9,c10,c11,c12⟩:=dO.out.facts
   go_wp2_with (refine aC dQ.out (uF) Aq (walk FILE [] T).length cq (.tmp 4) (.tmp 72) rfl rfl rfl rfl ?_)
   try simp only[Exit.inBlock,Exit.then]
   have hpo:∀k,k≠w.heap.size→(World.setRow w7 (w.heap.size) (cells (uF) (.slice Aq (walk FILE [] T).length cq))).heap[k]?=w7.heap[k]?:=fun k hk=>setRow_other _ _ _ _ hk
   have ho:=ay (gU.aN jD.out hpo iy.out) (by have h1:=bP.out;have h2:=iy.out;omega:w.heap.size≤_)
   exact bodyPost_ret (w:=World.setRow w7 w.heap.size (cells (uF) (.slice Aq (walk FILE [] T).length cq))) (res2 (u:=uF) (p:=.slice Aq (walk FILE [] T).length cq) rfl (dQ.out.row (uF) _) true _ rfl rfl) rfl (eH (u:={uF with aO:=walk FILE [] T}) iV.out (below_setRow iU.out bP.out _) ho)
end Go.Proofs.YtgamccijegollaaGreatDoor.PrsF
namespace Go.Proofs.YtgamccijegollaaGreatDoor.Pbx
open Go.RowKit Base Dp wS
def bQ (p:Parts):Array Value:=#[.string (strOf p.au),.string (strOf p.rest),.string (strOf p.dY),.string (strOf p.fB),.bool p.hq,.bool p.hf]
def P0:Parts:=⟨[],[],[],[],false,false⟩
def PB (w:World) (g:Nat) (p:Parts):Prop:=w.heap[g]?=some (.cells (bQ p) 98 (0,0))
variable {w w':World} {g:Nat} {p:Parts}
theorem PB.lt (h:PB w g p):g<w.heap.size:=(Array.getElem?_eq_some_iff.1 h).1
theorem PB.below (h:PB w g p) (hb:Below w.heap.size w w'):PB w' g p:=(hb.block g h.lt).trans h
theorem PB.facts (h:PB w g p):w.cell? ⟨g,0,none⟩=some (.string (strOf p.au))∧w.cell? ⟨g,1,none⟩=some (.string (strOf p.rest))∧w.cell? ⟨g,2,none⟩=some (.string (strOf p.dY))∧w.cell? ⟨g,3,none⟩=some (.string (strOf p.fB))∧w.cell? ⟨g,4,none⟩=some (.bool p.hq)∧w.cell? ⟨g,5,none⟩=some (.bool p.hf):=
 ⟨cell_of_row w g 0 _ _ _ h,cell_of_row w g 1 _ _ _ h,cell_of_row w g 2 _ _ _ h,cell_of_row w g 3 _ _ _ h,cell_of_row w g 4 _ _ _ h,cell_of_row w g 5 _ _ _ h⟩
theorem PB.thaw (h:PB w g p):w.frozen? ⟨g,0,none⟩=false∧w.frozen? ⟨g,1,none⟩=false∧w.frozen? ⟨g,2,none⟩=false∧w.frozen? ⟨g,3,none⟩=false∧w.frozen? ⟨g,4,none⟩=false∧w.frozen? ⟨g,5,none⟩=false:=
 ⟨frozen_of_row w g 0 _ _ h,frozen_of_row w g 1 _ _ h,frozen_of_row w g 2 _ _ h,frozen_of_row w g 3 _ _ h,frozen_of_row w g 4 _ _ h,frozen_of_row w g 5 _ _ h⟩
theorem PB.au (h:PB w g p) (s:List UInt8):PB (w.setCell ⟨g,0,none⟩ (.string (strOf s))) g {p with au:=s}:=heap_setCell_same w g 0 _ _ _ h
theorem PB.rest (h:PB w g p) (s:List UInt8):PB (w.setCell ⟨g,1,none⟩ (.string (strOf s))) g {p with rest:=s}:=heap_setCell_same w g 1 _ _ _ h
theorem PB.dY (h:PB w g p) (s:List UInt8):PB (w.setCell ⟨g,2,none⟩ (.string (strOf s))) g {p with dY:=s}:=heap_setCell_same w g 2 _ _ _ h
theorem PB.fB (h:PB w g p) (s:List UInt8):PB (w.setCell ⟨g,3,none⟩ (.string (strOf s))) g {p with fB:=s}:=heap_setCell_same w g 3 _ _ _ h
theorem PB.hq (h:PB w g p) (b:Bool):PB (w.setCell ⟨g,4,none⟩ (.bool b)) g {p with hq:=b}:=heap_setCell_same w g 4 _ _ _ h
theorem PB.hf (h:PB w g p) (b:Bool):PB (w.setCell ⟨g,5,none⟩ (.bool b)) g {p with hf:=b}:=heap_setCell_same w g 5 _ _ _ h
theorem PB.set (h:PB w g p) {k i:Nat} (x:Value) (hk:g≠k):PB (w.setCell ⟨k,i,none⟩ x) g p:=by
 unfold PB
 rw[heap_setCell_other _ _ _ _ hk]
 exact h
theorem PB.row (h:PB w g p) (q:Parts):PB (w.setRow g (bQ q)) g q:=setRow_heap w g (bQ p) (bQ q) _ (0,0) h
theorem Ei {ops:Array Oper} {rest:List Oper} {o:Oper} {a:Act} {Q:Exit→Act→World→Prop} (hU:PB w g p) (q:Parts) (x y:Operand) (ho:o.op=.store 98 x y) (hgd:o.guard=none)
  (hx:a.eval x=.pointer (some ⟨g,0,none⟩)) (hy:a.eval y=.agg (bQ q))
  (h:wpList Tryz.prog ops Q rest (a.put o.dst undef) (w.setRow g (bQ q))):wpList Tryz.prog ops Q (o::rest) a w:=
 wpList_store_row hgd 98 x y ho g (bQ q) hx hy 98 (bQ p) hU (by kernel_rfl) rfl (by simp[bQ,Value.oneCell']) h
theorem resP {fn:Func} {a:Tmp} (h:fn.results=#[.cell a 98]) (hU:PB w g p) (tmps:Array Value) (h2:tmps.getD a undef=.pointer (some ⟨g,0,none⟩)):
  (results fn tmps).run Tryz.prog w=.ok (.agg (bQ p)) w:=
 results_cell_row h tmps w g _ _ _ _ h2 hU Tryz.underlying98 rfl (by kernel_rfl)
end Go.Proofs.YtgamccijegollaaGreatDoor.Pbx
