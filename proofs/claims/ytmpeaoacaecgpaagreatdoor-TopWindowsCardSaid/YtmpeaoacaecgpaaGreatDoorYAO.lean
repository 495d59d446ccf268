/- Texts that belong together: aj8, PrsF, akb, acU. -/
import Derived.Test.YtmpeaoacaecgpaaGreatDoorYAM
import Derived.Test.YtmpeaoacaecgpaaGreatDoorYAN
import Derived.Test.YtmpeaoacaecgpaaGreatDoorYAI
set_option linter.unusedSimpArgs false
set_option linter.unusedVariables false
set_option maxRecDepth 100000
set_option maxHeartbeats 64000000
namespace Go.Proofs.YtmpeaoacaecgpaaGreatDoor.aj8
open Go.RowKit Base Regs Base2 dI cO PthP Kr PthE WS PthG PthH PthJ UrlA jQ HstP Zo WJ sU pO PrsP yw tN Fp mW tK yx
theorem AX (L:List UInt8) (w:World):Calls Tryz.prog 117 #[.string (strOf L),.string (cs true)] w fun e w'=>e=.returned (.string (strOf (L.dropWhile (gB true))))∧Below w.heap.size w w':=by
 refine(Tryz.strings_TrimLeft_set (strOf L) (cs true) w (by decide) (fun j b h=>?_)).mono ?_
 ·have:b ∈ [47,92]:=List.mem_of_getElem? h
  simp only[List.mem_cons,List.not_mem_nil,or_false]at this
  rcases this with rfl|rfl<;>decide
 rintro e w2 ⟨rfl,hb⟩
 refine⟨?_,hb⟩
 rw[show(strOf L).data.toList=L from rfl,show(cs true).data.toList=[47,92]from rfl]
 unfold Lib.trimLeftS
 congr 3
 have:(fun c=>[47,92].contains c)=gB true:=by
  funext c
  simp[gB]
 rw[this]
theorem Oa (T:List UInt8) (w:World) (hs:T.length≤900000) (hL:oI w) (hT:Tab.Pow w) (hM:Max w):Calls Tryz.prog 219 #[.string (strOf T)] w (mO w (far T)):=by
 obtain⟨O,hO⟩:∃O,O=far T:=⟨_,rfl⟩
 rw[←hO]
 obtain⟨X,hX⟩:∃X,X=T.take (upto true T):=⟨_,rfl⟩
 obtain⟨D,hD⟩:∃D,D=T.drop (upto true T):=⟨_,rfl⟩
 have hXl:X.length≤900000:=by rw[hX,List.length_take];omega
 have hDl:D.length≤900000:=by rw[hD,List.length_drop];omega
 have hU:∀w:World,Calls Tryz.prog 227 #[.string ⟨#[102,105,108,101]⟩,.string (strOf T)] w fun e w'=>e=.returned (.tuple #[.string (strOf X),.string (strOf D)])∧Below w.heap.size w w':=fun w=>by rw[hX,hD];exact Ws (strOf FILE) (strOf T) w (dW (by omega))
 unfold far at hO
 rw[←hX,←hD]at hO
 have HO:=hid hO
 have HU:=hid hU
 have HDR:Hid (∀w:World,Calls Tryz.prog 282 #[.string (strOf X)] w fun e w'=>e=.returned (.bool (drv X))∧w=w'):=fun w=>kL (strOf X) w
 have UC:Hid (∀(L:List UInt8) (w:World),L.length≤900000→Calls Tryz.prog 226 #[.string ⟨#[102,105,108,101]⟩,.string (strOf L)] w (lu w.heap.size w (rooted FILE L))):=fun L w h=>AA (strOf FILE) (strOf L) w (dW h)
 have HH:Hid (∀w:World,oI w→Tab.Pow w→Max w→Calls Tryz.prog 230 #[.string (strOf X),.bool true] w fun e w'=>e=.returned (HV (hst X true))∧Below w.heap.size w w'):=fun w a b d=>sU.parse_any (strOf X) true w (dW hXl) a b d
 have HL:=hid hL
 have HT:=hid hT
 have HM:=hid hM
 clear hO hU hX hD hL hT hM hXl
 go_enter Tryz.func219,Tryz.ntmps219
 go_upto_region 1 with(fail)
 generalize hw:World.alloc w _=w1
 have h1:UB w1 (w.heap.size) (U0) (.slice none 0 0)∧Below w.heap.size w w1:=by
  subst hw
  exact laid1 w _ _
 clear hw
 have bP:Hid (w.heap.size≤w.heap.size):=(Below.refl w.heap.size w).size
 have bM:=hid (bel (Below.refl w.heap.size w) h1.2)
 have aW:=hid h1.1
 clear h1
 go_upto_region 2 with(fail)
 generalize hw:World.alloc w1 _=w2
 have h1:UB w2 (w1.heap.size) (uF) (.slice none 0 0)∧Below w1.heap.size w1 w2:=by
  subst hw
  exact laid1 w1 _ _
 clear hw
 have hlr:=aW.out.lt
 have aX:Hid (w.heap.size≠w1.heap.size):=by show _≠_;omega
 have nO:Hid (w1.heap.size≠w.heap.size):=by show _≠_;omega
 clear hlr
 have fK:Hid (w.heap.size≤w1.heap.size):=bM.out.size
 have bK:=hid (aW.out.below h1.2)
 have eX:=hid (bel bM.out h1.2)
 have fZ:=hid h1.1
 clear aW bM
 clear h1
 go_wp2_with fail
 refine(HU.out _).mono ?_
 rintro e w3 ⟨rfl,hbx⟩
 have bD:=hid (bK.out.below hbx)
 have eY:=hid (fZ.out.below hbx)
 have cZ:=hid (bel eX.out hbx)
 clear bK fZ eX
 clear hbx
 cases hd:drv X with
 |true=>
  have mX:Hid (O=some {uF with aO:=rooted FILE T}):=by show _=_;rw[HO.out,if_pos hd]
  rw[hd]at HDR
  clear hd
  go_wp2_with fail
  refine(HDR.out _).mono ?_
  rintro e wx ⟨rfl,hwx⟩
  obtain rfl:w3=wx:=by first|exact hwx|exact hwx.symm
  clear hwx
  go_wp2_with fail
  refine(UC.out T _ hs).mono ?_
  rintro e w4 ⟨q,rfl,hown,hbx⟩
  obtain⟨Aq,cq,rfl,hq⟩:=bW (u:={U0 with aO:=rooted FILE T}) hown
  clear hq
  replace hown:=ay hown (Nat.le_refl _)
  have zF:Hid (w1.heap.size<w3.heap.size):=eY.out.lt
  have iy:Hid (w.heap.size<w3.heap.size):=bD.out.lt
  have bF:=hid (bD.out.below hbx)
  have bV:=hid (eY.out.below hbx)
  have dD:=hid (bel cZ.out hbx)
  have OQ:=hid hown
  clear hown
  clear bD eY cZ
  clear hbx
  have BX:=zF.out
  have cx:=bV.out.facts.2.2.2.2.2.2.2.2.1
  have fx:=bV.out.thaw.2.2.2.2.2.2.2.2.1
  go_upto_region 12 with(fail)
  have hxr:=bF.out.set (k:=w1.heap.size) (i:=8) (.slice Aq (rooted FILE T).length cq) (aX.out)
  have hxu:=bV.out.path (.slice Aq (rooted FILE T).length cq)
  have hoq:=gU.aN (w':=w4.setCell ⟨w1.heap.size,8,none⟩ (.slice Aq (rooted FILE T).length cq)) (gb:=w1.heap.size) OQ.out (fun k hk=>heap_setCell_other _ _ _ _ hk) (by omega)
  have hb:=dD.out.setCell (p:=⟨w1.heap.size,8,none⟩) (fK.out) (.slice Aq (rooted FILE T).length cq)
  clear bF bV OQ dD
  clear cx fx
  generalize World.setCell w4 _ _=w5 at hxr hxu hoq hb⊢
  have bH:Hid (UB w5 (w.heap.size) (U0) (.slice none 0 0)):=hxr
  clear hxr
  have bJ:Hid (UB w5 (w1.heap.size) (uF) (.slice Aq (rooted FILE T).length cq)):=hxu
  clear hxu
  have Ic:=hid hoq
  clear hoq
  have fC:=hid hb
  clear hb
  clear BX
  obtain⟨c0,c1,c2',c3,c4,c5,c6,c7,c8,c9,c10,c11,c12⟩:=bJ.out.facts
  go_wp2_with (refine aC bH.out (uF) Aq (rooted FILE T).length cq (.tmp 2) (.tmp 35) rfl rfl rfl rfl ?_)
  try simp only[Exit.inBlock,Exit.then]
  have hpo:∀k,k≠w.heap.size→(World.setRow w5 (w.heap.size) (cells (uF) (.slice Aq (rooted FILE T).length cq))).heap[k]?=w5.heap[k]?:=fun k hk=>setRow_other _ _ _ _ hk
  have ho:=ay (gU.aN Ic.out hpo iy.out) (by have h1:=bP.out;have h2:=iy.out;omega:w.heap.size≤_)
  exact bodyPost_ret (w:=World.setRow w5 w.heap.size (cells (uF) (.slice Aq (rooted FILE T).length cq))) (res2 (u:=uF) (p:=.slice Aq (rooted FILE T).length cq) rfl (bH.out.row (uF) _) true _ rfl rfl) rfl (eH (u:={uF with aO:=rooted FILE T}) mX.out (below_setRow fC.out bP.out _) ho)
 | false=>
  have jy:Hid (O=if X=[]then some {uF with aO:=rooted FILE D}else match hst X true with|none=>none|some H=>some {uF with hst:=if H=LOCAL then[]else H,aO:=rooted FILE D}):=by show _=_;rw[HO.out,if_neg (by rw[hd];simp)];first|done|rfl
  rw[hd]at HDR
  clear hd HO
  go_wp2_with fail
  refine(HDR.out _).mono ?_
  rintro e wx ⟨rfl,hwx⟩
  obtain rfl:w3=wx:=by first|exact hwx|exact hwx.symm
  clear hwx
  by_cases h0:X=[]
  ·
   have mX:Hid (O=some {uF with aO:=rooted FILE D}):=by show _=_;rw[jy.out,if_pos h0]
   have q0:((strOf X).toList==[])=true:=by rw[aK,h0];rfl
   have q1:(strOf X).toList=[]:=by rw[aK,h0]
   clear h0
   go_wp2_with fail
   refine(UC.out D _ hDl).mono ?_
   rintro e w4 ⟨q,rfl,hown,hbx⟩
   obtain⟨Aq,cq,rfl,hq⟩:=bW (u:={U0 with aO:=rooted FILE D}) hown
   clear hq
   replace hown:=ay hown (Nat.le_refl _)
   have zF:Hid (w1.heap.size<w3.heap.size):=eY.out.lt
   have iy:Hid (w.heap.size<w3.heap.size):=bD.out.lt
   have bF:=hid (bD.out.below hbx)
   have bV:=hid (eY.out.below hbx)
   have dD:=hid (bel cZ.out hbx)
   have OQ:=hid hown
   clear hown
   clear bD eY cZ
   clear hbx
   have BX:=zF.out
   have cx:=bV.out.facts.2.2.2.2.2.2.2.2.1
   have fx:=bV.out.thaw.2.2.2.2.2.2.2.2.1
   go_upto_region 12 with(fail)
   have hxr:=bF.out.set (k:=w1.heap.size) (i:=8) (.slice Aq (rooted FILE D).length cq) (aX.out)
   have hxu:=bV.out.path (.slice Aq (rooted FILE D).length cq)
   have hoq:=gU.aN (w':=w4.setCell ⟨w1.heap.size,8,none⟩ (.slice Aq (rooted FILE D).length cq)) (gb:=w1.heap.size) OQ.out (fun k hk=>heap_setCell_other _ _ _ _ hk) (by omega)
   have hb:=dD.out.setCell (p:=⟨w1.heap.size,8,none⟩) (fK.out) (.slice Aq (rooted FILE D).length cq)
   clear bF bV OQ dD
   clear cx fx
   generalize World.setCell w4 _ _=w5 at hxr hxu hoq hb⊢
   have bH:Hid (UB w5 (w.heap.size) (U0) (.slice none 0 0)):=hxr
   clear hxr
   have bJ:Hid (UB w5 (w1.heap.size) (uF) (.slice Aq (rooted FILE D).length cq)):=hxu
   clear hxu
   have Ic:=hid hoq
   clear hoq
   have fC:=hid hb
   clear hb
   clear BX
   obtain⟨c0,c1,c2',c3,c4,c5,c6,c7,c8,c9,c10,c11,c12⟩:=bJ.out.facts
   go_wp2_with (refine aC bH.out (uF) Aq (rooted FILE D).length cq (.tmp 2) (.tmp 35) rfl rfl rfl rfl ?_)
   try simp only[Exit.inBlock,Exit.then]
   have hpo:∀k,k≠w.heap.size→(World.setRow w5 (w.heap.size) (cells (uF) (.slice Aq (rooted FILE D).length cq))).heap[k]?=w5.heap[k]?:=fun k hk=>setRow_other _ _ _ _ hk
   have ho:=ay (gU.aN Ic.out hpo iy.out) (by have h1:=bP.out;have h2:=iy.out;omega:w.heap.size≤_)
   exact bodyPost_ret (w:=World.setRow w5 w.heap.size (cells (uF) (.slice Aq (rooted FILE D).length cq))) (res2 (u:=uF) (p:=.slice Aq (rooted FILE D).length cq) rfl (bH.out.row (uF) _) true _ rfl rfl) rfl (eH (u:={uF with aO:=rooted FILE D}) mX.out (below_setRow fC.out bP.out _) ho)
  ·
   have iV:Hid (O=match hst X true with|none=>none|some H=>some {uF with hst:=if H=LOCAL then[]else H,aO:=rooted FILE D}):=by show _=_;rw[jy.out,if_neg h0]
   have q0:((strOf X).toList==[])=false:=by rw[aK,beq_eq_false_iff_ne];exact h0
   have q1:¬(strOf X).toList=[]:=by rw[aK];exact h0
   have q2:(strOf X).toList.isEmpty=false:=by rw[aK];simpa using h0
   clear h0 jy
   cases hx:hst X true with
   |none=>
    have qc:Hid (O=none):=by show _=_;rw[iV.out,hx]
    rw[hx]at HH
    clear hx
    go_wp2_with fail
    refine(HH.out _ (HL.out.below cZ.out) (bY HT.out cZ.out) (HM.out.below cZ.out)).mono ?_
    rintro e w4 ⟨rfl,hbx⟩
    have bF:=hid (bD.out.below hbx)
    have bV:=hid (eY.out.below hbx)
    have dD:=hid (bel cZ.out hbx)
    clear bD eY cZ
    clear hbx
    rw[show HV none=.tuple #[.string (strOf []),.bool false]from rfl]
    go_wp2_with (refine aC bF.out U0 none 0 0 (.tmp 2) (.tmp 27) rfl rfl rfl rfl ?_)
    try simp only[Exit.inBlock,Exit.then]
    exact bodyPost_ret (w:=World.setRow w4 w.heap.size (cells U0 (.slice none 0 0))) (res2 (u:=U0) (p:=.slice none 0 0) rfl (bF.out.row U0 _) false _ rfl rfl) rfl (kH qc.out (below_setRow dD.out bP.out _))
   |some H=>
    have Ti:Hid (O=some {uF with hst:=if H=LOCAL then[]else H,aO:=rooted FILE D}):=by show _=_;rw[iV.out,hx]
    rw[hx]at HH
    clear hx iV
    go_wp2_with fail
    refine(HH.out _ (HL.out.below cZ.out) (bY HT.out cZ.out) (HM.out.below cZ.out)).mono ?_
    rintro e w4 ⟨rfl,hbx⟩
    have bF:=hid (bD.out.below hbx)
    have bV:=hid (eY.out.below hbx)
    have dD:=hid (bel cZ.out hbx)
    clear bD eY cZ
    clear hbx
    rw[show HV (some H)=.tuple #[.string (strOf H),.bool true]from rfl]
    skip
    by_cases hl:H=LOCAL
    ·
     have mX:Hid (O=some {uF with aO:=rooted FILE D}):=by show _=_;rw[Ti.out,if_pos hl];rfl
     have l0:((strOf H).toList==[108,111,99,97,108,104,111,115,116])=true:=by rw[aK,hl];rfl
     have l1:(strOf H).toList=[108,111,99,97,108,104,111,115,116]:=by rw[aK,hl];rfl
     clear hl
     go_wp2_with fail
     refine(UC.out D _ hDl).mono ?_
     rintro e w5 ⟨q,rfl,hown,hbx⟩
     obtain⟨Aq,cq,rfl,hq⟩:=bW (u:={U0 with aO:=rooted FILE D}) hown
     clear hq
     replace hown:=ay hown (Nat.le_refl _)
     have zF:Hid (w1.heap.size<w4.heap.size):=bV.out.lt
     have iy:Hid (w.heap.size<w4.heap.size):=bF.out.lt
     have bH:=hid (bF.out.below hbx)
     have bJ:=hid (bV.out.below hbx)
     have fC:=hid (bel dD.out hbx)
     have Ic:=hid hown
     clear hown
     clear bF bV dD
     clear hbx
     have BX:=zF.out
     have cx:=bJ.out.facts.2.2.2.2.2.2.2.2.1
     have fx:=bJ.out.thaw.2.2.2.2.2.2.2.2.1
     go_upto_region 12 with(fail)
     have hxr:=bH.out.set (k:=w1.heap.size) (i:=8) (.slice Aq (rooted FILE D).length cq) (aX.out)
     have hxu:=bJ.out.path (.slice Aq (rooted FILE D).length cq)
     have hoq:=gU.aN (w':=w5.setCell ⟨w1.heap.size,8,none⟩ (.slice Aq (rooted FILE D).length cq)) (gb:=w1.heap.size) Ic.out (fun k hk=>heap_setCell_other _ _ _ _ hk) (by omega)
     have hb:=fC.out.setCell (p:=⟨w1.heap.size,8,none⟩) (fK.out) (.slice Aq (rooted FILE D).length cq)
     clear bH bJ Ic fC
     clear cx fx
     generalize World.setCell w5 _ _=w6 at hxr hxu hoq hb⊢
     have bT:Hid (UB w6 (w.heap.size) (U0) (.slice none 0 0)):=hxr
     clear hxr
     have bG:Hid (UB w6 (w1.heap.size) (uF) (.slice Aq (rooted FILE D).length cq)):=hxu
     clear hxu
     have uP:=hid hoq
     clear hoq
     have gq:=hid hb
     clear hb
     clear BX
     obtain⟨c0,c1,c2',c3,c4,c5,c6,c7,c8,c9,c10,c11,c12⟩:=bG.out.facts
     go_wp2_with (refine aC bT.out (uF) Aq (rooted FILE D).length cq (.tmp 2) (.tmp 35) rfl rfl rfl rfl ?_)
     try simp only[Exit.inBlock,Exit.then]
     have hpo:∀k,k≠w.heap.size→(World.setRow w6 (w.heap.size) (cells (uF) (.slice Aq (rooted FILE D).length cq))).heap[k]?=w6.heap[k]?:=fun k hk=>setRow_other _ _ _ _ hk
     have ho:=ay (gU.aN uP.out hpo iy.out) (by have h1:=bP.out;have h2:=iy.out;omega:w.heap.size≤_)
     exact bodyPost_ret (w:=World.setRow w6 w.heap.size (cells (uF) (.slice Aq (rooted FILE D).length cq))) (res2 (u:=uF) (p:=.slice Aq (rooted FILE D).length cq) rfl (bT.out.row (uF) _) true _ rfl rfl) rfl (eH (u:={uF with aO:=rooted FILE D}) mX.out (below_setRow gq.out bP.out _) ho)
    ·
     have mX:Hid (O=some {uF with hst:=H,aO:=rooted FILE D}):=by show _=_;rw[Ti.out,if_neg hl]
     have l0:((strOf H).toList==[108,111,99,97,108,104,111,115,116])=false:=by rw[aK,beq_eq_false_iff_ne];exact hl
     have l1:¬(strOf H).toList=[108,111,99,97,108,104,111,115,116]:=by rw[aK];exact hl
     clear hl
     have cx:=bV.out.facts.2.2.2.1
     have fx:=bV.out.thaw.2.2.2.1
     go_upto_region 11 with(fail)
     have hxr:=bF.out.set (k:=w1.heap.size) (i:=3) (.string (strOf H)) (aX.out)
     have hxu:=bV.out.hst H
     have hb:=dD.out.setCell (p:=⟨w1.heap.size,3,none⟩) (fK.out) (.string (strOf H))
     clear bF bV dD
     clear cx fx
     generalize World.setCell w4 _ _=w5 at hxr hxu hb⊢
     have bH:Hid (UB w5 (w.heap.size) (U0) (.slice none 0 0)):=hxr
     clear hxr
     have bJ:Hid (UB w5 (w1.heap.size) ({uF with hst:=H}) (.slice none 0 0)):=hxu
     clear hxu
     have fC:=hid hb
     clear hb
     go_wp2_with fail
     refine(UC.out D _ hDl).mono ?_
     rintro e w6 ⟨q,rfl,hown,hbx⟩
     obtain⟨Aq,cq,rfl,hq⟩:=bW (u:={U0 with aO:=rooted FILE D}) hown
     clear hq
     replace hown:=ay hown (Nat.le_refl _)
     have zF:Hid (w1.heap.size<w5.heap.size):=bJ.out.lt
     have iy:Hid (w.heap.size<w5.heap.size):=bH.out.lt
     have bT:=hid (bH.out.below hbx)
     have bG:=hid (bJ.out.below hbx)
     have gq:=hid (bel fC.out hbx)
     have uP:=hid hown
     clear hown
     clear bH bJ fC
     clear hbx
     have BX:=zF.out
     have cx:=bG.out.facts.2.2.2.2.2.2.2.2.1
     have fx:=bG.out.thaw.2.2.2.2.2.2.2.2.1
     go_upto_region 12 with(fail)
     have hxr:=bT.out.set (k:=w1.heap.size) (i:=8) (.slice Aq (rooted FILE D).length cq) (aX.out)
     have hxu:=bG.out.path (.slice Aq (rooted FILE D).length cq)
     have hoq:=gU.aN (w':=w6.setCell ⟨w1.heap.size,8,none⟩ (.slice Aq (rooted FILE D).length cq)) (gb:=w1.heap.size) uP.out (fun k hk=>heap_setCell_other _ _ _ _ hk) (by omega)
     have hb:=gq.out.setCell (p:=⟨w1.heap.size,8,none⟩) (fK.out) (.slice Aq (rooted FILE D).length cq)
     clear bT bG uP gq
     clear cx fx
     generalize World.setCell w6 _ _=w7 at hxr hxu hoq hb⊢
     have dQ:Hid (UB w7 (w.heap.size) (U0) (.slice none 0 0)):=hxr
     clear hxr
     have dO:Hid (UB w7 (w1.heap.size) ({uF with hst:=H}) (.slice Aq (rooted FILE D).length cq)):=hxu
     clear hxu
     have jD:=hid hoq
     clear hoq
     have iU:=hid hb
     clear hb
     clear BX
     obtain⟨c0,c1,c2',c3,c4,c5,c6,c7,c8,c9,c10,c11,c12⟩:=dO.out.facts
     go_wp2_with (refine aC dQ.out ({uF with hst:=H}) Aq (rooted FILE D).length cq (.tmp 2) (.tmp 35) rfl rfl rfl rfl ?_)
     try simp only[Exit.inBlock,Exit.then]
     have hpo:∀k,k≠w.heap.size→(World.setRow w7 (w.heap.size) (cells ({uF with hst:=H}) (.slice Aq (rooted FILE D).length cq))).heap[k]?=w7.heap[k]?:=fun k hk=>setRow_other _ _ _ _ hk
     have ho:=ay (gU.aN jD.out hpo iy.out) (by have h1:=bP.out;have h2:=iy.out;omega:w.heap.size≤_)
     exact bodyPost_ret (w:=World.setRow w7 w.heap.size (cells ({uF with hst:=H}) (.slice Aq (rooted FILE D).length cq))) (res2 (u:={uF with hst:=H}) (p:=.slice Aq (rooted FILE D).length cq) rfl (dQ.out.row ({uF with hst:=H}) _) true _ rfl rfl) rfl (eH (u:={uF with hst:=H,aO:=rooted FILE D}) mX.out (below_setRow iU.out bP.out _) ho)
end Go.Proofs.YtmpeaoacaecgpaaGreatDoor.aj8
namespace Go.Proofs.YtmpeaoacaecgpaaGreatDoor.PrsF
open Go.RowKit Base Regs Base2 dI cO PthP Kr PthE WS PthG PthH PthJ UrlA jQ HstP Zo WJ sU pO PrsP yw tN Fp mW tK yx PthD aj8
theorem Ve (T:List UInt8) (w:World) (hs:T.length≤700000) (hL:oI w) (hT:Tab.Pow w) (hM:Max w):Calls Tryz.prog 113 #[.string (strOf T),.pointer none] w (mO w (file T none)):=by
 obtain⟨O,hO⟩:∃O,O=file T none:=⟨_,rfl⟩
 rw[←hO]
 obtain⟨s0,hs0⟩:∃x,x=rU true T 0:=⟨_,rfl⟩
 obtain⟨s1,hs1⟩:∃x,x=rU true T 1:=⟨_,rfl⟩
 unfold file at hO
 rw[←hs0,←hs1]at hO
 have hlen0:s0=true→1≤T.length:=fun h=>by
  rw[h]at hs0
  by_cases h2:0<T.length
  ·omega
  rw[yM _ _ _ h2]at hs0;cases hs0
 have Y9:=hid hlen0
 have hlen:s1=true→2≤T.length:=fun h=>by
  rw[h]at hs1
  by_cases h2:1<T.length
  ·omega
  rw[yM _ _ _ h2]at hs1;cases hs1
 have HLEN:=hid hlen
 have FI:Hid (∀w:World,Calls Tryz.prog 218 #[.string ⟨#[102,105,108,101]⟩,.string (strOf T),.int .i64 0] w fun e w'=>e=.returned (.bool s0)∧Below w.heap.size w w'):=fun w=>by rw[hs0];exact lJ (strOf FILE) (strOf T) 0 w (by omega)
 have BD:Hid (∀w:World,Calls Tryz.prog 218 #[.string ⟨#[102,105,108,101]⟩,.string (strOf T),.int .i64 1] w fun e w'=>e=.returned (.bool s1)∧Below w.heap.size w w'):=fun w=>by rw[hs1];exact lJ (strOf FILE) (strOf T) 1 w (by omega)
 have HO:=hid hO
 have HFA:Hid (∀(L:List UInt8) (w:World),L.length≤900000→oI w→Tab.Pow w→Max w→Calls Tryz.prog 219 #[.string (strOf L)] w (mO w (far L))):=fun L w h a c d=>Oa L w h a c d
 have HBG:Hid (∀(L:List UInt8) (w:World),L.length≤900000→Calls Tryz.prog 221 #[.string (strOf L)] w fun e w'=>e=.returned (.bool (JR L))∧w=w'):=fun L w h=>PK (strOf L) w (dW (by omega))
 have HWK:Hid (∀(A:Option Addr) (n c:Nat) (l:List ByteArray) (L:List UInt8) (w:World),aY w A n (l.map Value.string)→n≤c→c≤maxLen→n+L.length≤900000→Calls Tryz.prog 224 #[.string ⟨#[102,105,108,101]⟩,.slice A n c,.string (strOf L)] w (lu w.heap.size w (walk FILE l L))):=fun A n c l L w h1 h2 h3 h4=>walk_any (strOf FILE) A n c l (strOf L) w h1 h2 h3 (by rw[size_strOf];exact h4)
 have HL:=hid hL
 have HT:=hid hT
 have HM:=hid hM
 clear hO hs0 hs1 hlen hlen0 hL hT hM
 go_enter Tryz.func113,Tryz.ntmps113
 go_upto_region 1 with(fail)
 generalize hw:World.alloc w _=w1
 have h1:UB w1 (w.heap.size) (U0) (.slice none 0 0)∧Below w.heap.size w w1:=by
  subst hw
  exact laid1 w _ _
 clear hw
 have bP:Hid (w.heap.size≤w.heap.size):=(Below.refl w.heap.size w).size
 have bM:=hid (bel (Below.refl w.heap.size w) h1.2)
 have aW:=hid h1.1
 clear h1
 go_wp2_with fail
 refine(FI.out _).mono ?_
 rintro e w2 ⟨rfl,hbx⟩
 have bK:=hid (aW.out.below hbx)
 have eX:=hid (bel bM.out hbx)
 clear aW bM
 clear hbx
 cases s0 with
 | true=>
  go_wp2_with fail
  refine(BD.out _).mono ?_
  rintro e w3 ⟨rfl,hbx⟩
  have bD:=hid (bK.out.below hbx)
  have cZ:=hid (bel eX.out hbx)
  clear bK eX
  clear hbx
  cases s1 with
  |true=>
   have hl2:=HLEN.out (by simp)
   have iV:Hid (O=far (T.drop 2)):=by show _=_;rw[HO.out,if_pos (by simp)]
   obtain⟨T2,hT2⟩:∃x,x=T.drop 2:=⟨_,rfl⟩
   have hx2:(strOf T).extract 2 (strOf T).size=strOf T2:=by rw[l7,hT2];rfl
   have hkI:(2:Int)≤((strOf T).size:Int):=by rw[size_strOf];omega
   rw[←hT2]at iV
   have XL:T2.length≤800000:=by rw[hT2,List.length_drop];omega
   clear hT2 hl2
   go_wp2_with fail
   clear hx2
   refine(HFA.out _ _ (by omega) (HL.out.below cZ.out) (bY HT.out cZ.out) (HM.out.below cZ.out)).mono ?_
   rintro e w4 ⟨hbx,u',A',n',c',ok,rfl,hown,yK⟩
   have iy:Hid (w.heap.size<w3.heap.size):=bD.out.lt
   have HOW:=hid hown
   have F8:=hid yK
   clear hown yK
   have bF:=hid (bD.out.below hbx)
   have dD:=hid (bel cZ.out hbx)
   have Ib:Hid (w.heap.size≤w3.heap.size):=cZ.out.size
   clear bD cZ
   clear hbx
   go_wp2_with (refine aC bF.out u' A' n' c' (.tmp 4) (.tmp 17) rfl rfl rfl rfl ?_)
   try simp only[Exit.inBlock,Exit.then]
   exact bodyPost_ret (w:=World.setRow w4 w.heap.size (cells u' (.slice A' n' c'))) (res2 (u:=u') (p:=.slice A' n' c') rfl (bF.out.row u' _) ok _ rfl rfl) rfl ⟨below_setRow dD.out bP.out _,u',A',n',c',ok,rfl,(HOW.out.row iy.out _).base Ib.out,by rw[iV.out];exact F8.out⟩
  |false=>
   have hl1:=Y9.out (by simp)
   have iV:Hid (O=some {uF with aO:=walk FILE [] (T.drop 1)}):=by show _=_;rw[HO.out,if_neg (by simp),if_pos (by simp)];first|done|rfl|(congr 2;simp)
   obtain⟨T2,hT2⟩:∃x,x=T.drop 1:=⟨_,rfl⟩
   have hx2:(strOf T).extract 1 (strOf T).size=strOf T2:=by rw[l7,hT2];rfl
   have hkI:(1:Int)≤((strOf T).size:Int):=by rw[size_strOf];omega
   rw[←hT2]at iV
   have XL:T2.length≤800000:=by rw[hT2,List.length_drop];omega
   clear hT2 hl1
   go_upto_region 4 with(fail)
   generalize hw:World.alloc w3 _=w4
   have h1:UB w4 (w3.heap.size) (uF) (.slice none 0 0)∧Below w3.heap.size w3 w4:=by
    subst hw
    exact laid1 w3 _ _
   clear hw
   have hlr:=bD.out.lt
   have aX:Hid (w.heap.size≠w3.heap.size):=by show _≠_;omega
   have nO:Hid (w3.heap.size≠w.heap.size):=by show _≠_;omega
   clear hlr
   have fK:Hid (w.heap.size≤w3.heap.size):=cZ.out.size
   have bF:=hid (bD.out.below h1.2)
   have dD:=hid (bel cZ.out h1.2)
   have bV:=hid h1.1
   clear bD cZ
   clear h1
   go_wp2_with fail
   refine(FI.out _).mono ?_
   rintro e w5 ⟨rfl,hbx⟩
   have bH:=hid (bF.out.below hbx)
   have bJ:=hid (bV.out.below hbx)
   have fC:=hid (bel dD.out hbx)
   clear bF bV dD
   clear hbx
   go_wp2_with fail
   clear hx2
   refine(HWK.out none 0 0 [] T2 _ (aY.nil _) (Nat.le_refl _) (Nat.zero_le _) (by omega)).mono ?_
   rintro e w6 ⟨q,rfl,hown,hbx⟩
   obtain⟨Aq,cq,rfl,hq⟩:=bW (u:={U0 with aO:=walk FILE [] T2}) hown
   clear hq
   replace hown:=ay hown (Nat.le_refl _)
   have zF:Hid (w3.heap.size<w5.heap.size):=bJ.out.lt
   have iy:Hid (w.heap.size<w5.heap.size):=bH.out.lt
   have bT:=hid (bH.out.below hbx)
   have bG:=hid (bJ.out.below hbx)
   have gq:=hid (bel fC.out hbx)
   have uP:=hid hown
   clear hown
   clear bH bJ fC
   clear hbx
   have BX:=zF.out
   have cx:=bG.out.facts.2.2.2.2.2.2.2.2.1
   have fx:=bG.out.thaw.2.2.2.2.2.2.2.2.1
   go_upto_region 18 with(fail)
   have hxr:=bT.out.set (k:=w3.heap.size) (i:=8) (.slice Aq (walk FILE [] T2).length cq) (aX.out)
   have hxu:=bG.out.path (.slice Aq (walk FILE [] T2).length cq)
   have hoq:=gU.aN (w':=w6.setCell ⟨w3.heap.size,8,none⟩ (.slice Aq (walk FILE [] T2).length cq)) (gb:=w3.heap.size) uP.out (fun k hk=>heap_setCell_other _ _ _ _ hk) (by omega)
   have hb:=gq.out.setCell (p:=⟨w3.heap.size,8,none⟩) (fK.out) (.slice Aq (walk FILE [] T2).length cq)
   clear bT bG uP gq
   clear cx fx
   generalize World.setCell w6 _ _=w7 at hxr hxu hoq hb⊢
   have dQ:Hid (UB w7 (w.heap.size) (U0) (.slice none 0 0)):=hxr
   clear hxr
   have dO:Hid (UB w7 (w3.heap.size) (uF) (.slice Aq (walk FILE [] T2).length cq)):=hxu
   clear hxu
   have jD:=hid hoq
   clear hoq
   have iU:=hid hb
   clear hb
   clear BX
   obtain⟨c0,c1,c2',c3,c4,c5,c6,c7,c8,c9,c10,c11,c12⟩:=dO.out.facts
   go_wp2_with (refine aC dQ.out (uF) Aq (walk FILE [] T2).length cq (.tmp 4) (.tmp 72) rfl rfl rfl rfl ?_)
   try simp only[Exit.inBlock,Exit.then]
   have hpo:∀k,k≠w.heap.size→(World.setRow w7 (w.heap.size) (cells (uF) (.slice Aq (walk FILE [] T2).length cq))).heap[k]?=w7.heap[k]?:=fun k hk=>setRow_other _ _ _ _ hk
   have ho:=ay (gU.aN jD.out hpo iy.out) (by have h1:=bP.out;have h2:=iy.out;omega:w.heap.size≤_)
   exact bodyPost_ret (w:=World.setRow w7 w.heap.size (cells (uF) (.slice Aq (walk FILE [] T2).length cq))) (res2 (u:=uF) (p:=.slice Aq (walk FILE [] T2).length cq) rfl (dQ.out.row (uF) _) true _ rfl rfl) rfl (eH (u:={uF with aO:=walk FILE [] T2}) iV.out (below_setRow iU.out bP.out _) ho)
 |false=>
  clear HLEN Y9 BD
  have jy:Hid (O=some {uF with aO:=walk FILE (if JR T=true then[]else mM true []) T}):=by show _=_;rw[HO.out,if_neg (by simp),if_neg (by simp)]
  clear HO
  go_upto_region 4 with(fail)
  generalize hw:World.alloc w2 _=w3
  have h1:UB w3 (w2.heap.size) (uF) (.slice none 0 0)∧Below w2.heap.size w2 w3:=by
   subst hw
   exact laid1 w2 _ _
  clear hw
  have hlr:=bK.out.lt
  have aX:Hid (w.heap.size≠w2.heap.size):=by show _≠_;omega
  have nO:Hid (w2.heap.size≠w.heap.size):=by show _≠_;omega
  clear hlr
  have fK:Hid (w.heap.size≤w2.heap.size):=eX.out.size
  have bD:=hid (bK.out.below h1.2)
  have cZ:=hid (bel eX.out h1.2)
  have eY:=hid h1.1
  clear bK eX
  clear h1
  go_wp2_with fail
  refine(FI.out _).mono ?_
  rintro e w4 ⟨rfl,hbx⟩
  have bF:=hid (bD.out.below hbx)
  have bV:=hid (eY.out.below hbx)
  have dD:=hid (bel cZ.out hbx)
  clear bD eY cZ
  clear hbx
  cases hb:JR T with
  |true=>
   have HB1:=HBG.out T
   rw[hb]at HB1
   have HB2:=hid HB1
   have iV:Hid (O=some {uF with aO:=walk FILE [] T}):=by show _=_;rw[jy.out,hb];rfl
   clear HB1 hb jy
   go_wp2_with fail
   refine(HB2.out _ (by omega)).mono ?_
   rintro e wx ⟨rfl,hwx⟩
   obtain rfl:w4=wx:=by first|exact hwx|exact hwx.symm
   clear hwx
   go_wp2_with fail
   refine(HWK.out none 0 0 [] T _ (aY.nil _) (Nat.le_refl _) (Nat.zero_le _) (by omega)).mono ?_
   rintro e w5 ⟨q,rfl,hown,hbx⟩
   obtain⟨Aq,cq,rfl,hq⟩:=bW (u:={U0 with aO:=walk FILE [] T}) hown
   clear hq
   replace hown:=ay hown (Nat.le_refl _)
   have zF:Hid (w2.heap.size<w4.heap.size):=bV.out.lt
   have iy:Hid (w.heap.size<w4.heap.size):=bF.out.lt
   have bH:=hid (bF.out.below hbx)
   have bJ:=hid (bV.out.below hbx)
   have fC:=hid (bel dD.out hbx)
   have Ic:=hid hown
   clear hown
   clear bF bV dD
   clear hbx
   have BX:=zF.out
   have cx:=bJ.out.facts.2.2.2.2.2.2.2.2.1
   have fx:=bJ.out.thaw.2.2.2.2.2.2.2.2.1
   go_upto_region 18 with(fail)
   have hxr:=bH.out.set (k:=w2.heap.size) (i:=8) (.slice Aq (walk FILE [] T).length cq) (aX.out)
   have hxu:=bJ.out.path (.slice Aq (walk FILE [] T).length cq)
   have hoq:=gU.aN (w':=w5.setCell ⟨w2.heap.size,8,none⟩ (.slice Aq (walk FILE [] T).length cq)) (gb:=w2.heap.size) Ic.out (fun k hk=>heap_setCell_other _ _ _ _ hk) (by omega)
   have hb:=fC.out.setCell (p:=⟨w2.heap.size,8,none⟩) (fK.out) (.slice Aq (walk FILE [] T).length cq)
   clear bH bJ Ic fC
   clear cx fx
   generalize World.setCell w5 _ _=w6 at hxr hxu hoq hb⊢
   have bT:Hid (UB w6 (w.heap.size) (U0) (.slice none 0 0)):=hxr
   clear hxr
   have bG:Hid (UB w6 (w2.heap.size) (uF) (.slice Aq (walk FILE [] T).length cq)):=hxu
   clear hxu
   have uP:=hid hoq
   clear hoq
   have gq:=hid hb
   clear hb
   clear BX
   obtain⟨c0,c1,c2',c3,c4,c5,c6,c7,c8,c9,c10,c11,c12⟩:=bG.out.facts
   go_wp2_with (refine aC bT.out (uF) Aq (walk FILE [] T).length cq (.tmp 4) (.tmp 72) rfl rfl rfl rfl ?_)
   try simp only[Exit.inBlock,Exit.then]
   have hpo:∀k,k≠w.heap.size→(World.setRow w6 (w.heap.size) (cells (uF) (.slice Aq (walk FILE [] T).length cq))).heap[k]?=w6.heap[k]?:=fun k hk=>setRow_other _ _ _ _ hk
   have ho:=ay (gU.aN uP.out hpo iy.out) (by have h1:=bP.out;have h2:=iy.out;omega:w.heap.size≤_)
   exact bodyPost_ret (w:=World.setRow w6 w.heap.size (cells (uF) (.slice Aq (walk FILE [] T).length cq))) (res2 (u:=uF) (p:=.slice Aq (walk FILE [] T).length cq) rfl (bT.out.row (uF) _) true _ rfl rfl) rfl (eH (u:={uF with aO:=walk FILE [] T}) iV.out (below_setRow gq.out bP.out _) ho)
  |false=>
   have HB1:=HBG.out T
   rw[hb]at HB1
   have HB2:=hid HB1
   have iV:Hid (O=some {uF with aO:=walk FILE [] T}):=by show _=_;rw[jy.out,hb];rfl
   clear HB1 hb jy
   go_wp2_with fail
   refine(HB2.out _ (by omega)).mono ?_
   rintro e wx ⟨rfl,hwx⟩
   obtain rfl:w4=wx:=by first|exact hwx|exact hwx.symm
   clear hwx
   go_wp2_with fail
   refine(Ed true none 0 0 [] _ (aY.nil _) (Nat.le_refl _) (Nat.zero_le _) (by omega)).mono ?_
   rintro e w5 ⟨v,rfl,hown,hbx⟩
   obtain⟨A4,c4,rfl,h4,h5,h6⟩:=aJ hown
   have bH:=hid (bF.out.below hbx)
   have bJ:=hid (bV.out.below hbx)
   have fC:=hid (bel dD.out hbx)
   clear bF bV dD
   clear hbx hown
   rw[show mM true []=[]from rfl]at h4 h6⊢
   go_wp2_with fail
   refine(HWK.out A4 _ c4 [] T _ h6 h4 h5 (by simp;omega)).mono ?_
   rintro e w6 ⟨q,rfl,hown,hbx⟩
   obtain⟨Aq,cq,rfl,hq⟩:=bW (u:={U0 with aO:=walk FILE [] T}) hown
   clear hq
   replace hown:=ay hown (Nat.le_refl _)
   have zF:Hid (w2.heap.size<w5.heap.size):=bJ.out.lt
   have iy:Hid (w.heap.size<w5.heap.size):=bH.out.lt
   have bT:=hid (bH.out.below hbx)
   have bG:=hid (bJ.out.below hbx)
   have gq:=hid (bel fC.out hbx)
   have uP:=hid hown
   clear hown
   clear bH bJ fC
   clear hbx
   have BX:=zF.out
   have cx:=bG.out.facts.2.2.2.2.2.2.2.2.1
   have fx:=bG.out.thaw.2.2.2.2.2.2.2.2.1
   go_upto_region 18 with(fail)
   have hxr:=bT.out.set (k:=w2.heap.size) (i:=8) (.slice Aq (walk FILE [] T).length cq) (aX.out)
   have hxu:=bG.out.path (.slice Aq (walk FILE [] T).length cq)
   have hoq:=gU.aN (w':=w6.setCell ⟨w2.heap.size,8,none⟩ (.slice Aq (walk FILE [] T).length cq)) (gb:=w2.heap.size) uP.out (fun k hk=>heap_setCell_other _ _ _ _ hk) (by omega)
   have hb:=gq.out.setCell (p:=⟨w2.heap.size,8,none⟩) (fK.out) (.slice Aq (walk FILE [] T).length cq)
   clear bT bG uP gq
   clear cx fx
   generalize World.setCell w6 _ _=w7 at hxr hxu hoq hb⊢
   have dQ:Hid (UB w7 (w.heap.size) (U0) (.slice none 0 0)):=hxr
   clear hxr
   have dO:Hid (UB w7 (w2.heap.size) (uF) (.slice Aq (walk FILE [] T).length cq)):=hxu
   clear hxu
   have jD:=hid hoq
   clear hoq
   have iU:=hid hb
   clear hb
   clear BX
   obtain⟨c0,c1,c2',c3,c4,c5,c6,c7,c8,c9,c10,c11,c12⟩:=dO.out.facts
   go_wp2_with (refine aC dQ.out (uF) Aq (walk FILE [] T).length cq (.tmp 4) (.tmp 72) rfl rfl rfl rfl ?_)
   try simp only[Exit.inBlock,Exit.then]
   have hpo:∀k,k≠w.heap.size→(World.setRow w7 (w.heap.size) (cells (uF) (.slice Aq (walk FILE [] T).length cq))).heap[k]?=w7.heap[k]?:=fun k hk=>setRow_other _ _ _ _ hk
   have ho:=ay (gU.aN jD.out hpo iy.out) (by have h1:=bP.out;have h2:=iy.out;omega:w.heap.size≤_)
   exact bodyPost_ret (w:=World.setRow w7 w.heap.size (cells (uF) (.slice Aq (walk FILE [] T).length cq))) (res2 (u:=uF) (p:=.slice Aq (walk FILE [] T).length cq) rfl (dQ.out.row (uF) _) true _ rfl rfl) rfl (eH (u:={uF with aO:=walk FILE [] T}) iV.out (below_setRow iU.out bP.out _) ho)
end Go.Proofs.YtmpeaoacaecgpaaGreatDoor.PrsF
namespace Go.Proofs.YtmpeaoacaecgpaaGreatDoor.akb
open Go.RowKit Base Regs Base2 dI cO PthG PthH PthJ UrlA PrsP yw tN Fp mW Pbx tK yx WS jQ sU pO aj8 PrsF TI aj9
theorem Yq (p:Parts) (w:World) (hs:p.rest.length≤700000) (hL:oI w) (hT:Tab.Pow w) (hM:Max w):Calls Tryz.prog 50 #[.agg (bQ p),.pointer none] w (mO w (PrsP.resolve p none)):=by
 obtain⟨s,rt,q,f,hq,hf⟩:=p
 simp only at hs
 obtain⟨O,hO⟩:∃O,O=PrsP.resolve ⟨s,rt,q,f,hq,hf⟩ none:=⟨_,rfl⟩
 rw[←hO]
 unfold PrsP.resolve at hO
 simp only at hO
 have HO:=hid hO
 have wC:Hid (∀w:World,Calls Tryz.prog 114 #[.string (strOf s)] w fun e w'=>e=.returned (.bool (special s))∧w'=w):=fun w=>jv (strOf s) w
 have vW:Hid (∀w:World,oI w→Tab.Pow w→Max w→Calls Tryz.prog 119 #[.agg (bQ ⟨s,rt,q,f,hq,hf⟩)] w (mO w (PrsP.plain ⟨s,rt,q,f,hq,hf⟩))):=fun w a c d=>VL ⟨s,rt,q,f,hq,hf⟩ w (by show rt.length≤_;omega) a c d
 have HFN:Hid (∀w:World,oI w→Tab.Pow w→Max w→Calls Tryz.prog 113 #[.string (strOf rt),.pointer none] w (mO w (file rt none))):=fun w a c d=>Ve rt w hs a c d
 have F9:Hid (∀w:World,Calls Tryz.prog 118 #[.string (strOf s)] w fun e w'=>e=.returned (.string (cs (special s)))∧w'=w):=fun w=>jr (strOf s) w
 have HTR:Hid (∀w:World,Calls Tryz.prog 117 #[.string (strOf rt),.string (cs true)] w fun e w'=>e=.returned (.string (strOf (rt.dropWhile (gB true))))∧Below w.heap.size w w'):=fun w=>AX rt w
 obtain⟨T2,hT2⟩:∃x,x=rt.dropWhile (gB true):=⟨_,rfl⟩
 have XL:T2.length≤900000:=by rw[hT2];have:=(List.dropWhile_sublist (gB true) (l:=rt)).length_le;omega
 rw[←hT2]at HTR HO
 obtain⟨OA,hOA⟩:∃x,x=authority s T2:=⟨_,rfl⟩
 have HAU:Hid (∀w:World,oI w→Tab.Pow w→Max w→Calls Tryz.prog 116 #[.string (strOf s),.string (strOf T2)] w (mO w OA)):=fun w a b c=>by rw[hOA];exact qP s T2 w XL a b c
 rw[←hOA]at HO
 have HL:=hid hL
 have HT:=hid hT
 have HM:=hid hM
 clear hO hT2 hOA hL hT hM
 go_enter Tryz.func50,Tryz.ntmps50
 go_upto_region 1 with(fail)
 generalize hw:World.alloc (World.alloc w _) _=w1
 have h1:PB w1 (w.heap.size) (⟨s,rt,q,f,hq,hf⟩)∧UB w1 ((w.heap.size+1)) (U0) (.slice none 0 0)∧Below w.heap.size w w1:=by
  subst hw
  exact laid2 w _ _ _ _
 clear hw
 have WL:Hid (w.heap.size≤w.heap.size):=Nat.le_refl _
 have bP:Hid (w.heap.size≤(w.heap.size+1)):=Nat.le_succ _
 have dF:=hid h1.1
 have aW:=hid h1.2.1
 have bM:=hid h1.2.2
 clear h1
 obtain⟨p0,p1,p2,p3,p4,p5⟩:=dF.out.facts
 by_cases hs1:s=FILE
 ·
  have mX:Hid (O=file rt none):=by show _=_;rw[HO.out,if_pos hs1];first|done|rfl
  have afn:((strOf s).toList==[102,105,108,101])=true:=by rw[aK,hs1];first|done|rfl
  have afo:(strOf s).toList=[102,105,108,101]:=by rw[aK,hs1];first|done|rfl
  clear hs1
  go_wp2_with fail
  refine(HFN.out _ (HL.out.below bM.out) (bY HT.out bM.out) (HM.out.below bM.out)).mono ?_
  rintro e w2 ⟨hbx,u',A',n',c',ok,rfl,hown,yK⟩
  have iy:Hid ((w.heap.size+1)<w1.heap.size):=aW.out.lt
  have HOW:=hid hown
  have F8:=hid yK
  clear hown yK
  have jE:=hid (dF.out.below hbx)
  have bK:=hid (aW.out.below hbx)
  have eX:=hid (bel bM.out hbx)
  have Ib:Hid (w.heap.size≤w1.heap.size):=bM.out.size
  clear dF aW bM
  clear hbx
  go_wp2_with (refine aC bK.out u' A' n' c' (.tmp 4) (.tmp 23) rfl rfl rfl rfl ?_)
  try simp only[Exit.inBlock,Exit.then]
  exact bodyPost_ret (w:=World.setRow w2 (w.heap.size+1) (cells u' (.slice A' n' c'))) (res2 (u:=u') (p:=.slice A' n' c') rfl (bK.out.row u' _) ok _ rfl rfl) rfl ⟨below_setRow eX.out bP.out _,u',A',n',c',ok,rfl,(HOW.out.row iy.out _).base Ib.out,by rw[mX.out];exact F8.out⟩
 ·
  have afn:((strOf s).toList==[102,105,108,101])=false:=by rw[aK,beq_eq_false_iff_ne];exact hs1
  have afo:¬(strOf s).toList=[102,105,108,101]:=by rw[aK];exact hs1
  cases hsp:special s with
  | true=>
   have mX:Hid (O=OA):=by show _=_;rw[HO.out,if_neg hs1,if_pos hsp]
   rw[hsp]at wC F9
   clear hsp hs1
   go_wp2_with fail
   refine(wC.out _).mono ?_
   rintro e wx ⟨rfl,hwx⟩
   obtain rfl:w1=wx:=by first|exact hwx|exact hwx.symm
   clear hwx
   clear p0 p1 p2 p3 p4 p5
   go_upto_region 6 with(fail)
   refine aV (by kernel_rfl) [is (.pointer none),is (.bool false),is (.bool false),is (undef),is (undef),is (undef),is (undef),is (undef),is (undef),is (undef),is (.bool false),is (.bool false),is (undef),is (undef),is (undef),is (undef),is (.bool false)] [[],[0],[1],[2],[2,3],[2,4],[2,5],[2],[2,7],[2,6,8],[2,9],[10],[11],[11,12],[11,13],[11,14],[11,15]] (by kernel_rfl) ?_ ?_
   ·refine⟨?_,?_,?_,?_,?_,?_,?_,?_,?_,?_,?_,?_,?_,?_,?_,?_,?_,trivial⟩
    all_goals(intro t wq hbq hh K hK;simp only[filled,upd,Have,is,any,row,pick,Act.put,List.setIfInBounds_toArray,List.set_cons_zero,List.set_cons_succ,Nat.reduceAdd,Nat.reduceEqDiff,reduceIte,List.tail_cons,List.headD_cons]at hh hK⊢;(try simp only[hh]at hK⊢);try clear hh)
    ·go_simp;exact hK _ _ (Below.refl _ _) rfl
    ·go_simp;first|exact hK _ _ (Below.refl _ _) rfl|exact hK _ _ (Below.refl _ _) (iC (by omega) (by omega))
    iterate 7 · go_simp;exact hK _ _ (Below.refl _ _) rfl
    ·go_simp;first|exact hK _ _ (Below.refl _ _) rfl|exact hK _ _ (Below.refl _ _) (iC (by omega) (by omega))
    iterate 7 · go_simp;exact hK _ _ (Below.refl _ _) rfl
   ·intro t wz hbq hh
    have f16:=aB hh 16 (by decide)
    simp only[pick]at f16
    replace f16:t 16=(.bool false):=f16
    clear hh
    simp only[filled,upd,Have,is,any,row,pick,Act.put,List.setIfInBounds_toArray,List.set_cons_zero,List.set_cons_succ,Nat.reduceAdd,Nat.reduceEqDiff,reduceIte]
    simp only[f16]
    have yh:=hid (dF.out.below hbq)
    have CP:=hid (aW.out.below hbq)
    have x9:=hid (bel bM.out hbq)
    clear dF aW bM
    clear hbq
    have iy:Hid ((w.heap.size+1)<wz.heap.size):=CP.out.lt
    go_upto_region 8 with(fail)
    refine bC (by kernel_rfl) 11 [is (.pointer (some ⟨w.heap.size,0,none⟩)),is (.string (strOf s)),is (.pointer (some ⟨w.heap.size,1,none⟩)),is (.string (strOf rt)),is (.pointer (some ⟨w.heap.size,0,none⟩)),is (.string (strOf s)),is (.string (cs true)),is (.string (strOf T2)),aeL OA wz.heap.size,ab3 OA wz.heap.size,is (.bool OA.isSome)] [[],[0],[],[2],[],[4],[4,5],[2,3,4,5,6],[0,1,2,3,4,5,6,7],[0,1,2,3,4,5,6,7,8],[0,1,2,3,4,5,6,7,8],[0,1,2,3,4,5,6,7,8,9,10]] (by kernel_rfl) ?_ ?_
    ·refine⟨?_,?_,?_,?_,?_,?_,?_,?_,?_,?_,?_,trivial⟩
     all_goals(intro t wq hbq hh K hK;simp only[filled,aj,upd,Have,is,any,row,pick,Act.put,List.setIfInBounds_toArray,List.set_cons_zero,List.set_cons_succ,Nat.reduceAdd,Nat.reduceEqDiff,reduceIte,List.tail_cons,List.headD_cons]at hh hK⊢)
     ·(try clear hh);go_simp;exact hK _ _ (Below.refl _ _) rfl
     ·simp only[hh]at hK⊢;clear hh;have hc:=(yh.out.below hbq).facts.1;go_simp;exact hK _ _ (Below.refl _ _) rfl
     ·(try clear hh);go_simp;exact hK _ _ (Below.refl _ _) rfl
     ·simp only[hh]at hK⊢;clear hh;have hc:=(yh.out.below hbq).facts.2.1;go_simp;exact hK _ _ (Below.refl _ _) rfl
     ·(try clear hh);go_simp;exact hK _ _ (Below.refl _ _) rfl
     ·simp only[hh]at hK⊢;clear hh;have hc:=(yh.out.below hbq).facts.1;go_simp;exact hK _ _ (Below.refl _ _) rfl
     ·simp only[hh]at hK⊢;clear hh;go_simp;refine(F9.out _).mono ?_;rintro e w9 ⟨rfl,hw9⟩;subst hw9;exact hK _ _ (Below.refl _ _) rfl
     ·simp only[hh]at hK⊢;clear hh;go_simp;refine(HTR.out _).mono ?_;rintro e w9 ⟨rfl,mG⟩;exact hK _ _ mG rfl
     ·simp only[hh]at hK⊢;clear hh;go_simp;refine(HAU.out _ (HL.out.below (bel x9.out hbq)) (bY HT.out (bel x9.out hbq)) (HM.out.below (bel x9.out hbq))).mono ?_;intro e w9 ha;obtain⟨mG,A9,n9,c9,rfl,Tq⟩:=Regs.ql ha;exact hK _ _ mG ⟨A9,n9,c9,rfl,ay Tq hbq.size⟩
     ·have e8:=hh.2.2.2.2.2.2.2.2.1;(try clear hh);obtain⟨A8,n8,c8,e8,ho8⟩:=e8;simp only[e8]at hK⊢;go_simp;exact hK _ _ (Below.refl _ _) ⟨_,_,_,rfl,ho8⟩
     ·have e8:=hh.2.2.2.2.2.2.2.2.1;(try clear hh);obtain⟨A8,n8,c8,e8,ho8⟩:=e8;simp only[e8]at hK⊢;go_simp;exact hK _ _ (Below.refl _ _) rfl
    ·intro t wq hbq hh
     have f9:=aB hh 9 (by decide)
     simp only[pick]at f9
     have f10:=aB hh 10 (by decide)
     simp only[pick]at f10
     replace f10:t 10=(.bool OA.isSome):=f10
     clear hh
     simp only[filled,aj,upd,Have,is,any,row,pick,Act.put,List.setIfInBounds_toArray,List.set_cons_zero,List.set_cons_succ,Nat.reduceAdd,Nat.reduceEqDiff,reduceIte]
     obtain⟨A9,n9,c9,f9,Tq⟩:=f9
     simp only[f9,f10]
     have yj:=hid (CP.out.below hbq)
     have Et:=hid (bel x9.out hbq)
     have Ak:=hid Tq
     clear Tq hbq
     refine aC yj.out ((OA).getD U0) A9 n9 c9 (.tmp 4) (.tmp 63) rfl rfl rfl rfl ?_
     go_wp2
     try simp only[Exit.inBlock,Exit.then]
     have ho:=ay (gU.aN (w':=World.setRow wq (w.heap.size+1) (cells ((OA).getD U0) (.slice A9 n9 c9))) (gb:=(w.heap.size+1)) (Ak.out) (fun k hk=>setRow_other _ _ _ _ hk) iy.out) (by have h1:=bP.out;have h2:=iy.out;omega:w.heap.size≤_)
     refine bodyPost_ret (w:=World.setRow wq (w.heap.size+1) (cells ((OA).getD U0) (.slice A9 n9 c9))) (res2 (u:=(OA).getD U0) (p:=.slice A9 n9 c9) rfl (yj.out.row _ _) (OA).isSome _ rfl rfl) rfl ?_
     rw[mX.out]
     exact Regs.qM (below_setRow Et.out bP.out _) ho
  |false=>
   rw[hsp]at wC
   go_wp2_with fail
   refine(wC.out _).mono ?_
   rintro e wx ⟨rfl,hwx⟩
   obtain rfl:w1=wx:=by first|exact hwx|exact hwx.symm
   clear hwx
   by_cases h0:s=[]
   ·
    have qc:Hid (O=none):=by show _=_;rw[HO.out,if_neg hs1,if_neg (by rw[hsp];simp),if_neg (by simp[h0])]
    have Z9:((strOf s).toList==[])=true:=by rw[aK,h0];first|done|rfl
    have aac:(strOf s).toList=[]:=by rw[aK,h0];first|done|rfl
    clear h0 hsp hs1
    go_wp2_with (refine aC aW.out U0 none 0 0 (.tmp 4) (.tmp 76) rfl rfl rfl rfl ?_)
    try simp only[Exit.inBlock,Exit.then]
    exact bodyPost_ret (w:=World.setRow w1 (w.heap.size+1) (cells U0 (.slice none 0 0))) (res2 (u:=U0) (p:=.slice none 0 0) rfl (aW.out.row U0 _) false _ rfl rfl) rfl (kH qc.out (below_setRow bM.out bP.out _))
   ·
    have mX:Hid (O=PrsP.plain ⟨s,rt,q,f,hq,hf⟩):=by show _=_;rw[HO.out,if_neg hs1,if_neg (by rw[hsp];simp),if_pos h0]
    have Z9:((strOf s).toList==[])=false:=by rw[aK,beq_eq_false_iff_ne];exact h0
    have aac:¬(strOf s).toList=[]:=by rw[aK];exact h0
    have e2:(strOf s).toList.isEmpty=false:=by rw[aK];simpa using h0
    clear h0 hsp hs1
    go_wp2_with fail
    refine(vW.out _ (HL.out.below bM.out) (bY HT.out bM.out) (HM.out.below bM.out)).mono ?_
    rintro e w2 ⟨hbx,u',A',n',c',ok,rfl,hown,yK⟩
    have iy:Hid ((w.heap.size+1)<w1.heap.size):=aW.out.lt
    have HOW:=hid hown
    have F8:=hid yK
    clear hown yK
    have jE:=hid (dF.out.below hbx)
    have bK:=hid (aW.out.below hbx)
    have eX:=hid (bel bM.out hbx)
    have Ib:Hid (w.heap.size≤w1.heap.size):=bM.out.size
    clear dF aW bM
    clear hbx
    go_wp2_with (refine aC bK.out u' A' n' c' (.tmp 4) (.tmp 71) rfl rfl rfl rfl ?_)
    try simp only[Exit.inBlock,Exit.then]
    exact bodyPost_ret (w:=World.setRow w2 (w.heap.size+1) (cells u' (.slice A' n' c'))) (res2 (u:=u') (p:=.slice A' n' c') rfl (bK.out.row u' _) ok _ rfl rfl) rfl ⟨below_setRow eX.out bP.out _,u',A',n',c',ok,rfl,(HOW.out.row iy.out _).base Ib.out,by rw[mX.out];exact F8.out⟩
end Go.Proofs.YtmpeaoacaecgpaaGreatDoor.akb
namespace Go.Proofs.YtmpeaoacaecgpaaGreatDoor.acU
open Go.RowKit Base qh BI
def Cc (r:Int):Prop:=0≤r∧r≤1114111∧¬(55296≤r∧r≤57343)
instance (r:Int):Decidable (Cc r):=by unfold Cc;exact inferInstance
def u (x:Int):UInt8:=x.toNat.toUInt8
theorem jw (x:Int) (h0:0≤x) (h1:x≤255):((u x).toNat:Int)=x:=by
 unfold u
 simp
 omega
theorem enc1 (r:Int) (h0:0≤r) (h1:r≤127):Lib.encodeRune r=[u r]:=by unfold Lib.encodeRune;rw[Lib.encodeRuneZ_one h0 h1];rfl
theorem enc2 (r:Int) (h0:128≤r) (h1:r≤2047):Lib.encodeRune r=[u (192+r / 64),u (128+r%64)]:=by unfold Lib.encodeRune;rw[Lib.encodeRuneZ_two h0 h1];rfl
theorem enc3 (r:Int) (h:(2048≤r∧r<55296)∨(57343<r∧r≤65535)):Lib.encodeRune r=[u (224+r / 4096),u (128+r / 64%64),u (128+r%64)]:=by unfold Lib.encodeRune;rw[Lib.encodeRuneZ_three h];rfl
theorem enc4 (r:Int) (h0:65536≤r) (h1:r≤1114111):Lib.encodeRune r=[u (240+r / 262144),u (128+r / 4096%64),u (128+r / 64%64),u (128+r%64)]:=by unfold Lib.encodeRune;rw[Lib.encodeRuneZ_four h0 h1];rfl
theorem encBad (r:Int) (h:¬Cc r):Lib.encodeRune r=Lib.encodeRune 65533:=by
 unfold Lib.encodeRune
 rw[Lib.encodeRuneZ_bad (by unfold Cc at h;omega),Lib.encodeRuneZ_three (r:=65533) (by omega)]
 rfl
theorem rd_enc (r:Int) (h:Cc r) (t:List UInt8):rd (Lib.encodeRune r++t)=(r,((Lib.encodeRune r).length:Int),true):=by
 obtain⟨h0,h1,h2⟩:=h
 by_cases a:r≤127
 ·rw[enc1 r h0 a]
  simp only[List.cons_append,List.nil_append,rd,jw r h0 (by omega)]
  rw[if_pos a]
  rfl
 by_cases b:r≤2047
 ·rw[enc2 r (by omega) b]
  have e1:=jw (192+r / 64) (by omega) (by omega)
  have e2:=jw (128+r%64) (by omega) (by omega)
  simp only[List.cons_append,List.nil_append,rd,e1]
  rw[if_neg (by omega),if_neg (by omega),if_pos (by omega),tail,e2,if_neg (by unfold lo hi;(repeat' split)<;>omega),tail]
  refine Prod.ext ?_ rfl
  simp only
  omega
 by_cases c:r≤65535
 ·rw[enc3 r (by omega)]
  have e1:=jw (224+r / 4096) (by omega) (by omega)
  have e2:=jw (128+r / 64%64) (by omega) (by omega)
  have e3:=jw (128+r%64) (by omega) (by omega)
  simp only[List.cons_append,List.nil_append,rd,e1]
  rw[if_neg (by omega),if_neg (by omega),if_neg (by omega),if_pos (by omega),tail,e2,if_neg (by unfold lo hi;(repeat' split)<;>omega),tail,e3,if_neg (by omega),tail]
  refine Prod.ext ?_ rfl
  simp only
  omega
 rw[enc4 r (by omega) h1]
 have e1:=jw (240+r / 262144) (by omega) (by omega)
 have e2:=jw (128+r / 4096%64) (by omega) (by omega)
 have e3:=jw (128+r / 64%64) (by omega) (by omega)
 have e4:=jw (128+r%64) (by omega) (by omega)
 simp only[List.cons_append,List.nil_append,rd,e1]
 rw[if_neg (by omega),if_neg (by omega),if_neg (by omega),if_neg (by omega),tail,e2,if_neg (by unfold lo hi;(repeat' split)<;>omega),tail,e3,if_neg (by omega),tail,e4,if_neg (by omega),tail]
 refine Prod.ext ?_ rfl
 simp only
 omega
theorem u_of (c:UInt8):u (c.toNat:Int)=c:=by unfold u;simp
theorem Ur (x:Int) (c:UInt8) (h:x=(c.toNat:Int)):u x=c:=by rw[h,u_of]
theorem sF (x:UInt8) (t:List UInt8):
  ((rd (x::t)).2.2=true→Cc (rd (x::t)).1∧Lib.encodeRune (rd (x::t)).1=(x::t).take (rd (x::t)).2.1.toNat)∧((rd (x::t)).2.2=false→(rd (x::t)).1=65533):=by
 have hx:(x.toNat:Int)<256:=by have:=x.toNat_lt;omega
 simp only[rd]
 by_cases a:(x.toNat:Int)≤127
 ·rw[if_pos a]
  refine⟨fun _=>⟨by unfold Cc;simp only;omega,?_⟩,fun h=>by cases h⟩
  simp only
  rw[enc1 _ (by omega) a,u_of]
  rfl
 rw[if_neg a]
 by_cases b:(x.toNat:Int)≤193∨245≤(x.toNat:Int)
 ·rw[if_pos b]
  exact⟨(fun h=>by cases h),fun _=>rfl⟩
 rw[if_neg b]
 by_cases c2:(x.toNat:Int)≤223
 ·rw [if_pos c2]
  have el:lo x.toNat=128:=by unfold lo;(repeat' split)<;>omega
  have eh:hi x.toNat=191:=by unfold hi;(repeat' split)<;>omega
  match t with
  |[]=>simp[tail]
  |y::t=>
   have hy:(y.toNat:Int)<256:=by have:=y.toNat_lt;omega
   rw[tail,el,eh]
   by_cases d:(y.toNat:Int)<128∨191<(y.toNat:Int)
   ·rw[if_pos d];exact⟨(fun h=>by cases h),fun _=>rfl⟩
   ·rw[if_neg d,tail]
    refine⟨fun _=>⟨by unfold Cc;simp only;omega,?_⟩,fun h=>by cases h⟩
    simp only
    rw[enc2 _ (by omega) (by omega),Ur _ x (by omega),Ur _ y (by omega)]
    rfl
 rw[if_neg c2]
 by_cases c3:(x.toNat:Int)≤239
 ·rw [if_pos c3]
  match t with
  |[]=>simp[tail]
  | y ::t=>
   have hy:(y.toNat:Int)<256:=by have:=y.toNat_lt;omega
   rw[tail]
   by_cases d:(y.toNat:Int)<lo x.toNat∨hi x.toNat<(y.toNat:Int)
   ·rw[if_pos d];exact⟨(fun h=>by cases h),fun _=>rfl⟩
   ·rw [if_neg d]
    have hd:128≤(y.toNat:Int)∧(y.toNat:Int)≤191∧((x.toNat:Int)=224→160≤(y.toNat:Int))∧((x.toNat:Int)=237→(y.toNat:Int)≤159):=by
     unfold lo hi at d
     (repeat' split at d)<;>omega
    match t with
    |[]=>simp[tail]
    |z::t=>
     have hz:(z.toNat:Int)<256:=by have:=z.toNat_lt;omega
     rw[tail]
     by_cases f:(z.toNat:Int)<128∨191<(z.toNat:Int)
     ·rw[if_pos f];exact⟨(fun h=>by cases h),fun _=>rfl⟩
     ·rw[if_neg f,tail]
      refine⟨fun _=>⟨by unfold Cc;simp only;omega,?_⟩,fun h=>by cases h⟩
      simp only
      rw[enc3 _ (by omega),Ur _ x (by omega),Ur _ y (by omega),Ur _ z (by omega)]
      rfl
 ·rw [if_neg c3]
  match t with
  |[]=>simp[tail]
  | y :: t =>
   have hy:(y.toNat:Int)<256:=by have:=y.toNat_lt;omega
   rw[tail]
   by_cases d:(y.toNat:Int)<lo x.toNat∨hi x.toNat<(y.toNat:Int)
   ·rw[if_pos d];exact⟨(fun h=>by cases h),fun _=>rfl⟩
   ·rw [if_neg d]
    have hd:128≤(y.toNat:Int)∧(y.toNat:Int)≤191∧((x.toNat:Int)=240→144≤(y.toNat:Int))∧((x.toNat:Int)=244→(y.toNat:Int)≤143):=by
     unfold lo hi at d
     (repeat' split at d)<;>omega
    match t with
    |[]=>simp[tail]
    | z ::t=>
     have hz:(z.toNat:Int)<256:=by have:=z.toNat_lt;omega
     rw[tail]
     by_cases f:(z.toNat:Int)<128∨191<(z.toNat:Int)
     ·rw[if_pos f];exact⟨(fun h=>by cases h),fun _=>rfl⟩
     ·rw [if_neg f]
      match t with
      |[]=>simp[tail]
      |v::t=>
       have hv:(v.toNat:Int)<256:=by have:=v.toNat_lt;omega
       rw[tail]
       by_cases g:(v.toNat:Int)<128∨191<(v.toNat:Int)
       ·rw[if_pos g];exact⟨(fun h=>by cases h),fun _=>rfl⟩
       ·rw[if_neg g,tail]
        refine⟨fun _=>⟨by unfold Cc;simp only;omega,?_⟩,fun h=>by cases h⟩
        simp only
        rw[enc4 _ (by omega) (by omega),Ur _ x (by omega),Ur _ y (by omega),Ur _ z (by omega),Ur _ v (by omega)]
        rfl
theorem Gv (L:List UInt8) (h:L≠[]):dec L=(rd L).1::dec (L.drop (rd L).2.1.toNat):=by
 cases L with
 |nil=>exact absurd rfl h
 |cons x t=>exact iK x t
theorem val_ne (L:List UInt8) (h:L≠[]):val L=((rd L).2.2&&val (L.drop (rd L).2.1.toNat)):=by
 cases L with
 |nil=>exact absurd rfl h
 |cons x t=>exact sH x t
theorem adp (r:Int) (t:List UInt8):Lib.encodeRune r++t≠[]:=by
 intro h
 have:=Jy r
 have e:=congrArg List.length h
 simp at e
 rw[e.1]at this
 simp at this
theorem fA (r:Int) (l:List Int):enc (r::l)=Lib.encodeRune r++enc l:=by simp[enc]
theorem Ez (l:List Int) (b:List UInt8) (h:∀r ∈ l,Cc r):dec (enc l++b)=l++dec b∧val (enc l++b)=val b:=by
 induction l with
 |nil=>exact⟨rfl,rfl⟩
 |cons r l ih=>
  have hr:=rd_enc r (h r (by simp)) (enc l++b)
  have hi:=ih (fun r hr=>h r (by simp[hr]))
  rw[fA,List.append_assoc]
  constructor
  ·rw[Gv _ (adp r _),hr]
   simp only[Int.toNat_natCast,List.drop_left,hi.1,List.cons_append]
  rw[val_ne _ (adp r _),hr]
  simp only[Int.toNat_natCast,List.drop_left,hi.2,Bool.true_and]
theorem ae9:Cc 65533:=by decide
theorem afa:∀(n:Nat) (L:List UInt8),L.length≤n→∀r ∈ dec L,Cc r
 |_,[],_,r,h=>by simp[lT]at h
 |0,_::_,h,_,_=>by simp at h
 |n+1,x::t,hl,r,h=>by
  have hs:=nJ x t
  rw[iK,List.mem_cons]at h
  rcases h with rfl|h
  ·cases hw:(rd (x::t)).2.2
   ·rw[(sF x t).2 hw];exact ae9
   ·exact((sF x t).1 hw).1
  ·exact afa n _ (by simp only[List.length_drop,List.length_cons]at hl⊢;omega) r h
theorem zU (L:List UInt8):∀r ∈ dec L,Cc r:=afa _ L (Nat.le_refl _)
theorem YJ:∀(n:Nat) (L:List UInt8),L.length≤n→val L=true→enc (dec L)=L
 |_,[],_,_=>rfl
 |0,_::_,h,_=>by simp at h
 |n+1,x::t,hl,h=>by
  have hs:=nJ x t
  rw[sH,Bool.and_eq_true]at h
  rw[iK,fA,YJ n _ (by simp only[List.length_drop,List.length_cons]at hl⊢;omega) h.2,((sF x t).1 h.1).2,List.take_append_drop]
theorem val_iff (L:List UInt8):val L=decide (enc (dec L)=L):=by
 rw[Bool.eq_iff_iff,decide_eq_true_iff]
 constructor
 ·exact YJ _ L (Nat.le_refl _)
 intro h
 have:=(Ez (dec L) [] (zU L)).2
 rw[List.append_nil,h]at this
 rw[this]
 rfl
end Go.Proofs.YtmpeaoacaecgpaaGreatDoor.acU
