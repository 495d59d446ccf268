/- Texts that belong together: PrsF, Pbx, TI, PrsK, aj9. -/
import Derived.Test.YtgamccijegollaaGreatDoorFNAAN
import Derived.Test.YtgamccijegollaaGreatDoorFNAAH
import Derived.Test.YtgamccijegollaaGreatDoorFNAAJ
import Derived.Test.YtgamccijegollaaGreatDoorFNAAA
set_option linter.unusedSimpArgs false
set_option linter.unusedVariables false
set_option maxRecDepth 100000
set_option maxHeartbeats 64000000
namespace Go.Proofs.YtgamccijegollaaGreatDoor.PrsF
open Go.RowKit Base L6 Dp dI cO acA Kr acG WS acv ac2 acD aco jQ acJ Zo WJ sU pO wS yw tN Fp mW tK yx aso aj8
theorem Ve (T:List UInt8) (w:World) (hs:T.length≤700000) (hL:oI w) (hT:Tab.Pow w) (hM:Max w):Calls Tryz.prog 114 #[.string (strOf T),.pointer none] w (mO w (file T none)):=by
 obtain⟨O,hO⟩:∃O,O=file T none:=⟨_,rfl⟩
 rw[←hO]
 obtain⟨s0,hs0⟩:∃x,x=rU true T 0:=⟨_,rfl⟩
 obtain⟨s1,hs1⟩:∃x,x=rU true T 1:=⟨_,rfl⟩
 unfold file at hO
 rw[←hs0,←hs1]at hO
 have hlen0:s0=true→1≤T.length:=fun h=>by
  rw[h]at hs0
  by_cases h2:0<T.length
  ·omega
  rw[yM _ _ _ h2]at hs0;cases hs0
 have Y9:=hid hlen0
 have hlen:s1=true→2≤T.length:=fun h=>by
  rw[h]at hs1
  by_cases h2:1<T.length
  ·omega
  rw[yM _ _ _ h2]at hs1;cases hs1
 have HLEN:=hid hlen
 have FI:Hid (∀w:World,Calls Tryz.prog 213 #[.string ⟨#[102,105,108,101]⟩,.string (strOf T),.int .i64 0] w fun e w'=>e=.returned (.bool s0)∧Below w.heap.size w w'):=fun w=>by rw[hs0];exact lJ (strOf FILE) (strOf T) 0 w (by omega)
 have BD:Hid (∀w:World,Calls Tryz.prog 213 #[.string ⟨#[102,105,108,101]⟩,.string (strOf T),.int .i64 1] w fun e w'=>e=.returned (.bool s1)∧Below w.heap.size w w'):=fun w=>by rw[hs1];exact lJ (strOf FILE) (strOf T) 1 w (by omega)
 have HO:=hid hO
 have HFA:Hid (∀(L:List UInt8) (w:World),L.length≤900000→oI w→Tab.Pow w→Max w→Calls Tryz.prog 214 #[.string (strOf L)] w (mO w (far L))):=fun L w h a c d=>Oa L w h a c d
 have HBG:Hid (∀(L:List UInt8) (w:World),L.length≤900000→Calls Tryz.prog 217 #[.string (strOf L)] w fun e w'=>e=.returned (.bool (JR L))∧w=w'):=fun L w h=>PK (strOf L) w (dW (by omega))
 have HWK:Hid (∀(A:Option Addr) (n c:Nat) (l:List ByteArray) (L:List UInt8) (w:World),aY w A n (l.map Value.string)→n≤c→c≤maxLen→n+L.length≤900000→Calls Tryz.prog 220 #[.string ⟨#[102,105,108,101]⟩,.slice A n c,.string (strOf L)] w (lu w.heap.size w (walk FILE l L))):=fun A n c l L w h1 h2 h3 h4=>walk_any (strOf FILE) A n c l (strOf L) w h1 h2 h3 (by rw[o9];exact h4)
 have HL:=hid hL
 have HT:=hid hT
 have HM:=hid hM
 clear hO hs0 hs1 hlen hlen0 hL hT hM
 go_enter Tryz.func114,Tryz.ntmps114
 go_upto_region 1 with(fail)
 generalize hw:World.alloc w _=w1
 have h1:UB w1 (w.heap.size) (U0) (.slice none 0 0)∧Below w.heap.size w w1:=by
  subst hw
  exact laid1 w _ _
 clear hw
 have bP:Hid (w.heap.size≤w.heap.size):=(Below.refl w.heap.size w).size
 have bM:=hid (bel (Below.refl w.heap.size w) h1.2)
 have aW:=hid h1.1
 clear h1
 go_wp2_with fail
 refine(FI.out _).mono ?_
 rintro e w2 ⟨rfl,hbx⟩
 have bK:=hid (aW.out.below hbx)
 have eX:=hid (bel bM.out hbx)
 clear aW bM
 clear hbx
 cases s0 with
 | true=>
  go_wp2_with fail
  refine(BD.out _).mono ?_
  rintro e w3 ⟨rfl,hbx⟩
  have bD:=hid (bK.out.below hbx)
  have cZ:=hid (bel eX.out hbx)
  clear bK eX
  clear hbx
  cases s1 with
  |true=>
   have hl2:=HLEN.out (by simp)
   have iV:Hid (O=far (T.drop 2)):=by show _=_;rw[HO.out,if_pos (by simp)]
   obtain⟨T2,hT2⟩:∃x,x=T.drop 2:=⟨_,rfl⟩
   have hx2:(strOf T).extract 2 (strOf T).size=strOf T2:=by rw[l7,hT2];rfl
   have hkI:(2:Int)≤((strOf T).size:Int):=by rw[o9];omega
   rw[←hT2]at iV
   have XL:T2.length≤800000:=by rw[hT2,List.length_drop];omega
   clear hT2 hl2
   go_wp2_with fail
   clear hx2
   refine(HFA.out _ _ (by omega) (HL.out.below cZ.out) (bY HT.out cZ.out) (HM.out.below cZ.out)).mono ?_
   rintro e w4 ⟨hbx,u',A',n',c',ok,rfl,hown,yK⟩
   have iy:Hid (w.heap.size<w3.heap.size):=bD.out.lt
   have HOW:=hid hown
   have F8:=hid yK
   clear hown yK
   have bF:=hid (bD.out.below hbx)
   have dD:=hid (bel cZ.out hbx)
   have Ib:Hid (w.heap.size≤w3.heap.size):=cZ.out.size
   clear bD cZ
   clear hbx
   go_wp2_with (refine aC bF.out u' A' n' c' (.tmp 4) (.tmp 17) rfl rfl rfl rfl ?_)
   try simp only[Exit.inBlock,Exit.then]
   exact bodyPost_ret (w:=World.setRow w4 w.heap.size (cells u' (.slice A' n' c'))) (res2 (u:=u') (p:=.slice A' n' c') rfl (bF.out.row u' _) ok _ rfl rfl) rfl ⟨below_setRow dD.out bP.out _,u',A',n',c',ok,rfl,(HOW.out.row iy.out _).base Ib.out,by rw[iV.out];exact F8.out⟩
  |false=>
   have hl1:=Y9.out (by simp)
   have iV:Hid (O=some {uF with aO:=walk FILE [] (T.drop 1)}):=by show _=_;rw[HO.out,if_neg (by simp),if_pos (by simp)];first|done|rfl|(congr 2;simp)
   obtain⟨T2,hT2⟩:∃x,x=T.drop 1:=⟨_,rfl⟩
   have hx2:(strOf T).extract 1 (strOf T).size=strOf T2:=by rw[l7,hT2];rfl
   have hkI:(1:Int)≤((strOf T).size:Int):=by rw[o9];omega
   rw[←hT2]at iV
   have XL:T2.length≤800000:=by rw[hT2,List.length_drop];omega
   clear hT2 hl1
   go_upto_region 4 with(fail)
   generalize hw:World.alloc w3 _=w4
   have h1:UB w4 (w3.heap.size) (uF) (.slice none 0 0)∧Below w3.heap.size w3 w4:=by
    subst hw
    exact laid1 w3 _ _
   clear hw
   have hlr:=bD.out.lt
   have aX:Hid (w.heap.size≠w3.heap.size):=by show _≠_;omega
   have nO:Hid (w3.heap.size≠w.heap.size):=by show _≠_;omega
   clear hlr
   have fK:Hid (w.heap.size≤w3.heap.size):=cZ.out.size
   have bF:=hid (bD.out.below h1.2)
   have dD:=hid (bel cZ.out h1.2)
   have bV:=hid h1.1
   clear bD cZ
   clear h1
   go_wp2_with fail
   refine(FI.out _).mono ?_
   rintro e w5 ⟨rfl,hbx⟩
   have bH:=hid (bF.out.below hbx)
   have bJ:=hid (bV.out.below hbx)
   have fC:=hid (bel dD.out hbx)
   clear bF bV dD
   clear hbx
   go_wp2_with fail
   clear hx2
   refine(HWK.out none 0 0 [] T2 _ (aY.nil _) (Nat.le_refl _) (Nat.zero_le _) (by omega)).mono ?_
   rintro e w6 ⟨q,rfl,hown,hbx⟩
   obtain⟨Aq,cq,rfl,hq⟩:=bW (u:={U0 with aO:=walk FILE [] T2}) hown
   clear hq
   replace hown:=ay hown (Nat.le_refl _)
   have zF:Hid (w3.heap.size<w5.heap.size):=bJ.out.lt
   have iy:Hid (w.heap.size<w5.heap.size):=bH.out.lt
   have bT:=hid (bH.out.below hbx)
   have bG:=hid (bJ.out.below hbx)
   have gq:=hid (bel fC.out hbx)
   have uP:=hid hown
   clear hown
   clear bH bJ fC
   clear hbx
   have BX:=zF.out
   have cx:=bG.out.facts.2.2.2.2.2.2.2.2.1
   have fx:=bG.out.thaw.2.2.2.2.2.2.2.2.1
   go_upto_region 18 with(fail)
   have hxr:=bT.out.set (k:=w3.heap.size) (i:=8) (.slice Aq (walk FILE [] T2).length cq) (aX.out)
   have hxu:=bG.out.path (.slice Aq (walk FILE [] T2).length cq)
   have hoq:=gU.aN (w':=w6.setCell ⟨w3.heap.size,8,none⟩ (.slice Aq (walk FILE [] T2).length cq)) (gb:=w3.heap.size) uP.out (fun k hk=>heap_setCell_other _ _ _ _ hk) (by omega)
   have hb:=gq.out.setCell (p:=⟨w3.heap.size,8,none⟩) (fK.out) (.slice Aq (walk FILE [] T2).length cq)
   clear bT bG uP gq
   clear cx fx
   generalize World.setCell w6 _ _=w7 at hxr hxu hoq hb⊢
   have dQ:Hid (UB w7 (w.heap.size) (U0) (.slice none 0 0)):=hxr
   clear hxr
   have dO:Hid (UB w7 (w3.heap.size) (uF) (.slice Aq (walk FILE [] T2).length cq)):=hxu
   clear hxu
   have jD:=hid hoq
   clear hoq
   have iU:=hid hb
   clear hb
   clear BX
   obtain⟨c0,c1,c2',c3,c4,c5,c6,c7,c8,c9,c10,c11,c12⟩:=dO.out.facts
   go_wp2_with (refine aC dQ.out (uF) Aq (walk FILE [] T2).length cq (.tmp 4) (.tmp 72) rfl rfl rfl rfl ?_)
   try simp only[Exit.inBlock,Exit.then]
   have hpo:∀k,k≠w.heap.size→(World.setRow w7 (w.heap.size) (cells (uF) (.slice Aq (walk FILE [] T2).length cq))).heap[k]?=w7.heap[k]?:=fun k hk=>setRow_other _ _ _ _ hk
   have ho:=ay (gU.aN jD.out hpo iy.out) (by have h1:=bP.out;have h2:=iy.out;omega:w.heap.size≤_)
   exact bodyPost_ret (w:=World.setRow w7 w.heap.size (cells (uF) (.slice Aq (walk FILE [] T2).length cq))) (res2 (u:=uF) (p:=.slice Aq (walk FILE [] T2).length cq) rfl (dQ.out.row (uF) _) true _ rfl rfl) rfl (eH (u:={uF with aO:=walk FILE [] T2}) iV.out (below_setRow iU.out bP.out _) ho)
 |false=>
  clear HLEN Y9 BD
  have jy:Hid (O=some {uF with aO:=walk FILE (if JR T=true then[]else mM true []) T}):=by show _=_;rw[HO.out,if_neg (by simp),if_neg (by simp)]
  clear HO
  go_upto_region 4 with(fail)
  generalize hw:World.alloc w2 _=w3
  have h1:UB w3 (w2.heap.size) (uF) (.slice none 0 0)∧Below w2.heap.size w2 w3:=by
   subst hw
   exact laid1 w2 _ _
  clear hw
  have hlr:=bK.out.lt
  have aX:Hid (w.heap.size≠w2.heap.size):=by show _≠_;omega
  have nO:Hid (w2.heap.size≠w.heap.size):=by show _≠_;omega
  clear hlr
  have fK:Hid (w.heap.size≤w2.heap.size):=eX.out.size
  have bD:=hid (bK.out.below h1.2)
  have cZ:=hid (bel eX.out h1.2)
  have eY:=hid h1.1
  clear bK eX
  clear h1
  go_wp2_with fail
  refine(FI.out _).mono ?_
  rintro e w4 ⟨rfl,hbx⟩
  have bF:=hid (bD.out.below hbx)
  have bV:=hid (eY.out.below hbx)
  have dD:=hid (bel cZ.out hbx)
  clear bD eY cZ
  clear hbx
  cases hb:JR T with
  |true=>
   have HB1:=HBG.out T
   rw[hb]at HB1
   have HB2:=hid HB1
   have iV:Hid (O=some {uF with aO:=walk FILE [] T}):=by show _=_;rw[jy.out,hb];rfl
   clear HB1 hb jy
   go_wp2_with fail
   refine(HB2.out _ (by omega)).mono ?_
   rintro e wx ⟨rfl,hwx⟩
   obtain rfl:w4=wx:=by first|exact hwx|exact hwx.symm
   clear hwx
   go_wp2_with fail
   refine(HWK.out none 0 0 [] T _ (aY.nil _) (Nat.le_refl _) (Nat.zero_le _) (by omega)).mono ?_
   rintro e w5 ⟨q,rfl,hown,hbx⟩
   obtain⟨Aq,cq,rfl,hq⟩:=bW (u:={U0 with aO:=walk FILE [] T}) hown
   clear hq
   replace hown:=ay hown (Nat.le_refl _)
   have zF:Hid (w2.heap.size<w4.heap.size):=bV.out.lt
   have iy:Hid (w.heap.size<w4.heap.size):=bF.out.lt
   have bH:=hid (bF.out.below hbx)
   have bJ:=hid (bV.out.below hbx)
   have fC:=hid (bel dD.out hbx)
   have Ic:=hid hown
   clear hown
   clear bF bV dD
   clear hbx
   have BX:=zF.out
   have cx:=bJ.out.facts.2.2.2.2.2.2.2.2.1
   have fx:=bJ.out.thaw.2.2.2.2.2.2.2.2.1
   go_upto_region 18 with(fail)
   have hxr:=bH.out.set (k:=w2.heap.size) (i:=8) (.slice Aq (walk FILE [] T).length cq) (aX.out)
   have hxu:=bJ.out.path (.slice Aq (walk FILE [] T).length cq)
   have hoq:=gU.aN (w':=w5.setCell ⟨w2.heap.size,8,none⟩ (.slice Aq (walk FILE [] T).length cq)) (gb:=w2.heap.size) Ic.out (fun k hk=>heap_setCell_other _ _ _ _ hk) (by omega)
   have hb:=fC.out.setCell (p:=⟨w2.heap.size,8,none⟩) (fK.out) (.slice Aq (walk FILE [] T).length cq)
   clear bH bJ Ic fC
   clear cx fx
   generalize World.setCell w5 _ _=w6 at hxr hxu hoq hb⊢
   have bT:Hid (UB w6 (w.heap.size) (U0) (.slice none 0 0)):=hxr
   clear hxr
   have bG:Hid (UB w6 (w2.heap.size) (uF) (.slice Aq (walk FILE [] T).length cq)):=hxu
   clear hxu
   have uP:=hid hoq
   clear hoq
   have gq:=hid hb
   clear hb
   clear BX
   obtain⟨c0,c1,c2',c3,c4,c5,c6,c7,c8,c9,c10,c11,c12⟩:=bG.out.facts
   go_wp2_with (refine aC bT.out (uF) Aq (walk FILE [] T).length cq (.tmp 4) (.tmp 72) rfl rfl rfl rfl ?_)
   try simp only[Exit.inBlock,Exit.then]
   have hpo:∀k,k≠w.heap.size→(World.setRow w6 (w.heap.size) (cells (uF) (.slice Aq (walk FILE [] T).length cq))).heap[k]?=w6.heap[k]?:=fun k hk=>setRow_other _ _ _ _ hk
   have ho:=ay (gU.aN uP.out hpo iy.out) (by have h1:=bP.out;have h2:=iy.out;omega:w.heap.size≤_)
   exact bodyPost_ret (w:=World.setRow w6 w.heap.size (cells (uF) (.slice Aq (walk FILE [] T).length cq))) (res2 (u:=uF) (p:=.slice Aq (walk FILE [] T).length cq) rfl (bT.out.row (uF) _) true _ rfl rfl) rfl (eH (u:={uF with aO:=walk FILE [] T}) iV.out (below_setRow gq.out bP.out _) ho)
  |false=>
   have HB1:=HBG.out T
   rw[hb]at HB1
   have HB2:=hid HB1
   have iV:Hid (O=some {uF with aO:=walk FILE [] T}):=by show _=_;rw[jy.out,hb];rfl
   clear HB1 hb jy
   go_wp2_with fail
   refine(HB2.out _ (by omega)).mono ?_
   rintro e wx ⟨rfl,hwx⟩
   obtain rfl:w4=wx:=by first|exact hwx|exact hwx.symm
   clear hwx
   go_wp2_with fail
   refine(Ed true none 0 0 [] _ (aY.nil _) (Nat.le_refl _) (Nat.zero_le _) (by omega)).mono ?_
   rintro e w5 ⟨v,rfl,hown,hbx⟩
   obtain⟨A4,c4,rfl,h4,h5,h6⟩:=aJ hown
   have bH:=hid (bF.out.below hbx)
   have bJ:=hid (bV.out.below hbx)
   have fC:=hid (bel dD.out hbx)
   clear bF bV dD
   clear hbx hown
   rw[show mM true []=[]from rfl]at h4 h6⊢
   go_wp2_with fail
   refine(HWK.out A4 _ c4 [] T _ h6 h4 h5 (by simp;omega)).mono ?_
   rintro e w6 ⟨q,rfl,hown,hbx⟩
   obtain⟨Aq,cq,rfl,hq⟩:=bW (u:={U0 with aO:=walk FILE [] T}) hown
   clear hq
   replace hown:=ay hown (Nat.le_refl _)
   have zF:Hid (w2.heap.size<w5.heap.size):=bJ.out.lt
   have iy:Hid (w.heap.size<w5.heap.size):=bH.out.lt
   have bT:=hid (bH.out.below hbx)
   have bG:=hid (bJ.out.below hbx)
   have gq:=hid (bel fC.out hbx)
   have uP:=hid hown
   clear hown
   clear bH bJ fC
   clear hbx
   have BX:=zF.out
   have cx:=bG.out.facts.2.2.2.2.2.2.2.2.1
   have fx:=bG.out.thaw.2.2.2.2.2.2.2.2.1
   go_upto_region 18 with(fail)
   have hxr:=bT.out.set (k:=w2.heap.size) (i:=8) (.slice Aq (walk FILE [] T).length cq) (aX.out)
   have hxu:=bG.out.path (.slice Aq (walk FILE [] T).length cq)
   have hoq:=gU.aN (w':=w6.setCell ⟨w2.heap.size,8,none⟩ (.slice Aq (walk FILE [] T).length cq)) (gb:=w2.heap.size) uP.out (fun k hk=>heap_setCell_other _ _ _ _ hk) (by omega)
   have hb:=gq.out.setCell (p:=⟨w2.heap.size,8,none⟩) (fK.out) (.slice Aq (walk FILE [] T).length cq)
   clear bT bG uP gq
   clear cx fx
   generalize World.setCell w6 _ _=w7 at hxr hxu hoq hb⊢
   have dQ:Hid (UB w7 (w.heap.size) (U0) (.slice none 0 0)):=hxr
   clear hxr
   have dO:Hid (UB w7 (w2.heap.size) (uF) (.slice Aq (walk FILE [] T).length cq)):=hxu
   clear hxu
   have jD:=hid hoq
   clear hoq
   have iU:=hid hb
   clear hb
   clear BX
   obtain⟨c0,c1,c2',c3,c4,c5,c6,c7,c8,c9,c10,c11,c12⟩:=dO.out.facts
   go_wp2_with (refine aC dQ.out (uF) Aq (walk FILE [] T).length cq (.tmp 4) (.tmp 72) rfl rfl rfl rfl ?_)
   try simp only[Exit.inBlock,Exit.then]
   have hpo:∀k,k≠w.heap.size→(World.setRow w7 (w.heap.size) (cells (uF) (.slice Aq (walk FILE [] T).length cq))).heap[k]?=w7.heap[k]?:=fun k hk=>setRow_other _ _ _ _ hk
   have ho:=ay (gU.aN jD.out hpo iy.out) (by have h1:=bP.out;have h2:=iy.out;omega:w.heap.size≤_)
   exact bodyPost_ret (w:=World.setRow w7 w.heap.size (cells (uF) (.slice Aq (walk FILE [] T).length cq))) (res2 (u:=uF) (p:=.slice Aq (walk FILE [] T).length cq) rfl (dQ.out.row (uF) _) true _ rfl rfl) rfl (eH (u:={uF with aO:=walk FILE [] T}) iV.out (below_setRow iU.out bP.out _) ho)
end Go.Proofs.YtgamccijegollaaGreatDoor.PrsF
namespace Go.Proofs.YtgamccijegollaaGreatDoor.Pbx
open Go.RowKit Base Dp wS
def bQ (p:Parts):Array Value:=#[.string (strOf p.au),.string (strOf p.rest),.string (strOf p.dY),.string (strOf p.fB),.bool p.hq,.bool p.hf]
def P0:Parts:=⟨[],[],[],[],false,false⟩
def PB (w:World) (g:Nat) (p:Parts):Prop:=w.heap[g]?=some (.cells (bQ p) 98 (0,0))
variable {w w':World} {g:Nat} {p:Parts}
theorem PB.lt (h:PB w g p):g<w.heap.size:=(Array.getElem?_eq_some_iff.1 h).1
theorem PB.below (h:PB w g p) (hb:Below w.heap.size w w'):PB w' g p:=(hb.block g h.lt).trans h
theorem PB.facts (h:PB w g p):w.cell? ⟨g,0,none⟩=some (.string (strOf p.au))∧w.cell? ⟨g,1,none⟩=some (.string (strOf p.rest))∧w.cell? ⟨g,2,none⟩=some (.string (strOf p.dY))∧w.cell? ⟨g,3,none⟩=some (.string (strOf p.fB))∧w.cell? ⟨g,4,none⟩=some (.bool p.hq)∧w.cell? ⟨g,5,none⟩=some (.bool p.hf):=
 ⟨cell_of_row w g 0 _ _ _ h,cell_of_row w g 1 _ _ _ h,cell_of_row w g 2 _ _ _ h,cell_of_row w g 3 _ _ _ h,cell_of_row w g 4 _ _ _ h,cell_of_row w g 5 _ _ _ h⟩
theorem PB.thaw (h:PB w g p):w.frozen? ⟨g,0,none⟩=false∧w.frozen? ⟨g,1,none⟩=false∧w.frozen? ⟨g,2,none⟩=false∧w.frozen? ⟨g,3,none⟩=false∧w.frozen? ⟨g,4,none⟩=false∧w.frozen? ⟨g,5,none⟩=false:=
 ⟨frozen_of_row w g 0 _ _ h,frozen_of_row w g 1 _ _ h,frozen_of_row w g 2 _ _ h,frozen_of_row w g 3 _ _ h,frozen_of_row w g 4 _ _ h,frozen_of_row w g 5 _ _ h⟩
theorem PB.au (h:PB w g p) (s:List UInt8):PB (w.setCell ⟨g,0,none⟩ (.string (strOf s))) g {p with au:=s}:=heap_setCell_same w g 0 _ _ _ h
theorem PB.rest (h:PB w g p) (s:List UInt8):PB (w.setCell ⟨g,1,none⟩ (.string (strOf s))) g {p with rest:=s}:=heap_setCell_same w g 1 _ _ _ h
theorem PB.dY (h:PB w g p) (s:List UInt8):PB (w.setCell ⟨g,2,none⟩ (.string (strOf s))) g {p with dY:=s}:=heap_setCell_same w g 2 _ _ _ h
theorem PB.fB (h:PB w g p) (s:List UInt8):PB (w.setCell ⟨g,3,none⟩ (.string (strOf s))) g {p with fB:=s}:=heap_setCell_same w g 3 _ _ _ h
theorem PB.hq (h:PB w g p) (b:Bool):PB (w.setCell ⟨g,4,none⟩ (.bool b)) g {p with hq:=b}:=heap_setCell_same w g 4 _ _ _ h
theorem PB.hf (h:PB w g p) (b:Bool):PB (w.setCell ⟨g,5,none⟩ (.bool b)) g {p with hf:=b}:=heap_setCell_same w g 5 _ _ _ h
theorem PB.set (h:PB w g p) {k i:Nat} (x:Value) (hk:g≠k):PB (w.setCell ⟨k,i,none⟩ x) g p:=by
 unfold PB
 rw[heap_setCell_other _ _ _ _ hk]
 exact h
theorem PB.row (h:PB w g p) (q:Parts):PB (w.setRow g (bQ q)) g q:=setRow_heap w g (bQ p) (bQ q) _ (0,0) h
theorem Ei {ops:Array Oper} {rest:List Oper} {o:Oper} {a:Act} {Q:Exit→Act→World→Prop} (hU:PB w g p) (q:Parts) (x y:Operand) (ho:o.op=.store 98 x y) (hgd:o.guard=none)
  (hx:a.eval x=.pointer (some ⟨g,0,none⟩)) (hy:a.eval y=.agg (bQ q))
  (h:wpList Tryz.prog ops Q rest (a.put o.dst undef) (w.setRow g (bQ q))):wpList Tryz.prog ops Q (o::rest) a w:=
 wpList_store_row hgd 98 x y ho g (bQ q) hx hy 98 (bQ p) hU (by kernel_rfl) rfl (by simp[bQ,Value.oneCell']) h
theorem resP {fn:Func} {a:Tmp} (h:fn.results=#[.cell a 98]) (hU:PB w g p) (tmps:Array Value) (h2:tmps.getD a undef=.pointer (some ⟨g,0,none⟩)):
  (results fn tmps).run Tryz.prog w=.ok (.agg (bQ p)) w:=
 results_cell_row h tmps w g _ _ _ _ h2 hU Tryz.underlying98 rfl (by kernel_rfl)
end Go.Proofs.YtgamccijegollaaGreatDoor.Pbx
namespace Go.Proofs.YtgamccijegollaaGreatDoor.TI
open Go.RowKit Base L6 Dp dI cO acv ac2 acD aco wS yw tN Fp mW Pbx tK yx jQ pO
theorem qm (T:List UInt8) (w:World) (hs:T.length≤1000000) (hM:Max w):Calls Tryz.prog 53 #[.string (strOf T)] w fun e w'=>e=.returned (.agg (bQ (wS.apart T)))∧Below w.heap.size w w':=by
 obtain⟨O,hO⟩:∃O,O=wS.apart T:=⟨_,rfl⟩
 rw[←hO]
 obtain⟨F1,F2,fb,hHF⟩:∃a b c,fG 35 T=(a,b,c):=⟨_,_,_,rfl⟩
 obtain⟨Q1,Q2,qb,hHQ⟩:∃a b c,fG 63 F1=(a,b,c):=⟨_,_,_,rfl⟩
 obtain⟨C1,C2,cb,hHC⟩:∃a b c,fG 58 Q1=(a,b,c):=⟨_,_,_,rfl⟩
 have hl1:=rH 35 T
 have hl2:=rH 63 F1
 have hl3:=rH 58 Q1
 rw[hHF]at hl1
 rw[hHQ]at hl2
 rw[hHC]at hl3
 simp only at hl1 hl2 hl3
 unfold wS.apart at hO
 rw[hHF]at hO
 simp only at hO
 rw[hHQ]at hO
 simp only at hO
 rw[hHC]at hO
 simp only at hO
 have HF:∀w:World,Max w→Calls Tryz.prog 71 #[.string (strOf T),.string ⟨#[35]⟩] w fun e w'=>e=.returned (.tuple #[.string (strOf F1),.string (strOf F2),.bool fb])∧Below w.heap.size w w':=fun w ⟨m,hm⟩=>(Tryz.strings_Cut (strOf T) ⟨#[35]⟩ m w (by rw[o9];omega) hm).mono fun e w' ⟨h1,q,h2⟩=>⟨by rw[h1,show(strOf T).data.toList=T from rfl,show(⟨#[35]⟩:ByteArray).data.toList=[35]from rfl,yG,hHF];rfl,by rw[h2];exact Base.below_drewN (Below.refl _ _) _⟩
 have HQ:∀w:World,Max w→Calls Tryz.prog 71 #[.string (strOf F1),.string ⟨#[63]⟩] w fun e w'=>e=.returned (.tuple #[.string (strOf Q1),.string (strOf Q2),.bool qb])∧Below w.heap.size w w':=fun w ⟨m,hm⟩=>(Tryz.strings_Cut (strOf F1) ⟨#[63]⟩ m w (by rw[o9];omega) hm).mono fun e w' ⟨h1,q,h2⟩=>⟨by rw[h1,show(strOf F1).data.toList=F1 from rfl,show(⟨#[63]⟩:ByteArray).data.toList=[63]from rfl,yG,hHQ];rfl,by rw[h2];exact Base.below_drewN (Below.refl _ _) _⟩
 have HC:∀w:World,Max w→Calls Tryz.prog 71 #[.string (strOf Q1),.string ⟨#[58]⟩] w fun e w'=>e=.returned (.tuple #[.string (strOf C1),.string (strOf C2),.bool cb])∧Below w.heap.size w w':=fun w ⟨m,hm⟩=>(Tryz.strings_Cut (strOf Q1) ⟨#[58]⟩ m w (by rw[o9];omega) hm).mono fun e w' ⟨h1,q,h2⟩=>⟨by rw[h1,show(strOf Q1).data.toList=Q1 from rfl,show(⟨#[58]⟩:ByteArray).data.toList=[58]from rfl,yG,hHC];rfl,by rw[h2];exact Base.below_drewN (Below.refl _ _) _⟩
 have HF9:=hid HF
 have HQ9:=hid HQ
 have HC9:=hid HC
 have HIS:Hid (∀w:World,Calls Tryz.prog 112 #[.string (strOf C1)] w fun e w'=>e=.returned (.bool (lI C1))∧w'=w):=fun w=>XW (strOf C1) w (dW (by omega))
 have HLO:Hid (∀w:World,Calls Tryz.prog 113 #[.string (strOf C1)] w fun e w'=>e=.returned (.string (strOf (lower C1)))∧Below w.heap.size w w'):=fun w=>gI (strOf C1) w (by rw[o9];unfold maxLen;omega)
 have HO:=hid hO
 have HM:=hid hM
 clear HF HQ HC hHF hHQ hHC hO hM hl1 hl2 hl3
 go_enter Tryz.func53,Tryz.ntmps53
 go_upto_region 1 with(fail)
 generalize hw:World.alloc w _=w1
 have h1:PB w1 (w.heap.size) (P0)∧Below w.heap.size w w1:=by
  subst hw
  exact laid1 w _ _
 clear hw
 have bP:Hid (w.heap.size≤w.heap.size):=(Below.refl w.heap.size w).size
 have bM:=hid (bel (Below.refl w.heap.size w) h1.2)
 have aW:=hid h1.1
 clear h1
 go_upto_region 2 with(fail)
 generalize hw:World.alloc w1 _=w2
 have h1:PB w2 (w1.heap.size) (P0)∧Below w1.heap.size w1 w2:=by
  subst hw
  exact laid1 w1 _ _
 clear hw
 have hlr:=aW.out.lt
 have aX:Hid (w.heap.size≠w1.heap.size):=by show _≠_;omega
 have nO:Hid (w1.heap.size≠w.heap.size):=by show _≠_;omega
 clear hlr
 have fK:Hid (w.heap.size≤w1.heap.size):=bM.out.size
 have bK:=hid (aW.out.below h1.2)
 have eX:=hid (bel bM.out h1.2)
 have fZ:=hid h1.1
 clear aW bM
 clear h1
 go_wp2_with fail
 refine(HF9.out _ (HM.out.below eX.out)).mono ?_
 rintro e w3 ⟨rfl,hbx⟩
 have bD:=hid (bK.out.below hbx)
 have eY:=hid (fZ.out.below hbx)
 have cZ:=hid (bel eX.out hbx)
 clear bK fZ eX
 clear hbx
 have cx3:=eY.out.facts.2.2.2.1
 have fx3:=eY.out.thaw.2.2.2.1
 have cx5:=eY.out.facts.2.2.2.2.2
 have fx5:=eY.out.thaw.2.2.2.2.2
 go_upto_region 3 with(fail)
 have hxr:=((bD.out.set (k:=w1.heap.size) (i:=3) (.string (strOf F2)) aX.out).set (k:=w1.heap.size) (i:=5) (.bool fb) aX.out)
 have hxu:=((eY.out.fB F2).hf fb)
 have hb:=((cZ.out.setCell (p:=⟨w1.heap.size,3,none⟩) fK.out (.string (strOf F2))).setCell (p:=⟨w1.heap.size,5,none⟩) fK.out (.bool fb))
 clear bD eY cZ
 clear cx3 fx3 cx5 fx5
 generalize (World.setCell (World.setCell w3 ⟨w1.heap.size,3,none⟩ (.string (strOf F2))) ⟨w1.heap.size,5,none⟩ (.bool fb))=w4 at hxr hxu hb⊢
 have bF:Hid (PB w4 (w.heap.size) (P0)):=hxr
 clear hxr
 have bV:Hid (PB w4 (w1.heap.size) ({P0 with fB:=F2,hf:=fb})):=hxu
 clear hxu
 have dD:=hid hb
 clear hb
 go_wp2_with fail
 refine(HQ9.out _ (HM.out.below dD.out)).mono ?_
 rintro e w5 ⟨rfl,hbx⟩
 have bH:=hid (bF.out.below hbx)
 have bJ:=hid (bV.out.below hbx)
 have fC:=hid (bel dD.out hbx)
 clear bF bV dD
 clear hbx
 have cx2:=bJ.out.facts.2.2.1
 have fx2:=bJ.out.thaw.2.2.1
 have cx4:=bJ.out.facts.2.2.2.2.1
 have fx4:=bJ.out.thaw.2.2.2.2.1
 go_upto_region 4 with(fail)
 have hxr:=((bH.out.set (k:=w1.heap.size) (i:=2) (.string (strOf Q2)) aX.out).set (k:=w1.heap.size) (i:=4) (.bool qb) aX.out)
 have hxu:=((bJ.out.dY Q2).hq qb)
 have hb:=((fC.out.setCell (p:=⟨w1.heap.size,2,none⟩) fK.out (.string (strOf Q2))).setCell (p:=⟨w1.heap.size,4,none⟩) fK.out (.bool qb))
 clear bH bJ fC
 clear cx2 fx2 cx4 fx4
 generalize (World.setCell (World.setCell w5 ⟨w1.heap.size,2,none⟩ (.string (strOf Q2))) ⟨w1.heap.size,4,none⟩ (.bool qb))=w6 at hxr hxu hb⊢
 have bT:Hid (PB w6 (w.heap.size) (P0)):=hxr
 clear hxr
 have bG:Hid (PB w6 (w1.heap.size) ({P0 with fB:=F2,hf:=fb,dY:=Q2,hq:=qb})):=hxu
 clear hxu
 have gq:=hid hb
 clear hb
 have cx1:=bG.out.facts.2.1
 have fx1:=bG.out.thaw.2.1
 go_upto_region 5 with(fail)
 have hxr:=(bT.out.set (k:=w1.heap.size) (i:=1) (.string (strOf Q1)) aX.out)
 have hxu:=(bG.out.rest Q1)
 have hb:=(gq.out.setCell (p:=⟨w1.heap.size,1,none⟩) fK.out (.string (strOf Q1)))
 clear bT bG gq
 clear cx1 fx1
 generalize (World.setCell w6 ⟨w1.heap.size,1,none⟩ (.string (strOf Q1)))=w7 at hxr hxu hb⊢
 have dQ:Hid (PB w7 (w.heap.size) (P0)):=hxr
 clear hxr
 have dO:Hid (PB w7 (w1.heap.size) ({P0 with fB:=F2,hf:=fb,dY:=Q2,hq:=qb,rest:=Q1})):=hxu
 clear hxu
 have iU:=hid hb
 clear hb
 go_wp2_with fail
 refine(HC9.out _ (HM.out.below iU.out)).mono ?_
 rintro e w8 ⟨rfl,hbx⟩
 have iI:=hid (dQ.out.below hbx)
 have jJ:=hid (dO.out.below hbx)
 have sS:=hid (bel iU.out hbx)
 clear dQ dO iU
 clear hbx
 cases cb with
 |false=>
  have iV:Hid (O=⟨[],Q1,Q2,F2,qb,fb⟩):=by show _=_;rw[HO.out];first|done|rfl|simp
  clear HO
  obtain⟨p0,p1,p2,p3,p4,p5⟩:=jJ.out.facts
  go_wp2_with (refine Ei iI.out ({P0 with fB:=F2,hf:=fb,dY:=Q2,hq:=qb,rest:=Q1}) (.tmp 2) (.tmp 41) rfl rfl rfl rfl ?_)
  try simp only[Exit.inBlock,Exit.then]
  exact bodyPost_ret (w:=World.setRow w8 (w.heap.size) (bQ ({P0 with fB:=F2,hf:=fb,dY:=Q2,hq:=qb,rest:=Q1}))) (resP (p:={P0 with fB:=F2,hf:=fb,dY:=Q2,hq:=qb,rest:=Q1}) rfl (iI.out.row ({P0 with fB:=F2,hf:=fb,dY:=Q2,hq:=qb,rest:=Q1})) _ rfl) rfl ⟨by rw[iV.out];first|done|rfl,below_setRow sS.out bP.out _⟩
 |true=>
  cases hi:lI C1 with
  |false=>
   have iV:Hid (O=⟨[],Q1,Q2,F2,qb,fb⟩):=by show _=_;rw[HO.out,hi];first|done|rfl|simp
   rw[hi]at HIS
   clear HO hi
   go_wp2_with fail
   refine(HIS.out _).mono ?_
   rintro e wx ⟨rfl,hwx⟩
   obtain rfl:w8=wx:=by first|exact hwx|exact hwx.symm
   clear hwx
   obtain⟨p0,p1,p2,p3,p4,p5⟩:=jJ.out.facts
   go_wp2_with (refine Ei iI.out ({P0 with fB:=F2,hf:=fb,dY:=Q2,hq:=qb,rest:=Q1}) (.tmp 2) (.tmp 41) rfl rfl rfl rfl ?_)
   try simp only[Exit.inBlock,Exit.then]
   exact bodyPost_ret (w:=World.setRow w8 (w.heap.size) (bQ ({P0 with fB:=F2,hf:=fb,dY:=Q2,hq:=qb,rest:=Q1}))) (resP (p:={P0 with fB:=F2,hf:=fb,dY:=Q2,hq:=qb,rest:=Q1}) rfl (iI.out.row ({P0 with fB:=F2,hf:=fb,dY:=Q2,hq:=qb,rest:=Q1})) _ rfl) rfl ⟨by rw[iV.out];first|done|rfl,below_setRow sS.out bP.out _⟩
  |true=>
   have iV:Hid (O=⟨lower C1,C2,Q2,F2,qb,fb⟩):=by show _=_;rw[HO.out,hi];first|done|rfl|simp
   rw[hi]at HIS
   clear HO hi
   go_wp2_with fail
   refine(HIS.out _).mono ?_
   rintro e wx ⟨rfl,hwx⟩
   obtain rfl:w8=wx:=by first|exact hwx|exact hwx.symm
   clear hwx
   go_wp2_with fail
   refine(HLO.out _).mono ?_
   rintro e w9 ⟨rfl,hbx⟩
   have Bg:=hid (iI.out.below hbx)
   have yt:=hid (jJ.out.below hbx)
   have Fe:=hid (bel sS.out hbx)
   clear iI jJ sS
   clear hbx
   have cx0:=yt.out.facts.1
   have fx0:=yt.out.thaw.1
   have cx1:=yt.out.facts.2.1
   have fx1:=yt.out.thaw.2.1
   go_upto_region 8 with(fail)
   have hxr:=((Bg.out.set (k:=w1.heap.size) (i:=0) (.string (strOf (lower C1))) aX.out).set (k:=w1.heap.size) (i:=1) (.string (strOf C2)) aX.out)
   have hxu:=((yt.out.au (lower C1)).rest C2)
   have hb:=((Fe.out.setCell (p:=⟨w1.heap.size,0,none⟩) fK.out (.string (strOf (lower C1)))).setCell (p:=⟨w1.heap.size,1,none⟩) fK.out (.string (strOf C2)))
   clear Bg yt Fe
   clear cx0 fx0 cx1 fx1
   generalize (World.setCell (World.setCell w9 ⟨w1.heap.size,0,none⟩ (.string (strOf (lower C1)))) ⟨w1.heap.size,1,none⟩ (.string (strOf C2)))=w10 at hxr hxu hb⊢
   have CJ:Hid (PB w10 (w.heap.size) (P0)):=hxr
   clear hxr
   have uS:Hid (PB w10 (w1.heap.size) ({P0 with fB:=F2,hf:=fb,dY:=Q2,hq:=qb,rest:=C2,au:=lower C1})):=hxu
   clear hxu
   have OH:=hid hb
   clear hb
   obtain⟨p0,p1,p2,p3,p4,p5⟩:=uS.out.facts
   go_wp2_with (refine Ei CJ.out ({P0 with fB:=F2,hf:=fb,dY:=Q2,hq:=qb,rest:=C2,au:=lower C1}) (.tmp 2) (.tmp 41) rfl rfl rfl rfl ?_)
   try simp only[Exit.inBlock,Exit.then]
   exact bodyPost_ret (w:=World.setRow w10 (w.heap.size) (bQ ({P0 with fB:=F2,hf:=fb,dY:=Q2,hq:=qb,rest:=C2,au:=lower C1}))) (resP (p:={P0 with fB:=F2,hf:=fb,dY:=Q2,hq:=qb,rest:=C2,au:=lower C1}) rfl (CJ.out.row ({P0 with fB:=F2,hf:=fb,dY:=Q2,hq:=qb,rest:=C2,au:=lower C1})) _ rfl) rfl ⟨by rw[iV.out];first|done|rfl,below_setRow OH.out bP.out _⟩
theorem Gx (u:U) (p:Parts) (A:Option Addr) (n c:Nat) (w:World) (h1:p.dY.length≤1000000) (h2:p.fB.length≤1000000):Calls Tryz.prog 55 #[.agg (cells u (.slice A n c)),.agg (bQ p)] w fun e w'=>e=.returned (.agg (cells (wS.finish u p) (.slice A n c)))∧Below w.heap.size w w':=by
 obtain⟨O,hO⟩:∃O,O=wS.finish u p:=⟨_,rfl⟩
 rw[←hO]
 have wC:Hid (∀w:World,Calls Tryz.prog 115 #[.string (strOf u.au)] w fun e w'=>e=.returned (.bool (special u.au))∧w'=w):=fun w=>jv (strOf u.au) w
 obtain⟨pv,hpv⟩:∃q,q=Value.slice A n c:=⟨_,rfl⟩
 obtain⟨s,r,q,f,hq,hf⟩:=p
 have HO:=hid hO
 clear hO
 simp only at h1 h2
 go_enter Tryz.func55,Tryz.ntmps55
 go_upto_region 1 with(fail)
 generalize hw:World.alloc (World.alloc (World.alloc w _) _) _=w1
 have h1:UB w1 (w.heap.size) (u) (.slice A n c)∧PB w1 ((w.heap.size+1)) (⟨s,r,q,f,hq,hf⟩)∧UB w1 ((w.heap.size+1+1)) (U0) (.slice none 0 0)∧Below w.heap.size w w1:=by
  subst hw
  exact aml w _ _ _ _ _ _
 clear hw
 have Ko:Hid (w.heap.size≠(w.heap.size+1)):=by show _≠_;omega
 have nO:Hid (w.heap.size≠(w.heap.size+1+1)):=by show _≠_;omega
 have fK:Hid (w.heap.size≤w.heap.size):=by show _≤_;omega
 have jf:Hid ((w.heap.size+1)≠w.heap.size):=by show _≠_;omega
 have J8:Hid ((w.heap.size+1)≠(w.heap.size+1+1)):=by show _≠_;omega
 have WL:Hid (w.heap.size≤(w.heap.size+1)):=by show _≤_;omega
 have aX:Hid ((w.heap.size+1+1)≠w.heap.size):=by show _≠_;omega
 have J9:Hid ((w.heap.size+1+1)≠(w.heap.size+1)):=by show _≠_;omega
 have bP:Hid (w.heap.size≤(w.heap.size+1+1)):=by show _≤_;omega
 have wE:=hid h1.1
 have dF:=hid h1.2.1
 have aW:=hid h1.2.2.1
 have bM:=hid h1.2.2.2
 clear h1
 cases hq with
 |false=>
  have jy:Hid (O=if hf=true then {u with hf:=true,fB:=FM.enc 1 f}else u):=by show _=_;rw[HO.out];unfold wS.finish;first|done|rfl|simp
  obtain⟨p0,p1,p2,p3,p4,p5⟩:=dF.out.facts
  go_upto_region 6 with(fail)
  clear p0 p1 p2 p3 p4 p5
  cases hf with
  |false=>
   have iV:Hid (O=u):=by show _=_;rw[jy.out];first|done|rfl|simp
   obtain⟨p0,p1,p2,p3,p4,p5⟩:=dF.out.facts
   obtain⟨c0,c1,c2',c3,c4,c5,c6,c7,c8,c9,c10,c11,c12⟩:=wE.out.facts
   go_wp2_with (refine aC aW.out (u) A n c (.tmp 4) (.tmp 26) rfl rfl rfl rfl ?_)
   try simp only[Exit.inBlock,Exit.then]
   exact bodyPost_ret (w:=World.setRow w1 (w.heap.size+1+1) (cells (u) (.slice A n c))) (res1 (u:=u) (p:=.slice A n c) rfl (aW.out.row (u) _) _ rfl) rfl ⟨by rw[iV.out];first|done|rfl,below_setRow bM.out bP.out _⟩
  |true=>
   have iV:Hid (O={u with hf:=true,fB:=FM.enc 1 f}):=by show _=_;rw[jy.out];first|done|rfl|simp
   obtain⟨p0,p1,p2,p3,p4,p5⟩:=dF.out.facts
   have hcv:=fun(w:World) s=>run_bytes_of_string (P:=Tryz.prog) w 9 45 5 s Tryz.underlying9 Tryz.underlying45 Tryz.underlying5
   go_wp2_with fail
   clear hcv
   refine(FM.eF 1 _ _ _ f _ (fV (strOf f) _ _ _) (dW (by omega))).mono ?_
   rintro e w2 ⟨rfl,hb0⟩
   have hbx:Below w1.heap.size w1 w2:=bel (((Below.refl w1.heap.size w1).alloc (Nat.le_refl _) _).drew) hb0
   clear hb0
   have fZ:=hid (wE.out.below hbx)
   have jE:=hid (dF.out.below hbx)
   have bK:=hid (aW.out.below hbx)
   have eX:=hid (bel bM.out hbx)
   clear wE dF aW bM
   clear hbx
   clear p0 p1 p2 p3 p4 p5
   have ak2:=fZ.out.facts.2.2.2.2.2.2.2.2.2.2.1
   have alD:=fZ.out.thaw.2.2.2.2.2.2.2.2.2.2.1
   have ak3:=fZ.out.facts.2.2.2.2.2.2.2.2.2.2.2.2
   have alE:=fZ.out.thaw.2.2.2.2.2.2.2.2.2.2.2.2
   go_upto_region 8 with(fail)
   have hxu:=((fZ.out.hf true).fB (FM.enc 1 f))
   have hxp:=((jE.out.set (k:=w.heap.size) (i:=10) (.bool true) jf.out).set (k:=w.heap.size) (i:=12) (.string (strOf (FM.enc 1 f))) jf.out)
   have hxr:=((bK.out.set (k:=w.heap.size) (i:=10) (.bool true) aX.out).set (k:=w.heap.size) (i:=12) (.string (strOf (FM.enc 1 f))) aX.out)
   have hb:=((eX.out.setCell (p:=⟨w.heap.size,10,none⟩) fK.out (.bool true)).setCell (p:=⟨w.heap.size,12,none⟩) fK.out (.string (strOf (FM.enc 1 f))))
   clear fZ jE bK eX
   clear ak2 alD ak3 alE
   generalize (World.setCell (World.setCell w2 ⟨w.heap.size,10,none⟩ (.bool true)) ⟨w.heap.size,12,none⟩ (.string (strOf (FM.enc 1 f))))=w3 at hxu hxp hxr hb⊢
   have eY:Hid (UB w3 (w.heap.size) ({u with hf:=true,fB:=FM.enc 1 f}) (.slice A n c)):=hxu
   clear hxu
   have mY:Hid (PB w3 ((w.heap.size+1)) (⟨s,r,q,f,false,true⟩)):=hxp
   clear hxp
   have bD:Hid (UB w3 ((w.heap.size+1+1)) (U0) (.slice none 0 0)):=hxr
   clear hxr
   have cZ:=hid hb
   clear hb
   obtain⟨c0,c1,c2',c3,c4,c5,c6,c7,c8,c9,c10,c11,c12⟩:=eY.out.facts
   go_wp2_with (refine aC bD.out ({u with hf:=true,fB:=FM.enc 1 f}) A n c (.tmp 4) (.tmp 26) rfl rfl rfl rfl ?_)
   try simp only[Exit.inBlock,Exit.then]
   exact bodyPost_ret (w:=World.setRow w3 (w.heap.size+1+1) (cells ({u with hf:=true,fB:=FM.enc 1 f}) (.slice A n c))) (res1 (u:={u with hf:=true,fB:=FM.enc 1 f}) (p:=.slice A n c) rfl (bD.out.row ({u with hf:=true,fB:=FM.enc 1 f}) _) _ rfl) rfl ⟨by rw[iV.out];first|done|rfl,below_setRow cZ.out bP.out _⟩
 | true=>
  cases hs:special u.au with
  |false=>
   have jy:Hid (O=if hf=true then {{u with hq:=true,dY:=FM.enc 2 q}with hf:=true,fB:=FM.enc 1 f}else {u with hq:=true,dY:=FM.enc 2 q}):=by show _=_;rw[HO.out];unfold wS.finish;simp only[hs];first|done|rfl|simp
   rw[hs]at wC
   clear hs
   obtain⟨p0,p1,p2,p3,p4,p5⟩:=dF.out.facts
   have cs0:=wE.out.facts.1
   go_wp2_with fail
   refine(wC.out _).mono ?_
   rintro e wx ⟨rfl,hwx⟩
   obtain rfl:w1=wx:=by first|exact hwx|exact hwx.symm
   clear hwx
   have hcv:=fun(w:World) s=>run_bytes_of_string (P:=Tryz.prog) w 9 45 5 s Tryz.underlying9 Tryz.underlying45 Tryz.underlying5
   go_wp2_with fail
   clear hcv
   refine(FM.eF 2 _ _ _ q _ (fV (strOf q) _ _ _) (dW (by omega))).mono ?_
   rintro e w2 ⟨rfl,hb0⟩
   have hbx:Below w1.heap.size w1 w2:=bel (((Below.refl w1.heap.size w1).alloc (Nat.le_refl _) _).drew) hb0
   clear hb0
   have fZ:=hid (wE.out.below hbx)
   have jE:=hid (dF.out.below hbx)
   have bK:=hid (aW.out.below hbx)
   have eX:=hid (bel bM.out hbx)
   clear wE dF aW bM
   clear hbx
   clear p0 p1 p2 p3 p4 p5
   clear cs0
   have cx9:=fZ.out.facts.2.2.2.2.2.2.2.2.2.1
   have fx9:=fZ.out.thaw.2.2.2.2.2.2.2.2.2.1
   have cx11:=fZ.out.facts.2.2.2.2.2.2.2.2.2.2.2.1
   have fx11:=fZ.out.thaw.2.2.2.2.2.2.2.2.2.2.2.1
   go_upto_region 6 with(fail)
   have hxu:=((fZ.out.hq true).dY (FM.enc 2 q))
   have hxp:=((jE.out.set (k:=w.heap.size) (i:=9) (.bool true) jf.out).set (k:=w.heap.size) (i:=11) (.string (strOf (FM.enc 2 q))) jf.out)
   have hxr:=((bK.out.set (k:=w.heap.size) (i:=9) (.bool true) aX.out).set (k:=w.heap.size) (i:=11) (.string (strOf (FM.enc 2 q))) aX.out)
   have hb:=((eX.out.setCell (p:=⟨w.heap.size,9,none⟩) fK.out (.bool true)).setCell (p:=⟨w.heap.size,11,none⟩) fK.out (.string (strOf (FM.enc 2 q))))
   clear fZ jE bK eX
   clear cx9 fx9 cx11 fx11
   generalize (World.setCell (World.setCell w2 ⟨w.heap.size,9,none⟩ (.bool true)) ⟨w.heap.size,11,none⟩ (.string (strOf (FM.enc 2 q))))=w3 at hxu hxp hxr hb⊢
   have eY:Hid (UB w3 (w.heap.size) ({u with hq:=true,dY:=FM.enc 2 q}) (.slice A n c)):=hxu
   clear hxu
   have mY:Hid (PB w3 ((w.heap.size+1)) (⟨s,r,q,f,true,hf⟩)):=hxp
   clear hxp
   have bD:Hid (UB w3 ((w.heap.size+1+1)) (U0) (.slice none 0 0)):=hxr
   clear hxr
   have cZ:=hid hb
   clear hb
   cases hf with
   |false=>
    have iV:Hid (O={u with hq:=true,dY:=FM.enc 2 q}):=by show _=_;rw[jy.out];first|done|rfl|simp
    obtain⟨p0,p1,p2,p3,p4,p5⟩:=mY.out.facts
    obtain⟨c0,c1,c2',c3,c4,c5,c6,c7,c8,c9,c10,c11,c12⟩:=eY.out.facts
    go_wp2_with (refine aC bD.out ({u with hq:=true,dY:=FM.enc 2 q}) A n c (.tmp 4) (.tmp 26) rfl rfl rfl rfl ?_)
    try simp only[Exit.inBlock,Exit.then]
    exact bodyPost_ret (w:=World.setRow w3 (w.heap.size+1+1) (cells ({u with hq:=true,dY:=FM.enc 2 q}) (.slice A n c))) (res1 (u:={u with hq:=true,dY:=FM.enc 2 q}) (p:=.slice A n c) rfl (bD.out.row ({u with hq:=true,dY:=FM.enc 2 q}) _) _ rfl) rfl ⟨by rw[iV.out];first|done|rfl,below_setRow cZ.out bP.out _⟩
   |true=>
    have iV:Hid (O={u with hq:=true,dY:=FM.enc 2 q,hf:=true,fB:=FM.enc 1 f}):=by show _=_;rw[jy.out];first|done|rfl|simp
    obtain⟨p0,p1,p2,p3,p4,p5⟩:=mY.out.facts
    have hcv:=fun(w:World) s=>run_bytes_of_string (P:=Tryz.prog) w 9 45 5 s Tryz.underlying9 Tryz.underlying45 Tryz.underlying5
    go_wp2_with fail
    clear hcv
    refine(FM.eF 1 _ _ _ f _ (fV (strOf f) _ _ _) (dW (by omega))).mono ?_
    rintro e w4 ⟨rfl,hb0⟩
    have hbx:Below w3.heap.size w3 w4:=bel (((Below.refl w3.heap.size w3).alloc (Nat.le_refl _) _).drew) hb0
    clear hb0
    have bV:=hid (eY.out.below hbx)
    have kT:=hid (mY.out.below hbx)
    have bF:=hid (bD.out.below hbx)
    have dD:=hid (bel cZ.out hbx)
    clear eY mY bD cZ
    clear hbx
    clear p0 p1 p2 p3 p4 p5
    have ak2:=bV.out.facts.2.2.2.2.2.2.2.2.2.2.1
    have alD:=bV.out.thaw.2.2.2.2.2.2.2.2.2.2.1
    have ak3:=bV.out.facts.2.2.2.2.2.2.2.2.2.2.2.2
    have alE:=bV.out.thaw.2.2.2.2.2.2.2.2.2.2.2.2
    go_upto_region 8 with(fail)
    have hxu:=((bV.out.hf true).fB (FM.enc 1 f))
    have hxp:=((kT.out.set (k:=w.heap.size) (i:=10) (.bool true) jf.out).set (k:=w.heap.size) (i:=12) (.string (strOf (FM.enc 1 f))) jf.out)
    have hxr:=((bF.out.set (k:=w.heap.size) (i:=10) (.bool true) aX.out).set (k:=w.heap.size) (i:=12) (.string (strOf (FM.enc 1 f))) aX.out)
    have hb:=((dD.out.setCell (p:=⟨w.heap.size,10,none⟩) fK.out (.bool true)).setCell (p:=⟨w.heap.size,12,none⟩) fK.out (.string (strOf (FM.enc 1 f))))
    clear bV kT bF dD
    clear ak2 alD ak3 alE
    generalize (World.setCell (World.setCell w4 ⟨w.heap.size,10,none⟩ (.bool true)) ⟨w.heap.size,12,none⟩ (.string (strOf (FM.enc 1 f))))=w5 at hxu hxp hxr hb⊢
    have bJ:Hid (UB w5 (w.heap.size) ({u with hq:=true,dY:=FM.enc 2 q,hf:=true,fB:=FM.enc 1 f}) (.slice A n c)):=hxu
    clear hxu
    have mF:Hid (PB w5 ((w.heap.size+1)) (⟨s,r,q,f,true,true⟩)):=hxp
    clear hxp
    have bH:Hid (UB w5 ((w.heap.size+1+1)) (U0) (.slice none 0 0)):=hxr
    clear hxr
    have fC:=hid hb
    clear hb
    obtain⟨c0,c1,c2',c3,c4,c5,c6,c7,c8,c9,c10,c11,c12⟩:=bJ.out.facts
    go_wp2_with (refine aC bH.out ({u with hq:=true,dY:=FM.enc 2 q,hf:=true,fB:=FM.enc 1 f}) A n c (.tmp 4) (.tmp 26) rfl rfl rfl rfl ?_)
    try simp only[Exit.inBlock,Exit.then]
    exact bodyPost_ret (w:=World.setRow w5 (w.heap.size+1+1) (cells ({u with hq:=true,dY:=FM.enc 2 q,hf:=true,fB:=FM.enc 1 f}) (.slice A n c))) (res1 (u:={u with hq:=true,dY:=FM.enc 2 q,hf:=true,fB:=FM.enc 1 f}) (p:=.slice A n c) rfl (bH.out.row ({u with hq:=true,dY:=FM.enc 2 q,hf:=true,fB:=FM.enc 1 f}) _) _ rfl) rfl ⟨by rw[iV.out];first|done|rfl,below_setRow fC.out bP.out _⟩
  |true=>
   have jy:Hid (O=if hf=true then {{u with hq:=true,dY:=FM.enc 3 q}with hf:=true,fB:=FM.enc 1 f}else {u with hq:=true,dY:=FM.enc 3 q}):=by show _=_;rw[HO.out];unfold wS.finish;simp only[hs];first|done|rfl|simp
   rw[hs]at wC
   clear hs
   obtain⟨p0,p1,p2,p3,p4,p5⟩:=dF.out.facts
   have cs0:=wE.out.facts.1
   go_wp2_with fail
   refine(wC.out _).mono ?_
   rintro e wx ⟨rfl,hwx⟩
   obtain rfl:w1=wx:=by first|exact hwx|exact hwx.symm
   clear hwx
   have hcv:=fun(w:World) s=>run_bytes_of_string (P:=Tryz.prog) w 9 45 5 s Tryz.underlying9 Tryz.underlying45 Tryz.underlying5
   go_wp2_with fail
   clear hcv
   refine(FM.eF 3 _ _ _ q _ (fV (strOf q) _ _ _) (dW (by omega))).mono ?_
   rintro e w2 ⟨rfl,hb0⟩
   have hbx:Below w1.heap.size w1 w2:=bel (((Below.refl w1.heap.size w1).alloc (Nat.le_refl _) _).drew) hb0
   clear hb0
   have fZ:=hid (wE.out.below hbx)
   have jE:=hid (dF.out.below hbx)
   have bK:=hid (aW.out.below hbx)
   have eX:=hid (bel bM.out hbx)
   clear wE dF aW bM
   clear hbx
   clear p0 p1 p2 p3 p4 p5
   clear cs0
   have cx9:=fZ.out.facts.2.2.2.2.2.2.2.2.2.1
   have fx9:=fZ.out.thaw.2.2.2.2.2.2.2.2.2.1
   have cx11:=fZ.out.facts.2.2.2.2.2.2.2.2.2.2.2.1
   have fx11:=fZ.out.thaw.2.2.2.2.2.2.2.2.2.2.2.1
   go_upto_region 6 with(fail)
   have hxu:=((fZ.out.hq true).dY (FM.enc 3 q))
   have hxp:=((jE.out.set (k:=w.heap.size) (i:=9) (.bool true) jf.out).set (k:=w.heap.size) (i:=11) (.string (strOf (FM.enc 3 q))) jf.out)
   have hxr:=((bK.out.set (k:=w.heap.size) (i:=9) (.bool true) aX.out).set (k:=w.heap.size) (i:=11) (.string (strOf (FM.enc 3 q))) aX.out)
   have hb:=((eX.out.setCell (p:=⟨w.heap.size,9,none⟩) fK.out (.bool true)).setCell (p:=⟨w.heap.size,11,none⟩) fK.out (.string (strOf (FM.enc 3 q))))
   clear fZ jE bK eX
   clear cx9 fx9 cx11 fx11
   generalize (World.setCell (World.setCell w2 ⟨w.heap.size,9,none⟩ (.bool true)) ⟨w.heap.size,11,none⟩ (.string (strOf (FM.enc 3 q))))=w3 at hxu hxp hxr hb⊢
   have eY:Hid (UB w3 (w.heap.size) ({u with hq:=true,dY:=FM.enc 3 q}) (.slice A n c)):=hxu
   clear hxu
   have mY:Hid (PB w3 ((w.heap.size+1)) (⟨s,r,q,f,true,hf⟩)):=hxp
   clear hxp
   have bD:Hid (UB w3 ((w.heap.size+1+1)) (U0) (.slice none 0 0)):=hxr
   clear hxr
   have cZ:=hid hb
   clear hb
   cases hf with
   |false=>
    have iV:Hid (O={u with hq:=true,dY:=FM.enc 3 q}):=by show _=_;rw[jy.out];first|done|rfl|simp
    obtain⟨p0,p1,p2,p3,p4,p5⟩:=mY.out.facts
    obtain⟨c0,c1,c2',c3,c4,c5,c6,c7,c8,c9,c10,c11,c12⟩:=eY.out.facts
    go_wp2_with (refine aC bD.out ({u with hq:=true,dY:=FM.enc 3 q}) A n c (.tmp 4) (.tmp 26) rfl rfl rfl rfl ?_)
    try simp only[Exit.inBlock,Exit.then]
    exact bodyPost_ret (w:=World.setRow w3 (w.heap.size+1+1) (cells ({u with hq:=true,dY:=FM.enc 3 q}) (.slice A n c))) (res1 (u:={u with hq:=true,dY:=FM.enc 3 q}) (p:=.slice A n c) rfl (bD.out.row ({u with hq:=true,dY:=FM.enc 3 q}) _) _ rfl) rfl ⟨by rw[iV.out];first|done|rfl,below_setRow cZ.out bP.out _⟩
   |true=>
    have iV:Hid (O={u with hq:=true,dY:=FM.enc 3 q,hf:=true,fB:=FM.enc 1 f}):=by show _=_;rw[jy.out];first|done|rfl|simp
    obtain⟨p0,p1,p2,p3,p4,p5⟩:=mY.out.facts
    have hcv:=fun(w:World) s=>run_bytes_of_string (P:=Tryz.prog) w 9 45 5 s Tryz.underlying9 Tryz.underlying45 Tryz.underlying5
    go_wp2_with fail
    clear hcv
    refine(FM.eF 1 _ _ _ f _ (fV (strOf f) _ _ _) (dW (by omega))).mono ?_
    rintro e w4 ⟨rfl,hb0⟩
    have hbx:Below w3.heap.size w3 w4:=bel (((Below.refl w3.heap.size w3).alloc (Nat.le_refl _) _).drew) hb0
    clear hb0
    have bV:=hid (eY.out.below hbx)
    have kT:=hid (mY.out.below hbx)
    have bF:=hid (bD.out.below hbx)
    have dD:=hid (bel cZ.out hbx)
    clear eY mY bD cZ
    clear hbx
    clear p0 p1 p2 p3 p4 p5
    have ak2:=bV.out.facts.2.2.2.2.2.2.2.2.2.2.1
    have alD:=bV.out.thaw.2.2.2.2.2.2.2.2.2.2.1
    have ak3:=bV.out.facts.2.2.2.2.2.2.2.2.2.2.2.2
    have alE:=bV.out.thaw.2.2.2.2.2.2.2.2.2.2.2.2
    go_upto_region 8 with(fail)
    have hxu:=((bV.out.hf true).fB (FM.enc 1 f))
    have hxp:=((kT.out.set (k:=w.heap.size) (i:=10) (.bool true) jf.out).set (k:=w.heap.size) (i:=12) (.string (strOf (FM.enc 1 f))) jf.out)
    have hxr:=((bF.out.set (k:=w.heap.size) (i:=10) (.bool true) aX.out).set (k:=w.heap.size) (i:=12) (.string (strOf (FM.enc 1 f))) aX.out)
    have hb:=((dD.out.setCell (p:=⟨w.heap.size,10,none⟩) fK.out (.bool true)).setCell (p:=⟨w.heap.size,12,none⟩) fK.out (.string (strOf (FM.enc 1 f))))
    clear bV kT bF dD
    clear ak2 alD ak3 alE
    generalize (World.setCell (World.setCell w4 ⟨w.heap.size,10,none⟩ (.bool true)) ⟨w.heap.size,12,none⟩ (.string (strOf (FM.enc 1 f))))=w5 at hxu hxp hxr hb⊢
    have bJ:Hid (UB w5 (w.heap.size) ({u with hq:=true,dY:=FM.enc 3 q,hf:=true,fB:=FM.enc 1 f}) (.slice A n c)):=hxu
    clear hxu
    have mF:Hid (PB w5 ((w.heap.size+1)) (⟨s,r,q,f,true,true⟩)):=hxp
    clear hxp
    have bH:Hid (UB w5 ((w.heap.size+1+1)) (U0) (.slice none 0 0)):=hxr
    clear hxr
    have fC:=hid hb
    clear hb
    obtain⟨c0,c1,c2',c3,c4,c5,c6,c7,c8,c9,c10,c11,c12⟩:=bJ.out.facts
    go_wp2_with (refine aC bH.out ({u with hq:=true,dY:=FM.enc 3 q,hf:=true,fB:=FM.enc 1 f}) A n c (.tmp 4) (.tmp 26) rfl rfl rfl rfl ?_)
    try simp only[Exit.inBlock,Exit.then]
    exact bodyPost_ret (w:=World.setRow w5 (w.heap.size+1+1) (cells ({u with hq:=true,dY:=FM.enc 3 q,hf:=true,fB:=FM.enc 1 f}) (.slice A n c))) (res1 (u:={u with hq:=true,dY:=FM.enc 3 q,hf:=true,fB:=FM.enc 1 f}) (p:=.slice A n c) rfl (bH.out.row ({u with hq:=true,dY:=FM.enc 3 q,hf:=true,fB:=FM.enc 1 f}) _) _ rfl) rfl ⟨by rw[iV.out];first|done|rfl,below_setRow fC.out bP.out _⟩
end Go.Proofs.YtgamccijegollaaGreatDoor.TI
namespace Go.Proofs.YtgamccijegollaaGreatDoor.L6
open Go.RowKit Base Dp wS mW tK
def aeL (o:Option U) (B:Nat):Keep:=⟨fun v w=>∃A n c,v=.tuple #[.agg (cells (o.getD U0) (.slice A n c)),.bool o.isSome]∧w.ownsRow B 9 1 (.slice A n c) n ((o.getD U0).aO.map Value.string),fun _ _ _ hb ⟨A,n,c,h1,h2⟩=>⟨A,n,c,h1,aP h2 hb⟩⟩
def ab3 (o:Option U) (B:Nat):Keep:=⟨fun v w=>∃A n c,v=.agg (cells (o.getD U0) (.slice A n c))∧w.ownsRow B 9 1 (.slice A n c) n ((o.getD U0).aO.map Value.string),fun _ _ _ hb ⟨A,n,c,h1,h2⟩=>⟨A,n,c,h1,aP h2 hb⟩⟩
theorem ql {w w':World} {o:Option U} {e:Ending} (h:mO w o e w'):Below w.heap.size w w'∧∃A n c,e=.returned (.tuple #[.agg (cells (o.getD U0) (.slice A n c)),.bool o.isSome])∧w'.ownsRow w.heap.size 9 1 (.slice A n c) n ((o.getD U0).aO.map Value.string):=by
 obtain⟨hb,u,A,n,c,ok,rfl,hown,h1|h1⟩:=h
 ·obtain⟨rfl,rfl⟩:=h1
  exact⟨hb,A,n,c,rfl,hown⟩
 obtain⟨rfl,rfl,rfl⟩:=h1
 exact⟨hb,A,n,c,rfl,hown⟩
theorem qM {w w':World} {o:Option U} {A:Option Addr} {n c:Nat} (hb:Below w.heap.size w w') (h:w'.ownsRow w.heap.size 9 1 (.slice A n c) n ((o.getD U0).aO.map Value.string)):mO w o (.returned (.tuple #[.agg (cells (o.getD U0) (.slice A n c)),.bool o.isSome])) w':=by
 cases o with
 |none=>exact⟨hb,U0,A,n,c,false,rfl,h,.inr ⟨rfl,rfl,rfl⟩⟩
 |some u=>exact⟨hb,u,A,n,c,true,rfl,h,.inl ⟨rfl,rfl⟩⟩
end Go.Proofs.YtgamccijegollaaGreatDoor.L6
namespace Go.Proofs.YtgamccijegollaaGreatDoor.aj9
open Go.RowKit Base L6 Dp dI cO acv ac2 acD aco wS yw tN Fp mW Pbx tK yx jQ sU pO TI
theorem pre_len {r:List UInt8} (h:Lib.hasPrefix r [47,47]=true):2≤r.length:=by
 unfold Lib.hasPrefix at h
 match r,h with
 |[],h=>cases h
 |[a],h=>simp[List.isPrefixOf]at h
 |a::b::t,_=>simp
theorem anT (E:List UInt8):(Lib.trimSuffix E [32]).length≤E.length:=by
 unfold Lib.trimSuffix
 split
 ·simp
 exact Nat.le_refl _
theorem VL (p:Parts) (w:World) (hs:p.rest.length≤900000) (hL:oI w) (hT:Tab.Pow w) (hM:Max w):Calls Tryz.prog 121 #[.agg (bQ p)] w (mO w (wS.plain p)):=by
 obtain⟨s,r,q,f,hq,hf⟩:=p
 simp only at hs
 obtain⟨O,hO⟩:∃O,O=wS.plain ⟨s,r,q,f,hq,hf⟩:=⟨_,rfl⟩
 rw[←hO]
 obtain⟨a2,ha2⟩:∃x,x=Lib.hasPrefix r [47,47]:=⟨_,rfl⟩
 obtain⟨a1,ha1⟩:∃x,x=Lib.hasPrefix r [47]:=⟨_,rfl⟩
 unfold wS.plain at hO
 simp only at hO
 rw[←ha2,←ha1]at hO
 have h2l:a2=true→2≤r.length:=fun h=>by rw[h]at ha2;exact pre_len ha2.symm
 have H2L:=hid h2l
 have HP2:Hid (∀w:World,Calls Tryz.prog 116 #[.string (strOf r),.string ⟨#[47,47]⟩] w fun e w'=>e=.returned (.bool a2)∧w'=w):=fun w=>by rw[ha2];exact Tryz.strings_HasPrefix (strOf r) ⟨#[47,47]⟩ w
 have yc:Hid (∀w:World,Calls Tryz.prog 116 #[.string (strOf r),.string ⟨#[47]⟩] w fun e w'=>e=.returned (.bool a1)∧w'=w):=fun w=>by rw[ha1];exact Tryz.strings_HasPrefix (strOf r) ⟨#[47]⟩ w
 have HAU:Hid (∀(L:List UInt8) (w:World),L.length≤900000→oI w→Tab.Pow w→Max w→Calls Tryz.prog 118 #[.string (strOf s),.string (strOf L)] w (mO w (authority s L))):=fun L w h a c d=>qP s L w h a c d
 have UC:Hid (∀w:World,Calls Tryz.prog 223 #[.string (strOf s),.string (strOf r)] w (lu w.heap.size w (rooted s r))):=fun w=>AA (strOf s) (strOf r) w (dW (by omega))
 obtain⟨E,hE⟩:∃E,E=FM.enc 0 r:=⟨_,rfl⟩
 have hEl:E.length≤3000000:=by rw[hE];have:=FM.iW 0 r;omega
 have F6:Hid (∀(A:Option Addr) (n c:Nat) (w:World),aY w A n (ah r)→n≤1073741824→Calls Tryz.prog 123 #[.int .i64 0,.slice A n c] w fun e w'=>e=.returned (.string (strOf E))∧Below w.heap.size w w'):=fun A n c w h1 h2=>by rw[hE];exact FM.eF 0 A n c r w h1 h2
 have hop:wS.opq (hq||hf) r=if Lib.hasSuffix E [32]=true∧(hq||hf)=true then Lib.trimSuffix E [32]++[37,50,48]else E:=by rw[hE];rfl
 rw[hop]at hO
 obtain⟨sb,hsb⟩:∃x,x=Lib.hasSuffix E [32]:=⟨_,rfl⟩
 obtain⟨TS,hTS⟩:∃x,x=Lib.trimSuffix E [32]:=⟨_,rfl⟩
 have hTSl:TS.length≤3000000:=by rw[hTS];have:=anT E;omega
 have Y5:Hid (∀w:World,Calls Tryz.prog 171 #[.string (strOf E),.string ⟨#[32]⟩] w fun e w'=>e=.returned (.tuple #[.string (strOf TS),.bool sb])∧w'=w):=fun w=>by rw[hTS,hsb];exact Tryz.strings_CutSuffix (strOf E) ⟨#[32]⟩ w (by rw[o9];omega)
 have HAD:Hid (∀w:World,(Op.stringOp .add (strOf TS) ⟨#[37,50,48]⟩).run Tryz.prog w=.ok (.string (strOf (TS++[37,50,48]))) w):=fun w=>dL (strOf TS) ⟨#[37,50,48]⟩ w (by rw[o9];show _+3≤_;omega)
 rw[←hsb,←hTS]at hO
 have HO:=hid hO
 have HL:=hid hL
 have HT:=hid hT
 have HM:=hid hM
 clear hO ha2 ha1 h2l hop hsb hTS hE hL hT hM
 go_enter Tryz.func121,Tryz.ntmps121
 go_upto_region 1 with(fail)
 generalize hw:World.alloc (World.alloc w _) _=w1
 have h1:PB w1 (w.heap.size) (⟨s,r,q,f,hq,hf⟩)∧UB w1 ((w.heap.size+1)) (U0) (.slice none 0 0)∧Below w.heap.size w w1:=by
  subst hw
  exact laid2 w _ _ _ _
 clear hw
 have J8:Hid (w.heap.size≠(w.heap.size+1)):=by show _≠_;omega
 have J9:Hid ((w.heap.size+1)≠w.heap.size):=by show _≠_;omega
 have WL:Hid (w.heap.size≤w.heap.size):=Nat.le_refl _
 have bP:Hid (w.heap.size≤(w.heap.size+1)):=Nat.le_succ _
 have dF:=hid h1.1
 have aW:=hid h1.2.1
 have bM:=hid h1.2.2
 clear h1
 obtain⟨p0,p1,p2,p3,p4,p5⟩:=dF.out.facts
 go_upto_region 7 with(fail)
 generalize hw:World.alloc w1 _=w2
 have h1:UB w2 (w1.heap.size) ({U0 with au:=s,port:= -1}) (.slice none 0 0)∧Below w1.heap.size w1 w2:=by
  subst hw
  exact laid1 w1 _ _
 clear hw
 have hlp:=dF.out.lt
 have jf:Hid (w.heap.size≠w1.heap.size):=by show _≠_;omega
 have Ko:Hid (w1.heap.size≠w.heap.size):=by show _≠_;omega
 clear hlp
 have hlr:=aW.out.lt
 have aX:Hid ((w.heap.size+1)≠w1.heap.size):=by show _≠_;omega
 have nO:Hid (w1.heap.size≠(w.heap.size+1)):=by show _≠_;omega
 clear hlr
 have fK:Hid (w.heap.size≤w1.heap.size):=bM.out.size
 have jE:=hid (dF.out.below h1.2)
 have bK:=hid (aW.out.below h1.2)
 have eX:=hid (bel bM.out h1.2)
 have fZ:=hid h1.1
 clear dF aW bM
 clear h1
 clear p0 p1 p2 p3 p4 p5
 obtain⟨p0,p1,p2,p3,p4,p5⟩:=jE.out.facts
 go_wp2_with fail
 refine(HP2.out _).mono ?_
 rintro e wx ⟨rfl,hwx⟩
 obtain rfl:w2=wx:=by first|exact hwx|exact hwx.symm
 clear hwx
 cases a2 with
 | true=>
  have hl2:=H2L.out (by simp)
  have iV:Hid (O=authority s (r.drop 2)):=by show _=_;rw[HO.out,if_pos (by simp)]
  obtain⟨T2,hT2⟩:∃x,x=r.drop 2:=⟨_,rfl⟩
  have hx2:(strOf r).extract 2 (strOf r).size=strOf T2:=by rw[l7,hT2];rfl
  have gY:=hid hx2
  have hkI:(2:Int)≤((strOf r).size:Int):=by rw[o9];omega
  rw[←hT2]at iV
  have XL:T2.length≤900000:=by rw[hT2,List.length_drop];omega
  have iy:Hid ((w.heap.size+1)<w2.heap.size):=bK.out.lt
  have HF:=hid jE.out.facts
  obtain⟨OA,hOA⟩:∃x,x=authority s T2:=⟨_,rfl⟩
  have HAU2:Hid (∀w:World,oI w→Tab.Pow w→Max w→Calls Tryz.prog 118 #[.string (strOf s),.string (strOf T2)] w (mO w OA)):=fun w a b c=>by rw[hOA];exact HAU.out T2 w (by omega) a b c
  rw[←hOA]at iV
  clear hT2 hl2 hx2 hOA
  clear p0 p1 p2 p3 p4 p5
  go_upto_region 8 with(fail)
  refine bC (by kernel_rfl) 8 [is (.pointer (some ⟨w.heap.size,0,none⟩)),is (.string (strOf s)),is (.pointer (some ⟨w.heap.size,1,none⟩)),is (.string (strOf r)),is (.string (strOf T2)),aeL OA w2.heap.size,ab3 OA w2.heap.size,is (.bool OA.isSome)] [[],[0],[],[2],[2,3],[0,1,2,3,4],[0,1,2,3,4,5],[0,1,2,3,4,5],[0,1,2,3,4,5,6,7]] (by kernel_rfl) ?_ ?_
  ·refine⟨?_,?_,?_,?_,?_,?_,?_,?_,trivial⟩
   all_goals(intro t wq hbq hh K hK;simp only[filled,aj,upd,Have,is,any,row,pick,Act.put,List.setIfInBounds_toArray,List.set_cons_zero,List.set_cons_succ,Nat.reduceAdd,Nat.reduceEqDiff,reduceIte,List.tail_cons,List.headD_cons]at hh hK⊢)
   ·clear hh
    go_simp
    exact hK _ _ (Below.refl _ _) rfl
   ·have e0:=hh.1
    clear hh
    simp only[e0]at hK⊢
    have hc:=HF.out.1
    have hc2:=(hbq.cell (p:=⟨w.heap.size,0,none⟩) (by have:=iy.out;show w.heap.size<_;omega)).trans hc
    go_simp
    exact hK _ _ (Below.refl _ _) rfl
   ·clear hh
    go_simp
    exact hK _ _ (Below.refl _ _) rfl
   ·have e2:=hh.1
    clear hh
    simp only[e2]at hK⊢
    have hc:=HF.out.2.1
    have hc2:=(hbq.cell (p:=⟨w.heap.size,1,none⟩) (by have:=iy.out;show w.heap.size<_;omega)).trans hc
    go_simp
    exact hK _ _ (Below.refl _ _) rfl
   ·have e3:=hh.2.1
    clear hh
    simp only[e3]at hK⊢
    have hx:=gY.out
    go_simp
    exact hK _ _ (Below.refl _ _) rfl
   ·have e1:=hh.2.1
    have e4:=hh.2.2.2.2.1
    clear hh
    simp only[e1,e4]at hK⊢
    go_simp
    refine(HAU2.out _ (HL.out.below (bel eX.out hbq)) (bY HT.out (bel eX.out hbq)) (HM.out.below (bel eX.out hbq))).mono ?_
    intro e w9 ha
    obtain⟨mG,A9,n9,c9,rfl,Tq⟩:=L6.ql ha
    exact hK _ _ mG ⟨A9,n9,c9,rfl,ay Tq hbq.size⟩
   ·have e5:=hh.2.2.2.2.2.1
    clear hh
    obtain⟨A5,n5,c5,e5,XU⟩:=e5
    simp only[e5]at hK⊢
    go_simp
    exact hK _ _ (Below.refl _ _) ⟨_,_,_,rfl,XU⟩
   have e5:=hh.2.2.2.2.2.1
   clear hh
   obtain⟨A5,n5,c5,e5,XU⟩:=e5
   simp only[e5]at hK⊢
   go_simp
   exact hK _ _ (Below.refl _ _) rfl
  intro t wq hbq hh
  have f6:=aB hh 6 (by decide)
  simp only[pick]at f6
  have f7:=aB hh 7 (by decide)
  simp only[pick]at f7
  replace f7:t 7=(.bool OA.isSome):=f7
  clear hh
  simp only[filled,aj,upd,Have,is,any,row,pick,Act.put,List.setIfInBounds_toArray,List.set_cons_zero,List.set_cons_succ,Nat.reduceAdd,Nat.reduceEqDiff,reduceIte]
  obtain⟨A6,n6,c6,f6,YS⟩:=f6
  simp only[f6,f7]
  have yj:=hid (bK.out.below hbq)
  have Et:=hid (bel eX.out hbq)
  have Ak:=hid YS
  clear YS hbq
  refine aC yj.out ((OA).getD U0) A6 n6 c6 (.tmp 2) (.tmp 44) rfl rfl rfl rfl ?_
  go_wp2
  try simp only[Exit.inBlock,Exit.then]
  have ho:=ay (gU.aN (w':=World.setRow wq (w.heap.size+1) (cells ((OA).getD U0) (.slice A6 n6 c6))) (gb:=(w.heap.size+1)) (Ak.out) (fun k hk=>setRow_other _ _ _ _ hk) iy.out) (by have h1:=bP.out;have h2:=iy.out;omega:w.heap.size≤_)
  refine bodyPost_ret (w:=World.setRow wq (w.heap.size+1) (cells ((OA).getD U0) (.slice A6 n6 c6))) (res2 (u:=(OA).getD U0) (p:=.slice A6 n6 c6) rfl (yj.out.row _ _) (OA).isSome _ rfl rfl) rfl ?_
  rw[iV.out]
  exact L6.qM (below_setRow Et.out bP.out _) ho
 | false=>
  have jy:Hid (O=if a1=true then some {U0 with au:=s,port:= -1,aO:=rooted s r}else some {U0 with au:=s,port:= -1,opq:=true,txt:=if sb=true∧(hq||hf)=true then TS++[37,50,48]else E}):=by show _=_;rw[HO.out,if_neg (by simp)]
  clear HO H2L HAU
  go_wp2_with fail
  refine(yc.out _).mono ?_
  rintro e wx ⟨rfl,hwx⟩
  obtain rfl:w2=wx:=by first|exact hwx|exact hwx.symm
  clear hwx
  cases a1 with
  |true=>
   have iV:Hid (O=some {U0 with au:=s,port:= -1,aO:=rooted s r}):=by show _=_;rw[jy.out,if_pos (by simp)]
   go_wp2_with fail
   clear p0 p1 p2 p3 p4 p5
   refine(UC.out _).mono ?_
   rintro e w3 ⟨q1,rfl,hown,hbx⟩
   obtain⟨Aq,cq,rfl,hq1⟩:=bW (u:={U0 with aO:=rooted s r}) hown
   clear hq1
   replace hown:=ay hown (Nat.le_refl _)
   have zF:Hid (w1.heap.size<w2.heap.size):=fZ.out.lt
   have iy:Hid ((w.heap.size+1)<w2.heap.size):=bK.out.lt
   have mY:=hid (jE.out.below hbx)
   have bD:=hid (bK.out.below hbx)
   have eY:=hid (fZ.out.below hbx)
   have cZ:=hid (bel eX.out hbx)
   have HOqw3:=hid hown
   clear hown
   clear jE bK fZ eX
   clear hbx
   have hoq:=gU.aN (w':=w3.setCell ⟨w1.heap.size,8,none⟩ (.slice Aq (rooted s r).length cq)) (gb:=w1.heap.size) HOqw3.out (fun k hk=>heap_setCell_other _ _ _ _ hk) zF.out
   have hoq2:=hid hoq
   clear hoq HOqw3
   have cx:=eY.out.facts.2.2.2.2.2.2.2.2.1
   have fx:=eY.out.thaw.2.2.2.2.2.2.2.2.1
   go_upto_region 11 with(fail)
   have hxp:=mY.out.set (k:=w1.heap.size) (i:=8) (.slice Aq (rooted s r).length cq) jf.out
   have hxr:=bD.out.set (k:=w1.heap.size) (i:=8) (.slice Aq (rooted s r).length cq) aX.out
   have hxu:=eY.out.path (.slice Aq (rooted s r).length cq)
   have hb:=cZ.out.setCell (p:=⟨w1.heap.size,8,none⟩) fK.out (.slice Aq (rooted s r).length cq)
   have hoq:=hoq2.out
   clear mY bD eY cZ
   clear cx fx hoq2
   generalize World.setCell w3 _ _=w4 at hxp hxr hxu hb hoq⊢
   have kT:Hid (PB w4 (w.heap.size) (⟨s,r,q,f,hq,hf⟩)):=hxp
   clear hxp
   have bF:Hid (UB w4 ((w.heap.size+1)) (U0) (.slice none 0 0)):=hxr
   clear hxr
   have bV:Hid (UB w4 (w1.heap.size) ({U0 with au:=s,port:= -1}) (.slice Aq (rooted s r).length cq)):=hxu
   clear hxu
   have dD:=hid hb
   have OQ:=hid hoq
   clear hb hoq
   obtain⟨c0,c1,c2',c3,c4,c5,c6,c7,c8,c9,c10,c11,c12⟩:=bV.out.facts
   go_wp2_with (refine aC bF.out ({U0 with au:=s,port:= -1}) Aq (rooted s r).length cq (.tmp 2) (.tmp 56) rfl rfl rfl rfl ?_)
   try simp only[Exit.inBlock,Exit.then]
   have hpo:∀k,k≠(w.heap.size+1)→(World.setRow w4 ((w.heap.size+1)) (cells ({U0 with au:=s,port:= -1}) (.slice Aq (rooted s r).length cq))).heap[k]?=w4.heap[k]?:=fun k hk=>setRow_other _ _ _ _ hk
   have ho:=ay (gU.aN OQ.out hpo iy.out) (by have h1:=bP.out;have h2:=iy.out;omega:w.heap.size≤_)
   exact bodyPost_ret (w:=World.setRow w4 (w.heap.size+1) (cells ({U0 with au:=s,port:= -1}) (.slice Aq (rooted s r).length cq))) (res2 (u:={U0 with au:=s,port:= -1}) (p:=.slice Aq (rooted s r).length cq) rfl (bF.out.row ({U0 with au:=s,port:= -1}) _) true _ rfl rfl) rfl (eH (u:={U0 with au:=s,port:= -1,aO:=rooted s r}) iV.out (below_setRow dD.out bP.out _) ho)
  | false=>
   have iV:Hid (O=some {U0 with au:=s,port:= -1,opq:=true,txt:=if sb=true∧(hq||hf)=true then TS++[37,50,48]else E}):=by show _=_;rw[jy.out,if_neg (by simp)]
   clear jy
   clear p0 p1 p2 p3 p4 p5
   have cx6:=fZ.out.facts.2.2.2.2.2.2.1
   have fx6:=fZ.out.thaw.2.2.2.2.2.2.1
   go_upto_region 3 with(fail)
   have hxp:=(jE.out.set (k:=w1.heap.size) (i:=6) (.bool true) jf.out)
   have hxr:=(bK.out.set (k:=w1.heap.size) (i:=6) (.bool true) aX.out)
   have hxu:=(fZ.out.opq true)
   have hb:=(eX.out.setCell (p:=⟨w1.heap.size,6,none⟩) fK.out (.bool true))
   clear jE bK fZ eX
   clear cx6 fx6
   generalize (World.setCell w2 ⟨w1.heap.size,6,none⟩ (.bool true))=w3 at hxp hxr hxu hb⊢
   have mY:Hid (PB w3 (w.heap.size) (⟨s,r,q,f,hq,hf⟩)):=hxp
   clear hxp
   have bD:Hid (UB w3 ((w.heap.size+1)) (U0) (.slice none 0 0)):=hxr
   clear hxr
   have eY:Hid (UB w3 (w1.heap.size) ({U0 with au:=s,port:= -1,opq:=true}) (.slice none 0 0)):=hxu
   clear hxu
   have cZ:=hid hb
   clear hb
   obtain⟨p0,p1,p2,p3,p4,p5⟩:=mY.out.facts
   have hcv:=fun(w:World) s=>run_bytes_of_string (P:=Tryz.prog) w 9 45 5 s Tryz.underlying9 Tryz.underlying45 Tryz.underlying5
   go_wp2_with fail
   clear hcv
   refine(F6.out _ _ _ _ (fV (strOf r) _ _ _) (dW (by omega))).mono ?_
   rintro e w4 ⟨rfl,hb0⟩
   have hbx:Below w3.heap.size w3 w4:=bel (((Below.refl w3.heap.size w3).alloc (Nat.le_refl _) _).drew) hb0
   clear hb0
   have kT:=hid (mY.out.below hbx)
   have bF:=hid (bD.out.below hbx)
   have bV:=hid (eY.out.below hbx)
   have dD:=hid (bel cZ.out hbx)
   clear mY bD eY cZ
   clear hbx
   clear p0 p1 p2 p3 p4 p5
   have SH:=bV.out.facts.2.2.2.2.2.2.2.1
   have fx7:=bV.out.thaw.2.2.2.2.2.2.2.1
   go_upto_region 4 with(fail)
   have hxp:=(kT.out.set (k:=w1.heap.size) (i:=7) (.string (strOf E)) jf.out)
   have hxr:=(bF.out.set (k:=w1.heap.size) (i:=7) (.string (strOf E)) aX.out)
   have hxu:=(bV.out.txt E)
   have hb:=(dD.out.setCell (p:=⟨w1.heap.size,7,none⟩) fK.out (.string (strOf E)))
   clear kT bF bV dD
   clear SH fx7
   generalize (World.setCell w4 ⟨w1.heap.size,7,none⟩ (.string (strOf E)))=w5 at hxp hxr hxu hb⊢
   have mF:Hid (PB w5 (w.heap.size) (⟨s,r,q,f,hq,hf⟩)):=hxp
   clear hxp
   have bH:Hid (UB w5 ((w.heap.size+1)) (U0) (.slice none 0 0)):=hxr
   clear hxr
   have bJ:Hid (UB w5 (w1.heap.size) ({U0 with au:=s,port:= -1,opq:=true,txt:=E}) (.slice none 0 0)):=hxu
   clear hxu
   have fC:=hid hb
   clear hb
   have SH:=bJ.out.facts.2.2.2.2.2.2.2.1
   go_wp2_with fail
   refine(Y5.out _).mono ?_
   rintro e wx ⟨rfl,hwx⟩
   obtain rfl:w5=wx:=by first|exact hwx|exact hwx.symm
   clear hwx
   cases sb with
   |false=>
    go_upto_region 11 with(fail)
    clear SH
    have mX:Hid (O=some {U0 with au:=s,port:= -1,opq:=true,txt:=E}):=by show _=_;rw[iV.out];first|done|rfl|simp
    obtain⟨c0,c1,c2',c3,c4,c5,c6,c7,c8,c9,c10,c11,c12⟩:=bJ.out.facts
    go_wp2_with (refine aC bH.out {U0 with au:=s,port:= -1,opq:=true,txt:=E} none 0 0 (.tmp 2) (.tmp 56) rfl rfl rfl rfl ?_)
    try simp only[Exit.inBlock,Exit.then]
    exact bodyPost_ret (w:=World.setRow w5 (w.heap.size+1) (cells {U0 with au:=s,port:= -1,opq:=true,txt:=E} (.slice none 0 0))) (res2 (u:={U0 with au:=s,port:= -1,opq:=true,txt:=E}) (p:=.slice none 0 0) rfl (bH.out.row {U0 with au:=s,port:= -1,opq:=true,txt:=E} _) true _ rfl rfl) rfl (eH (u:={U0 with au:=s,port:= -1,opq:=true,txt:=E}) mX.out (below_setRow fC.out bP.out _) (wY _ _ rfl))
   | true=>
    cases hq with
    |true=>
     obtain⟨p0,p1,p2,p3,p4,p5⟩:=mF.out.facts
     have had:=HAD.out
     clear SH
     have SH:=bJ.out.facts.2.2.2.2.2.2.2.1
     have fx7:=bJ.out.thaw.2.2.2.2.2.2.2.1
     go_upto_region 11 with(fail)
     have hxp:=(mF.out.set (k:=w1.heap.size) (i:=7) (.string (strOf (TS++[37,50,48]))) jf.out)
     have hxr:=(bH.out.set (k:=w1.heap.size) (i:=7) (.string (strOf (TS++[37,50,48]))) aX.out)
     have hxu:=(bJ.out.txt (TS++[37,50,48]))
     have hb:=(fC.out.setCell (p:=⟨w1.heap.size,7,none⟩) fK.out (.string (strOf (TS++[37,50,48]))))
     clear mF bH bJ fC
     clear SH fx7
     generalize (World.setCell w5 ⟨w1.heap.size,7,none⟩ (.string (strOf (TS++[37,50,48]))))=w6 at hxp hxr hxu hb⊢
     have yg:Hid (PB w6 (w.heap.size) (⟨s,r,q,f,true,hf⟩)):=hxp
     clear hxp
     have bT:Hid (UB w6 ((w.heap.size+1)) (U0) (.slice none 0 0)):=hxr
     clear hxr
     have bG:Hid (UB w6 (w1.heap.size) ({U0 with au:=s,port:= -1,opq:=true,txt:=TS++[37,50,48]}) (.slice none 0 0)):=hxu
     clear hxu
     have gq:=hid hb
     clear hb
     clear p0 p1 p2 p3 p4 p5
     clear had
     have mX:Hid (O=some {U0 with au:=s,port:= -1,opq:=true,txt:=TS++[37,50,48]}):=by show _=_;rw[iV.out];first|done|rfl|simp
     obtain⟨c0,c1,c2',c3,c4,c5,c6,c7,c8,c9,c10,c11,c12⟩:=bG.out.facts
     go_wp2_with (refine aC bT.out {U0 with au:=s,port:= -1,opq:=true,txt:=TS++[37,50,48]} none 0 0 (.tmp 2) (.tmp 56) rfl rfl rfl rfl ?_)
     try simp only[Exit.inBlock,Exit.then]
     exact bodyPost_ret (w:=World.setRow w6 (w.heap.size+1) (cells {U0 with au:=s,port:= -1,opq:=true,txt:=TS++[37,50,48]} (.slice none 0 0))) (res2 (u:={U0 with au:=s,port:= -1,opq:=true,txt:=TS++[37,50,48]}) (p:=.slice none 0 0) rfl (bT.out.row {U0 with au:=s,port:= -1,opq:=true,txt:=TS++[37,50,48]} _) true _ rfl rfl) rfl (eH (u:={U0 with au:=s,port:= -1,opq:=true,txt:=TS++[37,50,48]}) mX.out (below_setRow gq.out bP.out _) (wY _ _ rfl))
    |false=>
     cases hf with
     |true=>
      obtain⟨p0,p1,p2,p3,p4,p5⟩:=mF.out.facts
      have had:=HAD.out
      clear SH
      have SH:=bJ.out.facts.2.2.2.2.2.2.2.1
      have fx7:=bJ.out.thaw.2.2.2.2.2.2.2.1
      go_upto_region 11 with(fail)
      have hxp:=(mF.out.set (k:=w1.heap.size) (i:=7) (.string (strOf (TS++[37,50,48]))) jf.out)
      have hxr:=(bH.out.set (k:=w1.heap.size) (i:=7) (.string (strOf (TS++[37,50,48]))) aX.out)
      have hxu:=(bJ.out.txt (TS++[37,50,48]))
      have hb:=(fC.out.setCell (p:=⟨w1.heap.size,7,none⟩) fK.out (.string (strOf (TS++[37,50,48]))))
      clear mF bH bJ fC
      clear SH fx7
      generalize (World.setCell w5 ⟨w1.heap.size,7,none⟩ (.string (strOf (TS++[37,50,48]))))=w6 at hxp hxr hxu hb⊢
      have yg:Hid (PB w6 (w.heap.size) (⟨s,r,q,f,false,true⟩)):=hxp
      clear hxp
      have bT:Hid (UB w6 ((w.heap.size+1)) (U0) (.slice none 0 0)):=hxr
      clear hxr
      have bG:Hid (UB w6 (w1.heap.size) ({U0 with au:=s,port:= -1,opq:=true,txt:=TS++[37,50,48]}) (.slice none 0 0)):=hxu
      clear hxu
      have gq:=hid hb
      clear hb
      clear p0 p1 p2 p3 p4 p5
      clear had
      have mX:Hid (O=some {U0 with au:=s,port:= -1,opq:=true,txt:=TS++[37,50,48]}):=by show _=_;rw[iV.out];first|done|rfl|simp
      obtain⟨c0,c1,c2',c3,c4,c5,c6,c7,c8,c9,c10,c11,c12⟩:=bG.out.facts
      go_wp2_with (refine aC bT.out {U0 with au:=s,port:= -1,opq:=true,txt:=TS++[37,50,48]} none 0 0 (.tmp 2) (.tmp 56) rfl rfl rfl rfl ?_)
      try simp only[Exit.inBlock,Exit.then]
      exact bodyPost_ret (w:=World.setRow w6 (w.heap.size+1) (cells {U0 with au:=s,port:= -1,opq:=true,txt:=TS++[37,50,48]} (.slice none 0 0))) (res2 (u:={U0 with au:=s,port:= -1,opq:=true,txt:=TS++[37,50,48]}) (p:=.slice none 0 0) rfl (bT.out.row {U0 with au:=s,port:= -1,opq:=true,txt:=TS++[37,50,48]} _) true _ rfl rfl) rfl (eH (u:={U0 with au:=s,port:= -1,opq:=true,txt:=TS++[37,50,48]}) mX.out (below_setRow gq.out bP.out _) (wY _ _ rfl))
     |false=>
      obtain⟨p0,p1,p2,p3,p4,p5⟩:=mF.out.facts
      go_upto_region 11 with(fail)
      clear SH
      clear p0 p1 p2 p3 p4 p5
      have mX:Hid (O=some {U0 with au:=s,port:= -1,opq:=true,txt:=E}):=by show _=_;rw[iV.out];first|done|rfl|simp
      obtain⟨c0,c1,c2',c3,c4,c5,c6,c7,c8,c9,c10,c11,c12⟩:=bJ.out.facts
      go_wp2_with (refine aC bH.out {U0 with au:=s,port:= -1,opq:=true,txt:=E} none 0 0 (.tmp 2) (.tmp 56) rfl rfl rfl rfl ?_)
      try simp only[Exit.inBlock,Exit.then]
      exact bodyPost_ret (w:=World.setRow w5 (w.heap.size+1) (cells {U0 with au:=s,port:= -1,opq:=true,txt:=E} (.slice none 0 0))) (res2 (u:={U0 with au:=s,port:= -1,opq:=true,txt:=E}) (p:=.slice none 0 0) rfl (bH.out.row {U0 with au:=s,port:= -1,opq:=true,txt:=E} _) true _ rfl rfl) rfl (eH (u:={U0 with au:=s,port:= -1,opq:=true,txt:=E}) mX.out (below_setRow fC.out bP.out _) (wY _ _ rfl))
end Go.Proofs.YtgamccijegollaaGreatDoor.aj9
