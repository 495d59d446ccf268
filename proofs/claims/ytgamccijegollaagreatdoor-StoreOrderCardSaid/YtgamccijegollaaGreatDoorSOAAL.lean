/- Texts that belong together: TI, PrsK, aj9, akb, acU. -/
import Derived.Test.YtgamccijegollaaGreatDoorSOAAK
import Derived.Test.YtgamccijegollaaGreatDoorSOAAD
import Derived.Test.YtgamccijegollaaGreatDoorSOAAG
set_option linter.unusedSimpArgs false
set_option linter.unusedVariables false
set_option maxRecDepth 100000
set_option maxHeartbeats 64000000
namespace Go.Proofs.YtgamccijegollaaGreatDoor.TI
open Go.RowKit Base L6 Dp dI cO acv ac2 acD aco wS yw tN Fp mW Pbx tK yx jQ pO
theorem qm (T:List UInt8) (w:World) (hs:T.length≤1000000) (hM:Max w):Calls Tryz.prog 53 #[.string (strOf T)] w fun e w'=>e=.returned (.agg (bQ (wS.apart T)))∧Below w.heap.size w w':=by
 obtain⟨O,hO⟩:∃O,O=wS.apart T:=⟨_,rfl⟩
 rw[←hO]
 obtain⟨F1,F2,fb,hHF⟩:∃a b c,fG 35 T=(a,b,c):=⟨_,_,_,rfl⟩
 obtain⟨Q1,Q2,qb,hHQ⟩:∃a b c,fG 63 F1=(a,b,c):=⟨_,_,_,rfl⟩
 obtain⟨C1,C2,cb,hHC⟩:∃a b c,fG 58 Q1=(a,b,c):=⟨_,_,_,rfl⟩
 have hl1:=rH 35 T
 have hl2:=rH 63 F1
 have hl3:=rH 58 Q1
 rw[hHF]at hl1
 rw[hHQ]at hl2
 rw[hHC]at hl3
 simp only at hl1 hl2 hl3
 unfold wS.apart at hO
 rw[hHF]at hO
 simp only at hO
 rw[hHQ]at hO
 simp only at hO
 rw[hHC]at hO
 simp only at hO
 have HF:∀w:World,Max w→Calls Tryz.prog 71 #[.string (strOf T),.string ⟨#[35]⟩] w fun e w'=>e=.returned (.tuple #[.string (strOf F1),.string (strOf F2),.bool fb])∧Below w.heap.size w w':=fun w ⟨m,hm⟩=>(Tryz.strings_Cut (strOf T) ⟨#[35]⟩ m w (by rw[o9];omega) hm).mono fun e w' ⟨h1,q,h2⟩=>⟨by rw[h1,show(strOf T).data.toList=T from rfl,show(⟨#[35]⟩:ByteArray).data.toList=[35]from rfl,yG,hHF];rfl,by rw[h2];exact Base.below_drewN (Below.refl _ _) _⟩
 have HQ:∀w:World,Max w→Calls Tryz.prog 71 #[.string (strOf F1),.string ⟨#[63]⟩] w fun e w'=>e=.returned (.tuple #[.string (strOf Q1),.string (strOf Q2),.bool qb])∧Below w.heap.size w w':=fun w ⟨m,hm⟩=>(Tryz.strings_Cut (strOf F1) ⟨#[63]⟩ m w (by rw[o9];omega) hm).mono fun e w' ⟨h1,q,h2⟩=>⟨by rw[h1,show(strOf F1).data.toList=F1 from rfl,show(⟨#[63]⟩:ByteArray).data.toList=[63]from rfl,yG,hHQ];rfl,by rw[h2];exact Base.below_drewN (Below.refl _ _) _⟩
 have HC:∀w:World,Max w→Calls Tryz.prog 71 #[.string (strOf Q1),.string ⟨#[58]⟩] w fun e w'=>e=.returned (.tuple #[.string (strOf C1),.string (strOf C2),.bool cb])∧Below w.heap.size w w':=fun w ⟨m,hm⟩=>(Tryz.strings_Cut (strOf Q1) ⟨#[58]⟩ m w (by rw[o9];omega) hm).mono fun e w' ⟨h1,q,h2⟩=>⟨by rw[h1,show(strOf Q1).data.toList=Q1 from rfl,show(⟨#[58]⟩:ByteArray).data.toList=[58]from rfl,yG,hHC];rfl,by rw[h2];exact Base.below_drewN (Below.refl _ _) _⟩
 have HF9:=hid HF
 have HQ9:=hid HQ
 have HC9:=hid HC
 have HIS:Hid (∀w:World,Calls Tryz.prog 112 #[.string (strOf C1)] w fun e w'=>e=.returned (.bool (lI C1))∧w'=w):=fun w=>XW (strOf C1) w (dW (by omega))
 have HLO:Hid (∀w:World,Calls Tryz.prog 113 #[.string (strOf C1)] w fun e w'=>e=.returned (.string (strOf (lower C1)))∧Below w.heap.size w w'):=fun w=>gI (strOf C1) w (by rw[o9];unfold maxLen;omega)
 have HO:=hid hO
 have HM:=hid hM
 clear HF HQ HC hHF hHQ hHC hO hM hl1 hl2 hl3
 go_enter Tryz.func53,Tryz.ntmps53
 go_upto_region 1 with(fail)
 generalize hw:World.alloc w _=w1
 have h1:PB w1 (w.heap.size) (P0)∧Below w.heap.size w w1:=by
  subst hw
  exact laid1 w _ _
 clear hw
 have bP:Hid (w.heap.size≤w.heap.size):=(Below.refl w.heap.size w).size
 have bM:=hid (bel (Below.refl w.heap.size w) h1.2)
 have aW:=hid h1.1
 clear h1
 go_upto_region 2 with(fail)
 generalize hw:World.alloc w1 _=w2
 have h1:PB w2 (w1.heap.size) (P0)∧Below w1.heap.size w1 w2:=by
  subst hw
  exact laid1 w1 _ _
 clear hw
 have hlr:=aW.out.lt
 have aX:Hid (w.heap.size≠w1.heap.size):=by show _≠_;omega
 have nO:Hid (w1.heap.size≠w.heap.size):=by show _≠_;omega
 clear hlr
 have fK:Hid (w.heap.size≤w1.heap.size):=bM.out.size
 have bK:=hid (aW.out.below h1.2)
 have eX:=hid (bel bM.out h1.2)
 have fZ:=hid h1.1
 clear aW bM
 clear h1
 go_wp2_with fail
 refine(HF9.out _ (HM.out.below eX.out)).mono ?_
 rintro e w3 ⟨rfl,hbx⟩
 have bD:=hid (bK.out.below hbx)
 have eY:=hid (fZ.out.below hbx)
 have cZ:=hid (bel eX.out hbx)
 clear bK fZ eX
 clear hbx
 have cx3:=eY.out.facts.2.2.2.1
 have fx3:=eY.out.thaw.2.2.2.1
 have cx5:=eY.out.facts.2.2.2.2.2
 have fx5:=eY.out.thaw.2.2.2.2.2
 go_upto_region 3 with(fail)
 have hxr:=((bD.out.set (k:=w1.heap.size) (i:=3) (.string (strOf F2)) aX.out).set (k:=w1.heap.size) (i:=5) (.bool fb) aX.out)
 have hxu:=((eY.out.fB F2).hf fb)
 have hb:=((cZ.out.setCell (p:=⟨w1.heap.size,3,none⟩) fK.out (.string (strOf F2))).setCell (p:=⟨w1.heap.size,5,none⟩) fK.out (.bool fb))
 clear bD eY cZ
 clear cx3 fx3 cx5 fx5
 generalize (World.setCell (World.setCell w3 ⟨w1.heap.size,3,none⟩ (.string (strOf F2))) ⟨w1.heap.size,5,none⟩ (.bool fb))=w4 at hxr hxu hb⊢
 have bF:Hid (PB w4 (w.heap.size) (P0)):=hxr
 clear hxr
 have bV:Hid (PB w4 (w1.heap.size) ({P0 with fB:=F2,hf:=fb})):=hxu
 clear hxu
 have dD:=hid hb
 clear hb
 go_wp2_with fail
 refine(HQ9.out _ (HM.out.below dD.out)).mono ?_
 rintro e w5 ⟨rfl,hbx⟩
 have bH:=hid (bF.out.below hbx)
 have bJ:=hid (bV.out.below hbx)
 have fC:=hid (bel dD.out hbx)
 clear bF bV dD
 clear hbx
 have cx2:=bJ.out.facts.2.2.1
 have fx2:=bJ.out.thaw.2.2.1
 have cx4:=bJ.out.facts.2.2.2.2.1
 have fx4:=bJ.out.thaw.2.2.2.2.1
 go_upto_region 4 with(fail)
 have hxr:=((bH.out.set (k:=w1.heap.size) (i:=2) (.string (strOf Q2)) aX.out).set (k:=w1.heap.size) (i:=4) (.bool qb) aX.out)
 have hxu:=((bJ.out.dY Q2).hq qb)
 have hb:=((fC.out.setCell (p:=⟨w1.heap.size,2,none⟩) fK.out (.string (strOf Q2))).setCell (p:=⟨w1.heap.size,4,none⟩) fK.out (.bool qb))
 clear bH bJ fC
 clear cx2 fx2 cx4 fx4
 generalize (World.setCell (World.setCell w5 ⟨w1.heap.size,2,none⟩ (.string (strOf Q2))) ⟨w1.heap.size,4,none⟩ (.bool qb))=w6 at hxr hxu hb⊢
 have bT:Hid (PB w6 (w.heap.size) (P0)):=hxr
 clear hxr
 have bG:Hid (PB w6 (w1.heap.size) ({P0 with fB:=F2,hf:=fb,dY:=Q2,hq:=qb})):=hxu
 clear hxu
 have gq:=hid hb
 clear hb
 have cx1:=bG.out.facts.2.1
 have fx1:=bG.out.thaw.2.1
 go_upto_region 5 with(fail)
 have hxr:=(bT.out.set (k:=w1.heap.size) (i:=1) (.string (strOf Q1)) aX.out)
 have hxu:=(bG.out.rest Q1)
 have hb:=(gq.out.setCell (p:=⟨w1.heap.size,1,none⟩) fK.out (.string (strOf Q1)))
 clear bT bG gq
 clear cx1 fx1
 generalize (World.setCell w6 ⟨w1.heap.size,1,none⟩ (.string (strOf Q1)))=w7 at hxr hxu hb⊢
 have dQ:Hid (PB w7 (w.heap.size) (P0)):=hxr
 clear hxr
 have dO:Hid (PB w7 (w1.heap.size) ({P0 with fB:=F2,hf:=fb,dY:=Q2,hq:=qb,rest:=Q1})):=hxu
 clear hxu
 have iU:=hid hb
 clear hb
 go_wp2_with fail
 refine(HC9.out _ (HM.out.below iU.out)).mono ?_
 rintro e w8 ⟨rfl,hbx⟩
 have iI:=hid (dQ.out.below hbx)
 have jJ:=hid (dO.out.below hbx)
 have sS:=hid (bel iU.out hbx)
 clear dQ dO iU
 clear hbx
 cases cb with
 |false=>
  have iV:Hid (O=⟨[],Q1,Q2,F2,qb,fb⟩):=by show _=_;rw[HO.out];first|done|rfl|simp
  clear HO
  obtain⟨p0,p1,p2,p3,p4,p5⟩:=jJ.out.facts
  go_wp2_with (refine Ei iI.out ({P0 with fB:=F2,hf:=fb,dY:=Q2,hq:=qb,rest:=Q1}) (.tmp 2) (.tmp 41) rfl rfl rfl rfl ?_)
  try simp only[Exit.inBlock,Exit.then]
  exact bodyPost_ret (w:=World.setRow w8 (w.heap.size) (bQ ({P0 with fB:=F2,hf:=fb,dY:=Q2,hq:=qb,rest:=Q1}))) (resP (p:={P0 with fB:=F2,hf:=fb,dY:=Q2,hq:=qb,rest:=Q1}) rfl (iI.out.row ({P0 with fB:=F2,hf:=fb,dY:=Q2,hq:=qb,rest:=Q1})) _ rfl) rfl ⟨by rw[iV.out];first|done|rfl,below_setRow sS.out bP.out _⟩
 |true=>
  cases hi:lI C1 with
  |false=>
   have iV:Hid (O=⟨[],Q1,Q2,F2,qb,fb⟩):=by show _=_;rw[HO.out,hi];first|done|rfl|simp
   rw[hi]at HIS
   clear HO hi
   go_wp2_with fail
   refine(HIS.out _).mono ?_
   rintro e wx ⟨rfl,hwx⟩
   obtain rfl:w8=wx:=by first|exact hwx|exact hwx.symm
   clear hwx
   obtain⟨p0,p1,p2,p3,p4,p5⟩:=jJ.out.facts
   go_wp2_with (refine Ei iI.out ({P0 with fB:=F2,hf:=fb,dY:=Q2,hq:=qb,rest:=Q1}) (.tmp 2) (.tmp 41) rfl rfl rfl rfl ?_)
   try simp only[Exit.inBlock,Exit.then]
   exact bodyPost_ret (w:=World.setRow w8 (w.heap.size) (bQ ({P0 with fB:=F2,hf:=fb,dY:=Q2,hq:=qb,rest:=Q1}))) (resP (p:={P0 with fB:=F2,hf:=fb,dY:=Q2,hq:=qb,rest:=Q1}) rfl (iI.out.row ({P0 with fB:=F2,hf:=fb,dY:=Q2,hq:=qb,rest:=Q1})) _ rfl) rfl ⟨by rw[iV.out];first|done|rfl,below_setRow sS.out bP.out _⟩
  |true=>
   have iV:Hid (O=⟨lower C1,C2,Q2,F2,qb,fb⟩):=by show _=_;rw[HO.out,hi];first|done|rfl|simp
   rw[hi]at HIS
   clear HO hi
   go_wp2_with fail
   refine(HIS.out _).mono ?_
   rintro e wx ⟨rfl,hwx⟩
   obtain rfl:w8=wx:=by first|exact hwx|exact hwx.symm
   clear hwx
   go_wp2_with fail
   refine(HLO.out _).mono ?_
   rintro e w9 ⟨rfl,hbx⟩
   have Bg:=hid (iI.out.below hbx)
   have yt:=hid (jJ.out.below hbx)
   have Fe:=hid (bel sS.out hbx)
   clear iI jJ sS
   clear hbx
   have cx0:=yt.out.facts.1
   have fx0:=yt.out.thaw.1
   have cx1:=yt.out.facts.2.1
   have fx1:=yt.out.thaw.2.1
   go_upto_region 8 with(fail)
   have hxr:=((Bg.out.set (k:=w1.heap.size) (i:=0) (.string (strOf (lower C1))) aX.out).set (k:=w1.heap.size) (i:=1) (.string (strOf C2)) aX.out)
   have hxu:=((yt.out.au (lower C1)).rest C2)
   have hb:=((Fe.out.setCell (p:=⟨w1.heap.size,0,none⟩) fK.out (.string (strOf (lower C1)))).setCell (p:=⟨w1.heap.size,1,none⟩) fK.out (.string (strOf C2)))
   clear Bg yt Fe
   clear cx0 fx0 cx1 fx1
   generalize (World.setCell (World.setCell w9 ⟨w1.heap.size,0,none⟩ (.string (strOf (lower C1)))) ⟨w1.heap.size,1,none⟩ (.string (strOf C2)))=w10 at hxr hxu hb⊢
   have CJ:Hid (PB w10 (w.heap.size) (P0)):=hxr
   clear hxr
   have uS:Hid (PB w10 (w1.heap.size) ({P0 with fB:=F2,hf:=fb,dY:=Q2,hq:=qb,rest:=C2,au:=lower C1})):=hxu
   clear hxu
   have OH:=hid hb
   clear hb
   obtain⟨p0,p1,p2,p3,p4,p5⟩:=uS.out.facts
   go_wp2_with (refine Ei CJ.out ({P0 with fB:=F2,hf:=fb,dY:=Q2,hq:=qb,rest:=C2,au:=lower C1}) (.tmp 2) (.tmp 41) rfl rfl rfl rfl ?_)
   try simp only[Exit.inBlock,Exit.then]
   exact bodyPost_ret (w:=World.setRow w10 (w.heap.size) (bQ ({P0 with fB:=F2,hf:=fb,dY:=Q2,hq:=qb,rest:=C2,au:=lower C1}))) (resP (p:={P0 with fB:=F2,hf:=fb,dY:=Q2,hq:=qb,rest:=C2,au:=lower C1}) rfl (CJ.out.row ({P0 with fB:=F2,hf:=fb,dY:=Q2,hq:=qb,rest:=C2,au:=lower C1})) _ rfl) rfl ⟨by rw[iV.out];first|done|rfl,below_setRow OH.out bP.out _⟩
theorem Gx (u:U) (p:Parts) (A:Option Addr) (n c:Nat) (w:World) (h1:p.dY.length≤1000000) (h2:p.fB.length≤1000000):Calls Tryz.prog 55 #[.agg (cells u (.slice A n c)),.agg (bQ p)] w fun e w'=>e=.returned (.agg (cells (wS.finish u p) (.slice A n c)))∧Below w.heap.size w w':=by
 obtain⟨O,hO⟩:∃O,O=wS.finish u p:=⟨_,rfl⟩
 rw[←hO]
 have wC:Hid (∀w:World,Calls Tryz.prog 115 #[.string (strOf u.au)] w fun e w'=>e=.returned (.bool (special u.au))∧w'=w):=fun w=>jv (strOf u.au) w
 obtain⟨pv,hpv⟩:∃q,q=Value.slice A n c:=⟨_,rfl⟩
 obtain⟨s,r,q,f,hq,hf⟩:=p
 have HO:=hid hO
 clear hO
 simp only at h1 h2
 go_enter Tryz.func55,Tryz.ntmps55
 go_upto_region 1 with(fail)
 generalize hw:World.alloc (World.alloc (World.alloc w _) _) _=w1
 have h1:UB w1 (w.heap.size) (u) (.slice A n c)∧PB w1 ((w.heap.size+1)) (⟨s,r,q,f,hq,hf⟩)∧UB w1 ((w.heap.size+1+1)) (U0) (.slice none 0 0)∧Below w.heap.size w w1:=by
  subst hw
  exact aml w _ _ _ _ _ _
 clear hw
 have Ko:Hid (w.heap.size≠(w.heap.size+1)):=by show _≠_;omega
 have nO:Hid (w.heap.size≠(w.heap.size+1+1)):=by show _≠_;omega
 have fK:Hid (w.heap.size≤w.heap.size):=by show _≤_;omega
 have jf:Hid ((w.heap.size+1)≠w.heap.size):=by show _≠_;omega
 have J8:Hid ((w.heap.size+1)≠(w.heap.size+1+1)):=by show _≠_;omega
 have WL:Hid (w.heap.size≤(w.heap.size+1)):=by show _≤_;omega
 have aX:Hid ((w.heap.size+1+1)≠w.heap.size):=by show _≠_;omega
 have J9:Hid ((w.heap.size+1+1)≠(w.heap.size+1)):=by show _≠_;omega
 have bP:Hid (w.heap.size≤(w.heap.size+1+1)):=by show _≤_;omega
 have wE:=hid h1.1
 have dF:=hid h1.2.1
 have aW:=hid h1.2.2.1
 have bM:=hid h1.2.2.2
 clear h1
 cases hq with
 |false=>
  have jy:Hid (O=if hf=true then {u with hf:=true,fB:=FM.enc 1 f}else u):=by show _=_;rw[HO.out];unfold wS.finish;first|done|rfl|simp
  obtain⟨p0,p1,p2,p3,p4,p5⟩:=dF.out.facts
  go_upto_region 6 with(fail)
  clear p0 p1 p2 p3 p4 p5
  cases hf with
  |false=>
   have iV:Hid (O=u):=by show _=_;rw[jy.out];first|done|rfl|simp
   obtain⟨p0,p1,p2,p3,p4,p5⟩:=dF.out.facts
   obtain⟨c0,c1,c2',c3,c4,c5,c6,c7,c8,c9,c10,c11,c12⟩:=wE.out.facts
   go_wp2_with (refine aC aW.out (u) A n c (.tmp 4) (.tmp 26) rfl rfl rfl rfl ?_)
   try simp only[Exit.inBlock,Exit.then]
   exact bodyPost_ret (w:=World.setRow w1 (w.heap.size+1+1) (cells (u) (.slice A n c))) (res1 (u:=u) (p:=.slice A n c) rfl (aW.out.row (u) _) _ rfl) rfl ⟨by rw[iV.out];first|done|rfl,below_setRow bM.out bP.out _⟩
  |true=>
   have iV:Hid (O={u with hf:=true,fB:=FM.enc 1 f}):=by show _=_;rw[jy.out];first|done|rfl|simp
   obtain⟨p0,p1,p2,p3,p4,p5⟩:=dF.out.facts
   have hcv:=fun(w:World) s=>run_bytes_of_string (P:=Tryz.prog) w 9 45 5 s Tryz.underlying9 Tryz.underlying45 Tryz.underlying5
   go_wp2_with fail
   clear hcv
   refine(FM.eF 1 _ _ _ f _ (fV (strOf f) _ _ _) (dW (by omega))).mono ?_
   rintro e w2 ⟨rfl,hb0⟩
   have hbx:Below w1.heap.size w1 w2:=bel (((Below.refl w1.heap.size w1).alloc (Nat.le_refl _) _).drew) hb0
   clear hb0
   have fZ:=hid (wE.out.below hbx)
   have jE:=hid (dF.out.below hbx)
   have bK:=hid (aW.out.below hbx)
   have eX:=hid (bel bM.out hbx)
   clear wE dF aW bM
   clear hbx
   clear p0 p1 p2 p3 p4 p5
   have ak2:=fZ.out.facts.2.2.2.2.2.2.2.2.2.2.1
   have alD:=fZ.out.thaw.2.2.2.2.2.2.2.2.2.2.1
   have ak3:=fZ.out.facts.2.2.2.2.2.2.2.2.2.2.2.2
   have alE:=fZ.out.thaw.2.2.2.2.2.2.2.2.2.2.2.2
   go_upto_region 8 with(fail)
   have hxu:=((fZ.out.hf true).fB (FM.enc 1 f))
   have hxp:=((jE.out.set (k:=w.heap.size) (i:=10) (.bool true) jf.out).set (k:=w.heap.size) (i:=12) (.string (strOf (FM.enc 1 f))) jf.out)
   have hxr:=((bK.out.set (k:=w.heap.size) (i:=10) (.bool true) aX.out).set (k:=w.heap.size) (i:=12) (.string (strOf (FM.enc 1 f))) aX.out)
   have hb:=((eX.out.setCell (p:=⟨w.heap.size,10,none⟩) fK.out (.bool true)).setCell (p:=⟨w.heap.size,12,none⟩) fK.out (.string (strOf (FM.enc 1 f))))
   clear fZ jE bK eX
   clear ak2 alD ak3 alE
   generalize (World.setCell (World.setCell w2 ⟨w.heap.size,10,none⟩ (.bool true)) ⟨w.heap.size,12,none⟩ (.string (strOf (FM.enc 1 f))))=w3 at hxu hxp hxr hb⊢
   have eY:Hid (UB w3 (w.heap.size) ({u with hf:=true,fB:=FM.enc 1 f}) (.slice A n c)):=hxu
   clear hxu
   have mY:Hid (PB w3 ((w.heap.size+1)) (⟨s,r,q,f,false,true⟩)):=hxp
   clear hxp
   have bD:Hid (UB w3 ((w.heap.size+1+1)) (U0) (.slice none 0 0)):=hxr
   clear hxr
   have cZ:=hid hb
   clear hb
   obtain⟨c0,c1,c2',c3,c4,c5,c6,c7,c8,c9,c10,c11,c12⟩:=eY.out.facts
   go_wp2_with (refine aC bD.out ({u with hf:=true,fB:=FM.enc 1 f}) A n c (.tmp 4) (.tmp 26) rfl rfl rfl rfl ?_)
   try simp only[Exit.inBlock,Exit.then]
   exact bodyPost_ret (w:=World.setRow w3 (w.heap.size+1+1) (cells ({u with hf:=true,fB:=FM.enc 1 f}) (.slice A n c))) (res1 (u:={u with hf:=true,fB:=FM.enc 1 f}) (p:=.slice A n c) rfl (bD.out.row ({u with hf:=true,fB:=FM.enc 1 f}) _) _ rfl) rfl ⟨by rw[iV.out];first|done|rfl,below_setRow cZ.out bP.out _⟩
 | true=>
  cases hs:special u.au with
  |false=>
   have jy:Hid (O=if hf=true then {{u with hq:=true,dY:=FM.enc 2 q}with hf:=true,fB:=FM.enc 1 f}else {u with hq:=true,dY:=FM.enc 2 q}):=by show _=_;rw[HO.out];unfold wS.finish;simp only[hs];first|done|rfl|simp
   rw[hs]at wC
   clear hs
   obtain⟨p0,p1,p2,p3,p4,p5⟩:=dF.out.facts
   have cs0:=wE.out.facts.1
   go_wp2_with fail
   refine(wC.out _).mono ?_
   rintro e wx ⟨rfl,hwx⟩
   obtain rfl:w1=wx:=by first|exact hwx|exact hwx.symm
   clear hwx
   have hcv:=fun(w:World) s=>run_bytes_of_string (P:=Tryz.prog) w 9 45 5 s Tryz.underlying9 Tryz.underlying45 Tryz.underlying5
   go_wp2_with fail
   clear hcv
   refine(FM.eF 2 _ _ _ q _ (fV (strOf q) _ _ _) (dW (by omega))).mono ?_
   rintro e w2 ⟨rfl,hb0⟩
   have hbx:Below w1.heap.size w1 w2:=bel (((Below.refl w1.heap.size w1).alloc (Nat.le_refl _) _).drew) hb0
   clear hb0
   have fZ:=hid (wE.out.below hbx)
   have jE:=hid (dF.out.below hbx)
   have bK:=hid (aW.out.below hbx)
   have eX:=hid (bel bM.out hbx)
   clear wE dF aW bM
   clear hbx
   clear p0 p1 p2 p3 p4 p5
   clear cs0
   have cx9:=fZ.out.facts.2.2.2.2.2.2.2.2.2.1
   have fx9:=fZ.out.thaw.2.2.2.2.2.2.2.2.2.1
   have cx11:=fZ.out.facts.2.2.2.2.2.2.2.2.2.2.2.1
   have fx11:=fZ.out.thaw.2.2.2.2.2.2.2.2.2.2.2.1
   go_upto_region 6 with(fail)
   have hxu:=((fZ.out.hq true).dY (FM.enc 2 q))
   have hxp:=((jE.out.set (k:=w.heap.size) (i:=9) (.bool true) jf.out).set (k:=w.heap.size) (i:=11) (.string (strOf (FM.enc 2 q))) jf.out)
   have hxr:=((bK.out.set (k:=w.heap.size) (i:=9) (.bool true) aX.out).set (k:=w.heap.size) (i:=11) (.string (strOf (FM.enc 2 q))) aX.out)
   have hb:=((eX.out.setCell (p:=⟨w.heap.size,9,none⟩) fK.out (.bool true)).setCell (p:=⟨w.heap.size,11,none⟩) fK.out (.string (strOf (FM.enc 2 q))))
   clear fZ jE bK eX
   clear cx9 fx9 cx11 fx11
   generalize (World.setCell (World.setCell w2 ⟨w.heap.size,9,none⟩ (.bool true)) ⟨w.heap.size,11,none⟩ (.string (strOf (FM.enc 2 q))))=w3 at hxu hxp hxr hb⊢
   have eY:Hid (UB w3 (w.heap.size) ({u with hq:=true,dY:=FM.enc 2 q}) (.slice A n c)):=hxu
   clear hxu
   have mY:Hid (PB w3 ((w.heap.size+1)) (⟨s,r,q,f,true,hf⟩)):=hxp
   clear hxp
   have bD:Hid (UB w3 ((w.heap.size+1+1)) (U0) (.slice none 0 0)):=hxr
   clear hxr
   have cZ:=hid hb
   clear hb
   cases hf with
   |false=>
    have iV:Hid (O={u with hq:=true,dY:=FM.enc 2 q}):=by show _=_;rw[jy.out];first|done|rfl|simp
    obtain⟨p0,p1,p2,p3,p4,p5⟩:=mY.out.facts
    obtain⟨c0,c1,c2',c3,c4,c5,c6,c7,c8,c9,c10,c11,c12⟩:=eY.out.facts
    go_wp2_with (refine aC bD.out ({u with hq:=true,dY:=FM.enc 2 q}) A n c (.tmp 4) (.tmp 26) rfl rfl rfl rfl ?_)
    try simp only[Exit.inBlock,Exit.then]
    exact bodyPost_ret (w:=World.setRow w3 (w.heap.size+1+1) (cells ({u with hq:=true,dY:=FM.enc 2 q}) (.slice A n c))) (res1 (u:={u with hq:=true,dY:=FM.enc 2 q}) (p:=.slice A n c) rfl (bD.out.row ({u with hq:=true,dY:=FM.enc 2 q}) _) _ rfl) rfl ⟨by rw[iV.out];first|done|rfl,below_setRow cZ.out bP.out _⟩
   |true=>
    have iV:Hid (O={u with hq:=true,dY:=FM.enc 2 q,hf:=true,fB:=FM.enc 1 f}):=by show _=_;rw[jy.out];first|done|rfl|simp
    obtain⟨p0,p1,p2,p3,p4,p5⟩:=mY.out.facts
    have hcv:=fun(w:World) s=>run_bytes_of_string (P:=Tryz.prog) w 9 45 5 s Tryz.underlying9 Tryz.underlying45 Tryz.underlying5
    go_wp2_with fail
    clear hcv
    refine(FM.eF 1 _ _ _ f _ (fV (strOf f) _ _ _) (dW (by omega))).mono ?_
    rintro e w4 ⟨rfl,hb0⟩
    have hbx:Below w3.heap.size w3 w4:=bel (((Below.refl w3.heap.size w3).alloc (Nat.le_refl _) _).drew) hb0
    clear hb0
    have bV:=hid (eY.out.below hbx)
    have kT:=hid (mY.out.below hbx)
    have bF:=hid (bD.out.below hbx)
    have dD:=hid (bel cZ.out hbx)
    clear eY mY bD cZ
    clear hbx
    clear p0 p1 p2 p3 p4 p5
    have ak2:=bV.out.facts.2.2.2.2.2.2.2.2.2.2.1
    have alD:=bV.out.thaw.2.2.2.2.2.2.2.2.2.2.1
    have ak3:=bV.out.facts.2.2.2.2.2.2.2.2.2.2.2.2
    have alE:=bV.out.thaw.2.2.2.2.2.2.2.2.2.2.2.2
    go_upto_region 8 with(fail)
    have hxu:=((bV.out.hf true).fB (FM.enc 1 f))
    have hxp:=((kT.out.set (k:=w.heap.size) (i:=10) (.bool true) jf.out).set (k:=w.heap.size) (i:=12) (.string (strOf (FM.enc 1 f))) jf.out)
    have hxr:=((bF.out.set (k:=w.heap.size) (i:=10) (.bool true) aX.out).set (k:=w.heap.size) (i:=12) (.string (strOf (FM.enc 1 f))) aX.out)
    have hb:=((dD.out.setCell (p:=⟨w.heap.size,10,none⟩) fK.out (.bool true)).setCell (p:=⟨w.heap.size,12,none⟩) fK.out (.string (strOf (FM.enc 1 f))))
    clear bV kT bF dD
    clear ak2 alD ak3 alE
    generalize (World.setCell (World.setCell w4 ⟨w.heap.size,10,none⟩ (.bool true)) ⟨w.heap.size,12,none⟩ (.string (strOf (FM.enc 1 f))))=w5 at hxu hxp hxr hb⊢
    have bJ:Hid (UB w5 (w.heap.size) ({u with hq:=true,dY:=FM.enc 2 q,hf:=true,fB:=FM.enc 1 f}) (.slice A n c)):=hxu
    clear hxu
    have mF:Hid (PB w5 ((w.heap.size+1)) (⟨s,r,q,f,true,true⟩)):=hxp
    clear hxp
    have bH:Hid (UB w5 ((w.heap.size+1+1)) (U0) (.slice none 0 0)):=hxr
    clear hxr
    have fC:=hid hb
    clear hb
    obtain⟨c0,c1,c2',c3,c4,c5,c6,c7,c8,c9,c10,c11,c12⟩:=bJ.out.facts
    go_wp2_with (refine aC bH.out ({u with hq:=true,dY:=FM.enc 2 q,hf:=true,fB:=FM.enc 1 f}) A n c (.tmp 4) (.tmp 26) rfl rfl rfl rfl ?_)
    try simp only[Exit.inBlock,Exit.then]
    exact bodyPost_ret (w:=World.setRow w5 (w.heap.size+1+1) (cells ({u with hq:=true,dY:=FM.enc 2 q,hf:=true,fB:=FM.enc 1 f}) (.slice A n c))) (res1 (u:={u with hq:=true,dY:=FM.enc 2 q,hf:=true,fB:=FM.enc 1 f}) (p:=.slice A n c) rfl (bH.out.row ({u with hq:=true,dY:=FM.enc 2 q,hf:=true,fB:=FM.enc 1 f}) _) _ rfl) rfl ⟨by rw[iV.out];first|done|rfl,below_setRow fC.out bP.out _⟩
  |true=>
   have jy:Hid (O=if hf=true then {{u with hq:=true,dY:=FM.enc 3 q}with hf:=true,fB:=FM.enc 1 f}else {u with hq:=true,dY:=FM.enc 3 q}):=by show _=_;rw[HO.out];unfold wS.finish;simp only[hs];first|done|rfl|simp
   rw[hs]at wC
   clear hs
   obtain⟨p0,p1,p2,p3,p4,p5⟩:=dF.out.facts
   have cs0:=wE.out.facts.1
   go_wp2_with fail
   refine(wC.out _).mono ?_
   rintro e wx ⟨rfl,hwx⟩
   obtain rfl:w1=wx:=by first|exact hwx|exact hwx.symm
   clear hwx
   have hcv:=fun(w:World) s=>run_bytes_of_string (P:=Tryz.prog) w 9 45 5 s Tryz.underlying9 Tryz.underlying45 Tryz.underlying5
   go_wp2_with fail
   clear hcv
   refine(FM.eF 3 _ _ _ q _ (fV (strOf q) _ _ _) (dW (by omega))).mono ?_
   rintro e w2 ⟨rfl,hb0⟩
   have hbx:Below w1.heap.size w1 w2:=bel (((Below.refl w1.heap.size w1).alloc (Nat.le_refl _) _).drew) hb0
   clear hb0
   have fZ:=hid (wE.out.below hbx)
   have jE:=hid (dF.out.below hbx)
   have bK:=hid (aW.out.below hbx)
   have eX:=hid (bel bM.out hbx)
   clear wE dF aW bM
   clear hbx
   clear p0 p1 p2 p3 p4 p5
   clear cs0
   have cx9:=fZ.out.facts.2.2.2.2.2.2.2.2.2.1
   have fx9:=fZ.out.thaw.2.2.2.2.2.2.2.2.2.1
   have cx11:=fZ.out.facts.2.2.2.2.2.2.2.2.2.2.2.1
   have fx11:=fZ.out.thaw.2.2.2.2.2.2.2.2.2.2.2.1
   go_upto_region 6 with(fail)
   have hxu:=((fZ.out.hq true).dY (FM.enc 3 q))
   have hxp:=((jE.out.set (k:=w.heap.size) (i:=9) (.bool true) jf.out).set (k:=w.heap.size) (i:=11) (.string (strOf (FM.enc 3 q))) jf.out)
   have hxr:=((bK.out.set (k:=w.heap.size) (i:=9) (.bool true) aX.out).set (k:=w.heap.size) (i:=11) (.string (strOf (FM.enc 3 q))) aX.out)
   have hb:=((eX.out.setCell (p:=⟨w.heap.size,9,none⟩) fK.out (.bool true)).setCell (p:=⟨w.heap.size,11,none⟩) fK.out (.string (strOf (FM.enc 3 q))))
   clear fZ jE bK eX
   clear cx9 fx9 cx11 fx11
   generalize (World.setCell (World.setCell w2 ⟨w.heap.size,9,none⟩ (.bool true)) ⟨w.heap.size,11,none⟩ (.string (strOf (FM.enc 3 q))))=w3 at hxu hxp hxr hb⊢
   have eY:Hid (UB w3 (w.heap.size) ({u with hq:=true,dY:=FM.enc 3 q}) (.slice A n c)):=hxu
   clear hxu
   have mY:Hid (PB w3 ((w.heap.size+1)) (⟨s,r,q,f,true,hf⟩)):=hxp
   clear hxp
   have bD:Hid (UB w3 ((w.heap.size+1+1)) (U0) (.slice none 0 0)):=hxr
   clear hxr
   have cZ:=hid hb
   clear hb
   cases hf with
   |false=>
    have iV:Hid (O={u with hq:=true,dY:=FM.enc 3 q}):=by show _=_;rw[jy.out];first|done|rfl|simp
    obtain⟨p0,p1,p2,p3,p4,p5⟩:=mY.out.facts
    obtain⟨c0,c1,c2',c3,c4,c5,c6,c7,c8,c9,c10,c11,c12⟩:=eY.out.facts
    go_wp2_with (refine aC bD.out ({u with hq:=true,dY:=FM.enc 3 q}) A n c (.tmp 4) (.tmp 26) rfl rfl rfl rfl ?_)
    try simp only[Exit.inBlock,Exit.then]
    exact bodyPost_ret (w:=World.setRow w3 (w.heap.size+1+1) (cells ({u with hq:=true,dY:=FM.enc 3 q}) (.slice A n c))) (res1 (u:={u with hq:=true,dY:=FM.enc 3 q}) (p:=.slice A n c) rfl (bD.out.row ({u with hq:=true,dY:=FM.enc 3 q}) _) _ rfl) rfl ⟨by rw[iV.out];first|done|rfl,below_setRow cZ.out bP.out _⟩
   |true=>
    have iV:Hid (O={u with hq:=true,dY:=FM.enc 3 q,hf:=true,fB:=FM.enc 1 f}):=by show _=_;rw[jy.out];first|done|rfl|simp
    obtain⟨p0,p1,p2,p3,p4,p5⟩:=mY.out.facts
    have hcv:=fun(w:World) s=>run_bytes_of_string (P:=Tryz.prog) w 9 45 5 s Tryz.underlying9 Tryz.underlying45 Tryz.underlying5
    go_wp2_with fail
    clear hcv
    refine(FM.eF 1 _ _ _ f _ (fV (strOf f) _ _ _) (dW (by omega))).mono ?_
    rintro e w4 ⟨rfl,hb0⟩
    have hbx:Below w3.heap.size w3 w4:=bel (((Below.refl w3.heap.size w3).alloc (Nat.le_refl _) _).drew) hb0
    clear hb0
    have bV:=hid (eY.out.below hbx)
    have kT:=hid (mY.out.below hbx)
    have bF:=hid (bD.out.below hbx)
    have dD:=hid (bel cZ.out hbx)
    clear eY mY bD cZ
    clear hbx
    clear p0 p1 p2 p3 p4 p5
    have ak2:=bV.out.facts.2.2.2.2.2.2.2.2.2.2.1
    have alD:=bV.out.thaw.2.2.2.2.2.2.2.2.2.2.1
    have ak3:=bV.out.facts.2.2.2.2.2.2.2.2.2.2.2.2
    have alE:=bV.out.thaw.2.2.2.2.2.2.2.2.2.2.2.2
    go_upto_region 8 with(fail)
    have hxu:=((bV.out.hf true).fB (FM.enc 1 f))
    have hxp:=((kT.out.set (k:=w.heap.size) (i:=10) (.bool true) jf.out).set (k:=w.heap.size) (i:=12) (.string (strOf (FM.enc 1 f))) jf.out)
    have hxr:=((bF.out.set (k:=w.heap.size) (i:=10) (.bool true) aX.out).set (k:=w.heap.size) (i:=12) (.string (strOf (FM.enc 1 f))) aX.out)
    have hb:=((dD.out.setCell (p:=⟨w.heap.size,10,none⟩) fK.out (.bool true)).setCell (p:=⟨w.heap.size,12,none⟩) fK.out (.string (strOf (FM.enc 1 f))))
    clear bV kT bF dD
    clear ak2 alD ak3 alE
    generalize (World.setCell (World.setCell w4 ⟨w.heap.size,10,none⟩ (.bool true)) ⟨w.heap.size,12,none⟩ (.string (strOf (FM.enc 1 f))))=w5 at hxu hxp hxr hb⊢
    have bJ:Hid (UB w5 (w.heap.size) ({u with hq:=true,dY:=FM.enc 3 q,hf:=true,fB:=FM.enc 1 f}) (.slice A n c)):=hxu
    clear hxu
    have mF:Hid (PB w5 ((w.heap.size+1)) (⟨s,r,q,f,true,true⟩)):=hxp
    clear hxp
    have bH:Hid (UB w5 ((w.heap.size+1+1)) (U0) (.slice none 0 0)):=hxr
    clear hxr
    have fC:=hid hb
    clear hb
    obtain⟨c0,c1,c2',c3,c4,c5,c6,c7,c8,c9,c10,c11,c12⟩:=bJ.out.facts
    go_wp2_with (refine aC bH.out ({u with hq:=true,dY:=FM.enc 3 q,hf:=true,fB:=FM.enc 1 f}) A n c (.tmp 4) (.tmp 26) rfl rfl rfl rfl ?_)
    try simp only[Exit.inBlock,Exit.then]
    exact bodyPost_ret (w:=World.setRow w5 (w.heap.size+1+1) (cells ({u with hq:=true,dY:=FM.enc 3 q,hf:=true,fB:=FM.enc 1 f}) (.slice A n c))) (res1 (u:={u with hq:=true,dY:=FM.enc 3 q,hf:=true,fB:=FM.enc 1 f}) (p:=.slice A n c) rfl (bH.out.row ({u with hq:=true,dY:=FM.enc 3 q,hf:=true,fB:=FM.enc 1 f}) _) _ rfl) rfl ⟨by rw[iV.out];first|done|rfl,below_setRow fC.out bP.out _⟩
end Go.Proofs.YtgamccijegollaaGreatDoor.TI
namespace Go.Proofs.YtgamccijegollaaGreatDoor.L6
open Go.RowKit Base Dp wS mW tK
def aeL (o:Option U) (B:Nat):Keep:=⟨fun v w=>∃A n c,v=.tuple #[.agg (cells (o.getD U0) (.slice A n c)),.bool o.isSome]∧w.ownsRow B 9 1 (.slice A n c) n ((o.getD U0).aO.map Value.string),fun _ _ _ hb ⟨A,n,c,h1,h2⟩=>⟨A,n,c,h1,aP h2 hb⟩⟩
def ab3 (o:Option U) (B:Nat):Keep:=⟨fun v w=>∃A n c,v=.agg (cells (o.getD U0) (.slice A n c))∧w.ownsRow B 9 1 (.slice A n c) n ((o.getD U0).aO.map Value.string),fun _ _ _ hb ⟨A,n,c,h1,h2⟩=>⟨A,n,c,h1,aP h2 hb⟩⟩
theorem ql {w w':World} {o:Option U} {e:Ending} (h:mO w o e w'):Below w.heap.size w w'∧∃A n c,e=.returned (.tuple #[.agg (cells (o.getD U0) (.slice A n c)),.bool o.isSome])∧w'.ownsRow w.heap.size 9 1 (.slice A n c) n ((o.getD U0).aO.map Value.string):=by
 obtain⟨hb,u,A,n,c,ok,rfl,hown,h1|h1⟩:=h
 ·obtain⟨rfl,rfl⟩:=h1
  exact⟨hb,A,n,c,rfl,hown⟩
 obtain⟨rfl,rfl,rfl⟩:=h1
 exact⟨hb,A,n,c,rfl,hown⟩
theorem qM {w w':World} {o:Option U} {A:Option Addr} {n c:Nat} (hb:Below w.heap.size w w') (h:w'.ownsRow w.heap.size 9 1 (.slice A n c) n ((o.getD U0).aO.map Value.string)):mO w o (.returned (.tuple #[.agg (cells (o.getD U0) (.slice A n c)),.bool o.isSome])) w':=by
 cases o with
 |none=>exact⟨hb,U0,A,n,c,false,rfl,h,.inr ⟨rfl,rfl,rfl⟩⟩
 |some u=>exact⟨hb,u,A,n,c,true,rfl,h,.inl ⟨rfl,rfl⟩⟩
end Go.Proofs.YtgamccijegollaaGreatDoor.L6
namespace Go.Proofs.YtgamccijegollaaGreatDoor.aj9
open Go.RowKit Base L6 Dp dI cO acv ac2 acD aco wS yw tN Fp mW Pbx tK yx jQ sU pO TI
theorem pre_len {r:List UInt8} (h:Lib.hasPrefix r [47,47]=true):2≤r.length:=by
 unfold Lib.hasPrefix at h
 match r,h with
 |[],h=>cases h
 |[a],h=>simp[List.isPrefixOf]at h
 |a::b::t,_=>simp
theorem anT (E:List UInt8):(Lib.trimSuffix E [32]).length≤E.length:=by
 unfold Lib.trimSuffix
 split
 ·simp
 exact Nat.le_refl _
theorem VL (p:Parts) (w:World) (hs:p.rest.length≤900000) (hL:oI w) (hT:Tab.Pow w) (hM:Max w):Calls Tryz.prog 121 #[.agg (bQ p)] w (mO w (wS.plain p)):=by
 obtain⟨s,r,q,f,hq,hf⟩:=p
 simp only at hs
 obtain⟨O,hO⟩:∃O,O=wS.plain ⟨s,r,q,f,hq,hf⟩:=⟨_,rfl⟩
 rw[←hO]
 obtain⟨a2,ha2⟩:∃x,x=Lib.hasPrefix r [47,47]:=⟨_,rfl⟩
 obtain⟨a1,ha1⟩:∃x,x=Lib.hasPrefix r [47]:=⟨_,rfl⟩
 unfold wS.plain at hO
 simp only at hO
 rw[←ha2,←ha1]at hO
 have h2l:a2=true→2≤r.length:=fun h=>by rw[h]at ha2;exact pre_len ha2.symm
 have H2L:=hid h2l
 have HP2:Hid (∀w:World,Calls Tryz.prog 116 #[.string (strOf r),.string ⟨#[47,47]⟩] w fun e w'=>e=.returned (.bool a2)∧w'=w):=fun w=>by rw[ha2];exact Tryz.strings_HasPrefix (strOf r) ⟨#[47,47]⟩ w
 have yc:Hid (∀w:World,Calls Tryz.prog 116 #[.string (strOf r),.string ⟨#[47]⟩] w fun e w'=>e=.returned (.bool a1)∧w'=w):=fun w=>by rw[ha1];exact Tryz.strings_HasPrefix (strOf r) ⟨#[47]⟩ w
 have HAU:Hid (∀(L:List UInt8) (w:World),L.length≤900000→oI w→Tab.Pow w→Max w→Calls Tryz.prog 118 #[.string (strOf s),.string (strOf L)] w (mO w (authority s L))):=fun L w h a c d=>qP s L w h a c d
 have UC:Hid (∀w:World,Calls Tryz.prog 223 #[.string (strOf s),.string (strOf r)] w (lu w.heap.size w (rooted s r))):=fun w=>AA (strOf s) (strOf r) w (dW (by omega))
 obtain⟨E,hE⟩:∃E,E=FM.enc 0 r:=⟨_,rfl⟩
 have hEl:E.length≤3000000:=by rw[hE];have:=FM.iW 0 r;omega
 have F6:Hid (∀(A:Option Addr) (n c:Nat) (w:World),aY w A n (ah r)→n≤1073741824→Calls Tryz.prog 123 #[.int .i64 0,.slice A n c] w fun e w'=>e=.returned (.string (strOf E))∧Below w.heap.size w w'):=fun A n c w h1 h2=>by rw[hE];exact FM.eF 0 A n c r w h1 h2
 have hop:wS.opq (hq||hf) r=if Lib.hasSuffix E [32]=true∧(hq||hf)=true then Lib.trimSuffix E [32]++[37,50,48]else E:=by rw[hE];rfl
 rw[hop]at hO
 obtain⟨sb,hsb⟩:∃x,x=Lib.hasSuffix E [32]:=⟨_,rfl⟩
 obtain⟨TS,hTS⟩:∃x,x=Lib.trimSuffix E [32]:=⟨_,rfl⟩
 have hTSl:TS.length≤3000000:=by rw[hTS];have:=anT E;omega
 have Y5:Hid (∀w:World,Calls Tryz.prog 171 #[.string (strOf E),.string ⟨#[32]⟩] w fun e w'=>e=.returned (.tuple #[.string (strOf TS),.bool sb])∧w'=w):=fun w=>by rw[hTS,hsb];exact Tryz.strings_CutSuffix (strOf E) ⟨#[32]⟩ w (by rw[o9];omega)
 have HAD:Hid (∀w:World,(Op.stringOp .add (strOf TS) ⟨#[37,50,48]⟩).run Tryz.prog w=.ok (.string (strOf (TS++[37,50,48]))) w):=fun w=>dL (strOf TS) ⟨#[37,50,48]⟩ w (by rw[o9];show _+3≤_;omega)
 rw[←hsb,←hTS]at hO
 have HO:=hid hO
 have HL:=hid hL
 have HT:=hid hT
 have HM:=hid hM
 clear hO ha2 ha1 h2l hop hsb hTS hE hL hT hM
 go_enter Tryz.func121,Tryz.ntmps121
 go_upto_region 1 with(fail)
 generalize hw:World.alloc (World.alloc w _) _=w1
 have h1:PB w1 (w.heap.size) (⟨s,r,q,f,hq,hf⟩)∧UB w1 ((w.heap.size+1)) (U0) (.slice none 0 0)∧Below w.heap.size w w1:=by
  subst hw
  exact laid2 w _ _ _ _
 clear hw
 have J8:Hid (w.heap.size≠(w.heap.size+1)):=by show _≠_;omega
 have J9:Hid ((w.heap.size+1)≠w.heap.size):=by show _≠_;omega
 have WL:Hid (w.heap.size≤w.heap.size):=Nat.le_refl _
 have bP:Hid (w.heap.size≤(w.heap.size+1)):=Nat.le_succ _
 have dF:=hid h1.1
 have aW:=hid h1.2.1
 have bM:=hid h1.2.2
 clear h1
 obtain⟨p0,p1,p2,p3,p4,p5⟩:=dF.out.facts
 go_upto_region 7 with(fail)
 generalize hw:World.alloc w1 _=w2
 have h1:UB w2 (w1.heap.size) ({U0 with au:=s,port:= -1}) (.slice none 0 0)∧Below w1.heap.size w1 w2:=by
  subst hw
  exact laid1 w1 _ _
 clear hw
 have hlp:=dF.out.lt
 have jf:Hid (w.heap.size≠w1.heap.size):=by show _≠_;omega
 have Ko:Hid (w1.heap.size≠w.heap.size):=by show _≠_;omega
 clear hlp
 have hlr:=aW.out.lt
 have aX:Hid ((w.heap.size+1)≠w1.heap.size):=by show _≠_;omega
 have nO:Hid (w1.heap.size≠(w.heap.size+1)):=by show _≠_;omega
 clear hlr
 have fK:Hid (w.heap.size≤w1.heap.size):=bM.out.size
 have jE:=hid (dF.out.below h1.2)
 have bK:=hid (aW.out.below h1.2)
 have eX:=hid (bel bM.out h1.2)
 have fZ:=hid h1.1
 clear dF aW bM
 clear h1
 clear p0 p1 p2 p3 p4 p5
 obtain⟨p0,p1,p2,p3,p4,p5⟩:=jE.out.facts
 go_wp2_with fail
 refine(HP2.out _).mono ?_
 rintro e wx ⟨rfl,hwx⟩
 obtain rfl:w2=wx:=by first|exact hwx|exact hwx.symm
 clear hwx
 cases a2 with
 | true=>
  have hl2:=H2L.out (by simp)
  have iV:Hid (O=authority s (r.drop 2)):=by show _=_;rw[HO.out,if_pos (by simp)]
  obtain⟨T2,hT2⟩:∃x,x=r.drop 2:=⟨_,rfl⟩
  have hx2:(strOf r).extract 2 (strOf r).size=strOf T2:=by rw[l7,hT2];rfl
  have gY:=hid hx2
  have hkI:(2:Int)≤((strOf r).size:Int):=by rw[o9];omega
  rw[←hT2]at iV
  have XL:T2.length≤900000:=by rw[hT2,List.length_drop];omega
  have iy:Hid ((w.heap.size+1)<w2.heap.size):=bK.out.lt
  have HF:=hid jE.out.facts
  obtain⟨OA,hOA⟩:∃x,x=authority s T2:=⟨_,rfl⟩
  have HAU2:Hid (∀w:World,oI w→Tab.Pow w→Max w→Calls Tryz.prog 118 #[.string (strOf s),.string (strOf T2)] w (mO w OA)):=fun w a b c=>by rw[hOA];exact HAU.out T2 w (by omega) a b c
  rw[←hOA]at iV
  clear hT2 hl2 hx2 hOA
  clear p0 p1 p2 p3 p4 p5
  go_upto_region 8 with(fail)
  refine bC (by kernel_rfl) 8 [pg w.heap.size 0,is (.string (strOf s)),pg w.heap.size 1,is (.string (strOf r)),is (.string (strOf T2)),aeL OA w2.heap.size,ab3 OA w2.heap.size,is (.bool OA.isSome)] [[],[0],[],[2],[2,3],[0,1,2,3,4],[0,1,2,3,4,5],[0,1,2,3,4,5],[0,1,2,3,4,5,6,7]] (by kernel_rfl) ?_ ?_
  ·refine⟨?_,?_,?_,?_,?_,?_,?_,?_,trivial⟩
   all_goals(intro t wq hbq hh K hK;simp only[filled,pg,aj,upd,Have,is,any,row,pick,Act.put,List.setIfInBounds_toArray,List.set_cons_zero,List.set_cons_succ,Nat.reduceAdd,Nat.reduceEqDiff,reduceIte,List.tail_cons,List.headD_cons]at hh hK⊢)
   ·clear hh
    go_simp
    exact hK _ _ blr rfl
   ·have e0:=hh.1
    clear hh
    simp only[e0]at hK⊢
    have hc:=HF.out.1
    have hc2:=(hbq.cell (p:=⟨w.heap.size,0,none⟩) (by have:=iy.out;show w.heap.size<_;omega)).trans hc
    go_simp
    exact hK _ _ blr rfl
   ·clear hh
    go_simp
    exact hK _ _ blr rfl
   ·have e2:=hh.1
    clear hh
    simp only[e2]at hK⊢
    have hc:=HF.out.2.1
    have hc2:=(hbq.cell (p:=⟨w.heap.size,1,none⟩) (by have:=iy.out;show w.heap.size<_;omega)).trans hc
    go_simp
    exact hK _ _ blr rfl
   ·have e3:=hh.2.1
    clear hh
    simp only[e3]at hK⊢
    have hx:=gY.out
    go_simp
    exact hK _ _ blr rfl
   ·have e1:=hh.2.1
    have e4:=hh.2.2.2.2.1
    clear hh
    simp only[e1,e4]at hK⊢
    go_simp
    refine(HAU2.out _ (HL.out.below (bel eX.out hbq)) (bY HT.out (bel eX.out hbq)) (HM.out.below (bel eX.out hbq))).mono ?_
    intro e w9 ha
    obtain⟨mG,A9,n9,c9,rfl,Tq⟩:=L6.ql ha
    exact hK _ _ mG ⟨A9,n9,c9,rfl,ay Tq hbq.size⟩
   ·have e5:=hh.2.2.2.2.2.1
    clear hh
    obtain⟨A5,n5,c5,e5,XU⟩:=e5
    simp only[e5]at hK⊢
    go_simp
    exact hK _ _ blr ⟨_,_,_,rfl,XU⟩
   have e5:=hh.2.2.2.2.2.1
   clear hh
   obtain⟨A5,n5,c5,e5,XU⟩:=e5
   simp only[e5]at hK⊢
   go_simp
   exact hK _ _ blr rfl
  intro t wq hbq hh
  have f6:=aB hh 6 (by decide)
  simp only[pick]at f6
  have f7:=aB hh 7 (by decide)
  simp only[pick]at f7
  replace f7:t 7=(.bool OA.isSome):=f7
  clear hh
  simp only[filled,pg,aj,upd,Have,is,any,row,pick,Act.put,List.setIfInBounds_toArray,List.set_cons_zero,List.set_cons_succ,Nat.reduceAdd,Nat.reduceEqDiff,reduceIte]
  obtain⟨A6,n6,c6,f6,YS⟩:=f6
  simp only[f6,f7]
  have yj:=hid (bK.out.below hbq)
  have Et:=hid (bel eX.out hbq)
  have Ak:=hid YS
  clear YS hbq
  refine aC yj.out ((OA).getD U0) A6 n6 c6 (.tmp 2) (.tmp 44) rfl rfl rfl rfl ?_
  go_wp2
  try simp only[Exit.inBlock,Exit.then]
  have ho:=ay (gU.aN (w':=World.setRow wq (w.heap.size+1) (cells ((OA).getD U0) (.slice A6 n6 c6))) (gb:=(w.heap.size+1)) (Ak.out) (fun k hk=>setRow_other _ _ _ _ hk) iy.out) (by have h1:=bP.out;have h2:=iy.out;omega:w.heap.size≤_)
  refine bodyPost_ret (w:=World.setRow wq (w.heap.size+1) (cells ((OA).getD U0) (.slice A6 n6 c6))) (res2 (u:=(OA).getD U0) (p:=.slice A6 n6 c6) rfl (yj.out.row _ _) (OA).isSome _ rfl rfl) rfl ?_
  rw[iV.out]
  exact L6.qM (below_setRow Et.out bP.out _) ho
 | false=>
  have jy:Hid (O=if a1=true then some {U0 with au:=s,port:= -1,aO:=rooted s r}else some {U0 with au:=s,port:= -1,opq:=true,txt:=if sb=true∧(hq||hf)=true then TS++[37,50,48]else E}):=by show _=_;rw[HO.out,if_neg (by simp)]
  clear HO H2L HAU
  go_wp2_with fail
  refine(yc.out _).mono ?_
  rintro e wx ⟨rfl,hwx⟩
  obtain rfl:w2=wx:=by first|exact hwx|exact hwx.symm
  clear hwx
  cases a1 with
  |true=>
   have iV:Hid (O=some {U0 with au:=s,port:= -1,aO:=rooted s r}):=by show _=_;rw[jy.out,if_pos (by simp)]
   go_wp2_with fail
   clear p0 p1 p2 p3 p4 p5
   refine(UC.out _).mono ?_
   rintro e w3 ⟨q1,rfl,hown,hbx⟩
   obtain⟨Aq,cq,rfl,hq1⟩:=bW (u:={U0 with aO:=rooted s r}) hown
   clear hq1
   replace hown:=ay hown (Nat.le_refl _)
   have zF:Hid (w1.heap.size<w2.heap.size):=fZ.out.lt
   have iy:Hid ((w.heap.size+1)<w2.heap.size):=bK.out.lt
   have mY:=hid (jE.out.below hbx)
   have bD:=hid (bK.out.below hbx)
   have eY:=hid (fZ.out.below hbx)
   have cZ:=hid (bel eX.out hbx)
   have HOqw3:=hid hown
   clear hown
   clear jE bK fZ eX
   clear hbx
   have hoq:=gU.aN (w':=w3.setCell ⟨w1.heap.size,8,none⟩ (.slice Aq (rooted s r).length cq)) (gb:=w1.heap.size) HOqw3.out (fun k hk=>heap_setCell_other _ _ _ _ hk) zF.out
   have hoq2:=hid hoq
   clear hoq HOqw3
   have cx:=eY.out.facts.2.2.2.2.2.2.2.2.1
   have fx:=eY.out.thaw.2.2.2.2.2.2.2.2.1
   go_upto_region 11 with(fail)
   have hxp:=mY.out.set (k:=w1.heap.size) (i:=8) (.slice Aq (rooted s r).length cq) jf.out
   have hxr:=bD.out.set (k:=w1.heap.size) (i:=8) (.slice Aq (rooted s r).length cq) aX.out
   have hxu:=eY.out.path (.slice Aq (rooted s r).length cq)
   have hb:=cZ.out.setCell (p:=⟨w1.heap.size,8,none⟩) fK.out (.slice Aq (rooted s r).length cq)
   have hoq:=hoq2.out
   clear mY bD eY cZ
   clear cx fx hoq2
   generalize World.setCell w3 _ _=w4 at hxp hxr hxu hb hoq⊢
   have kT:Hid (PB w4 (w.heap.size) (⟨s,r,q,f,hq,hf⟩)):=hxp
   clear hxp
   have bF:Hid (UB w4 ((w.heap.size+1)) (U0) (.slice none 0 0)):=hxr
   clear hxr
   have bV:Hid (UB w4 (w1.heap.size) ({U0 with au:=s,port:= -1}) (.slice Aq (rooted s r).length cq)):=hxu
   clear hxu
   have dD:=hid hb
   have OQ:=hid hoq
   clear hb hoq
   obtain⟨c0,c1,c2',c3,c4,c5,c6,c7,c8,c9,c10,c11,c12⟩:=bV.out.facts
   go_wp2_with (refine aC bF.out ({U0 with au:=s,port:= -1}) Aq (rooted s r).length cq (.tmp 2) (.tmp 56) rfl rfl rfl rfl ?_)
   try simp only[Exit.inBlock,Exit.then]
   have hpo:∀k,k≠(w.heap.size+1)→(World.setRow w4 ((w.heap.size+1)) (cells ({U0 with au:=s,port:= -1}) (.slice Aq (rooted s r).length cq))).heap[k]?=w4.heap[k]?:=fun k hk=>setRow_other _ _ _ _ hk
   have ho:=ay (gU.aN OQ.out hpo iy.out) (by have h1:=bP.out;have h2:=iy.out;omega:w.heap.size≤_)
   exact bodyPost_ret (w:=World.setRow w4 (w.heap.size+1) (cells ({U0 with au:=s,port:= -1}) (.slice Aq (rooted s r).length cq))) (res2 (u:={U0 with au:=s,port:= -1}) (p:=.slice Aq (rooted s r).length cq) rfl (bF.out.row ({U0 with au:=s,port:= -1}) _) true _ rfl rfl) rfl (eH (u:={U0 with au:=s,port:= -1,aO:=rooted s r}) iV.out (below_setRow dD.out bP.out _) ho)
  | false=>
   have iV:Hid (O=some {U0 with au:=s,port:= -1,opq:=true,txt:=if sb=true∧(hq||hf)=true then TS++[37,50,48]else E}):=by show _=_;rw[jy.out,if_neg (by simp)]
   clear jy
   clear p0 p1 p2 p3 p4 p5
   have cx6:=fZ.out.facts.2.2.2.2.2.2.1
   have fx6:=fZ.out.thaw.2.2.2.2.2.2.1
   go_upto_region 3 with(fail)
   have hxp:=(jE.out.set (k:=w1.heap.size) (i:=6) (.bool true) jf.out)
   have hxr:=(bK.out.set (k:=w1.heap.size) (i:=6) (.bool true) aX.out)
   have hxu:=(fZ.out.opq true)
   have hb:=(eX.out.setCell (p:=⟨w1.heap.size,6,none⟩) fK.out (.bool true))
   clear jE bK fZ eX
   clear cx6 fx6
   generalize (World.setCell w2 ⟨w1.heap.size,6,none⟩ (.bool true))=w3 at hxp hxr hxu hb⊢
   have mY:Hid (PB w3 (w.heap.size) (⟨s,r,q,f,hq,hf⟩)):=hxp
   clear hxp
   have bD:Hid (UB w3 ((w.heap.size+1)) (U0) (.slice none 0 0)):=hxr
   clear hxr
   have eY:Hid (UB w3 (w1.heap.size) ({U0 with au:=s,port:= -1,opq:=true}) (.slice none 0 0)):=hxu
   clear hxu
   have cZ:=hid hb
   clear hb
   obtain⟨p0,p1,p2,p3,p4,p5⟩:=mY.out.facts
   have hcv:=fun(w:World) s=>run_bytes_of_string (P:=Tryz.prog) w 9 45 5 s Tryz.underlying9 Tryz.underlying45 Tryz.underlying5
   go_wp2_with fail
   clear hcv
   refine(F6.out _ _ _ _ (fV (strOf r) _ _ _) (dW (by omega))).mono ?_
   rintro e w4 ⟨rfl,hb0⟩
   have hbx:Below w3.heap.size w3 w4:=bel (((Below.refl w3.heap.size w3).alloc (Nat.le_refl _) _).drew) hb0
   clear hb0
   have kT:=hid (mY.out.below hbx)
   have bF:=hid (bD.out.below hbx)
   have bV:=hid (eY.out.below hbx)
   have dD:=hid (bel cZ.out hbx)
   clear mY bD eY cZ
   clear hbx
   clear p0 p1 p2 p3 p4 p5
   have SH:=bV.out.facts.2.2.2.2.2.2.2.1
   have fx7:=bV.out.thaw.2.2.2.2.2.2.2.1
   go_upto_region 4 with(fail)
   have hxp:=(kT.out.set (k:=w1.heap.size) (i:=7) (.string (strOf E)) jf.out)
   have hxr:=(bF.out.set (k:=w1.heap.size) (i:=7) (.string (strOf E)) aX.out)
   have hxu:=(bV.out.txt E)
   have hb:=(dD.out.setCell (p:=⟨w1.heap.size,7,none⟩) fK.out (.string (strOf E)))
   clear kT bF bV dD
   clear SH fx7
   generalize (World.setCell w4 ⟨w1.heap.size,7,none⟩ (.string (strOf E)))=w5 at hxp hxr hxu hb⊢
   have mF:Hid (PB w5 (w.heap.size) (⟨s,r,q,f,hq,hf⟩)):=hxp
   clear hxp
   have bH:Hid (UB w5 ((w.heap.size+1)) (U0) (.slice none 0 0)):=hxr
   clear hxr
   have bJ:Hid (UB w5 (w1.heap.size) ({U0 with au:=s,port:= -1,opq:=true,txt:=E}) (.slice none 0 0)):=hxu
   clear hxu
   have fC:=hid hb
   clear hb
   have SH:=bJ.out.facts.2.2.2.2.2.2.2.1
   go_wp2_with fail
   refine(Y5.out _).mono ?_
   rintro e wx ⟨rfl,hwx⟩
   obtain rfl:w5=wx:=by first|exact hwx|exact hwx.symm
   clear hwx
   cases sb with
   |false=>
    go_upto_region 11 with(fail)
    clear SH
    have mX:Hid (O=some {U0 with au:=s,port:= -1,opq:=true,txt:=E}):=by show _=_;rw[iV.out];first|done|rfl|simp
    obtain⟨c0,c1,c2',c3,c4,c5,c6,c7,c8,c9,c10,c11,c12⟩:=bJ.out.facts
    go_wp2_with (refine aC bH.out {U0 with au:=s,port:= -1,opq:=true,txt:=E} none 0 0 (.tmp 2) (.tmp 56) rfl rfl rfl rfl ?_)
    try simp only[Exit.inBlock,Exit.then]
    exact bodyPost_ret (w:=World.setRow w5 (w.heap.size+1) (cells {U0 with au:=s,port:= -1,opq:=true,txt:=E} (.slice none 0 0))) (res2 (u:={U0 with au:=s,port:= -1,opq:=true,txt:=E}) (p:=.slice none 0 0) rfl (bH.out.row {U0 with au:=s,port:= -1,opq:=true,txt:=E} _) true _ rfl rfl) rfl (eH (u:={U0 with au:=s,port:= -1,opq:=true,txt:=E}) mX.out (below_setRow fC.out bP.out _) (wY _ _ rfl))
   | true=>
    cases hq with
    |true=>
     obtain⟨p0,p1,p2,p3,p4,p5⟩:=mF.out.facts
     have had:=HAD.out
     clear SH
     have SH:=bJ.out.facts.2.2.2.2.2.2.2.1
     have fx7:=bJ.out.thaw.2.2.2.2.2.2.2.1
     go_upto_region 11 with(fail)
     have hxp:=(mF.out.set (k:=w1.heap.size) (i:=7) (.string (strOf (TS++[37,50,48]))) jf.out)
     have hxr:=(bH.out.set (k:=w1.heap.size) (i:=7) (.string (strOf (TS++[37,50,48]))) aX.out)
     have hxu:=(bJ.out.txt (TS++[37,50,48]))
     have hb:=(fC.out.setCell (p:=⟨w1.heap.size,7,none⟩) fK.out (.string (strOf (TS++[37,50,48]))))
     clear mF bH bJ fC
     clear SH fx7
     generalize (World.setCell w5 ⟨w1.heap.size,7,none⟩ (.string (strOf (TS++[37,50,48]))))=w6 at hxp hxr hxu hb⊢
     have yg:Hid (PB w6 (w.heap.size) (⟨s,r,q,f,true,hf⟩)):=hxp
     clear hxp
     have bT:Hid (UB w6 ((w.heap.size+1)) (U0) (.slice none 0 0)):=hxr
     clear hxr
     have bG:Hid (UB w6 (w1.heap.size) ({U0 with au:=s,port:= -1,opq:=true,txt:=TS++[37,50,48]}) (.slice none 0 0)):=hxu
     clear hxu
     have gq:=hid hb
     clear hb
     clear p0 p1 p2 p3 p4 p5
     clear had
     have mX:Hid (O=some {U0 with au:=s,port:= -1,opq:=true,txt:=TS++[37,50,48]}):=by show _=_;rw[iV.out];first|done|rfl|simp
     obtain⟨c0,c1,c2',c3,c4,c5,c6,c7,c8,c9,c10,c11,c12⟩:=bG.out.facts
     go_wp2_with (refine aC bT.out {U0 with au:=s,port:= -1,opq:=true,txt:=TS++[37,50,48]} none 0 0 (.tmp 2) (.tmp 56) rfl rfl rfl rfl ?_)
     try simp only[Exit.inBlock,Exit.then]
     exact bodyPost_ret (w:=World.setRow w6 (w.heap.size+1) (cells {U0 with au:=s,port:= -1,opq:=true,txt:=TS++[37,50,48]} (.slice none 0 0))) (res2 (u:={U0 with au:=s,port:= -1,opq:=true,txt:=TS++[37,50,48]}) (p:=.slice none 0 0) rfl (bT.out.row {U0 with au:=s,port:= -1,opq:=true,txt:=TS++[37,50,48]} _) true _ rfl rfl) rfl (eH (u:={U0 with au:=s,port:= -1,opq:=true,txt:=TS++[37,50,48]}) mX.out (below_setRow gq.out bP.out _) (wY _ _ rfl))
    |false=>
     cases hf with
     |true=>
      obtain⟨p0,p1,p2,p3,p4,p5⟩:=mF.out.facts
      have had:=HAD.out
      clear SH
      have SH:=bJ.out.facts.2.2.2.2.2.2.2.1
      have fx7:=bJ.out.thaw.2.2.2.2.2.2.2.1
      go_upto_region 11 with(fail)
      have hxp:=(mF.out.set (k:=w1.heap.size) (i:=7) (.string (strOf (TS++[37,50,48]))) jf.out)
      have hxr:=(bH.out.set (k:=w1.heap.size) (i:=7) (.string (strOf (TS++[37,50,48]))) aX.out)
      have hxu:=(bJ.out.txt (TS++[37,50,48]))
      have hb:=(fC.out.setCell (p:=⟨w1.heap.size,7,none⟩) fK.out (.string (strOf (TS++[37,50,48]))))
      clear mF bH bJ fC
      clear SH fx7
      generalize (World.setCell w5 ⟨w1.heap.size,7,none⟩ (.string (strOf (TS++[37,50,48]))))=w6 at hxp hxr hxu hb⊢
      have yg:Hid (PB w6 (w.heap.size) (⟨s,r,q,f,false,true⟩)):=hxp
      clear hxp
      have bT:Hid (UB w6 ((w.heap.size+1)) (U0) (.slice none 0 0)):=hxr
      clear hxr
      have bG:Hid (UB w6 (w1.heap.size) ({U0 with au:=s,port:= -1,opq:=true,txt:=TS++[37,50,48]}) (.slice none 0 0)):=hxu
      clear hxu
      have gq:=hid hb
      clear hb
      clear p0 p1 p2 p3 p4 p5
      clear had
      have mX:Hid (O=some {U0 with au:=s,port:= -1,opq:=true,txt:=TS++[37,50,48]}):=by show _=_;rw[iV.out];first|done|rfl|simp
      obtain⟨c0,c1,c2',c3,c4,c5,c6,c7,c8,c9,c10,c11,c12⟩:=bG.out.facts
      go_wp2_with (refine aC bT.out {U0 with au:=s,port:= -1,opq:=true,txt:=TS++[37,50,48]} none 0 0 (.tmp 2) (.tmp 56) rfl rfl rfl rfl ?_)
      try simp only[Exit.inBlock,Exit.then]
      exact bodyPost_ret (w:=World.setRow w6 (w.heap.size+1) (cells {U0 with au:=s,port:= -1,opq:=true,txt:=TS++[37,50,48]} (.slice none 0 0))) (res2 (u:={U0 with au:=s,port:= -1,opq:=true,txt:=TS++[37,50,48]}) (p:=.slice none 0 0) rfl (bT.out.row {U0 with au:=s,port:= -1,opq:=true,txt:=TS++[37,50,48]} _) true _ rfl rfl) rfl (eH (u:={U0 with au:=s,port:= -1,opq:=true,txt:=TS++[37,50,48]}) mX.out (below_setRow gq.out bP.out _) (wY _ _ rfl))
     |false=>
      obtain⟨p0,p1,p2,p3,p4,p5⟩:=mF.out.facts
      go_upto_region 11 with(fail)
      clear SH
      clear p0 p1 p2 p3 p4 p5
      have mX:Hid (O=some {U0 with au:=s,port:= -1,opq:=true,txt:=E}):=by show _=_;rw[iV.out];first|done|rfl|simp
      obtain⟨c0,c1,c2',c3,c4,c5,c6,c7,c8,c9,c10,c11,c12⟩:=bJ.out.facts
      go_wp2_with (refine aC bH.out {U0 with au:=s,port:= -1,opq:=true,txt:=E} none 0 0 (.tmp 2) (.tmp 56) rfl rfl rfl rfl ?_)
      try simp only[Exit.inBlock,Exit.then]
      exact bodyPost_ret (w:=World.setRow w5 (w.heap.size+1) (cells {U0 with au:=s,port:= -1,opq:=true,txt:=E} (.slice none 0 0))) (res2 (u:={U0 with au:=s,port:= -1,opq:=true,txt:=E}) (p:=.slice none 0 0) rfl (bH.out.row {U0 with au:=s,port:= -1,opq:=true,txt:=E} _) true _ rfl rfl) rfl (eH (u:={U0 with au:=s,port:= -1,opq:=true,txt:=E}) mX.out (below_setRow fC.out bP.out _) (wY _ _ rfl))
end Go.Proofs.YtgamccijegollaaGreatDoor.aj9
namespace Go.Proofs.YtgamccijegollaaGreatDoor.akb
open Go.RowKit Base L6 Dp dI cO acv ac2 acD aco wS yw tN Fp mW Pbx tK yx WS jQ sU pO aj8 PrsF TI aj9
theorem Yq (p:Parts) (w:World) (hs:p.rest.length≤700000) (hL:oI w) (hT:Tab.Pow w) (hM:Max w):Calls Tryz.prog 54 #[.agg (bQ p),.pointer none] w (mO w (wS.resolve p none)):=by
 obtain⟨s,rt,q,f,hq,hf⟩:=p
 simp only at hs
 obtain⟨O,hO⟩:∃O,O=wS.resolve ⟨s,rt,q,f,hq,hf⟩ none:=⟨_,rfl⟩
 rw[←hO]
 unfold wS.resolve at hO
 simp only at hO
 have HO:=hid hO
 have wC:Hid (∀w:World,Calls Tryz.prog 115 #[.string (strOf s)] w fun e w'=>e=.returned (.bool (special s))∧w'=w):=fun w=>jv (strOf s) w
 have vW:Hid (∀w:World,oI w→Tab.Pow w→Max w→Calls Tryz.prog 121 #[.agg (bQ ⟨s,rt,q,f,hq,hf⟩)] w (mO w (wS.plain ⟨s,rt,q,f,hq,hf⟩))):=fun w a c d=>VL ⟨s,rt,q,f,hq,hf⟩ w (by show rt.length≤_;omega) a c d
 have HFN:Hid (∀w:World,oI w→Tab.Pow w→Max w→Calls Tryz.prog 114 #[.string (strOf rt),.pointer none] w (mO w (file rt none))):=fun w a c d=>Ve rt w hs a c d
 have F9:Hid (∀w:World,Calls Tryz.prog 120 #[.string (strOf s)] w fun e w'=>e=.returned (.string (cs (special s)))∧w'=w):=fun w=>jr (strOf s) w
 have HTR:Hid (∀w:World,Calls Tryz.prog 119 #[.string (strOf rt),.string (cs true)] w fun e w'=>e=.returned (.string (strOf (rt.dropWhile (gB true))))∧Below w.heap.size w w'):=fun w=>AX rt w
 obtain⟨T2,hT2⟩:∃x,x=rt.dropWhile (gB true):=⟨_,rfl⟩
 have XL:T2.length≤900000:=by rw[hT2];have:=(List.dropWhile_sublist (gB true) (l:=rt)).length_le;omega
 rw[←hT2]at HTR HO
 obtain⟨OA,hOA⟩:∃x,x=authority s T2:=⟨_,rfl⟩
 have HAU:Hid (∀w:World,oI w→Tab.Pow w→Max w→Calls Tryz.prog 118 #[.string (strOf s),.string (strOf T2)] w (mO w OA)):=fun w a b c=>by rw[hOA];exact qP s T2 w XL a b c
 rw[←hOA]at HO
 have HL:=hid hL
 have HT:=hid hT
 have HM:=hid hM
 clear hO hT2 hOA hL hT hM
 go_enter Tryz.func54,Tryz.ntmps54
 go_upto_region 1 with(fail)
 generalize hw:World.alloc (World.alloc w _) _=w1
 have h1:PB w1 (w.heap.size) (⟨s,rt,q,f,hq,hf⟩)∧UB w1 ((w.heap.size+1)) (U0) (.slice none 0 0)∧Below w.heap.size w w1:=by
  subst hw
  exact laid2 w _ _ _ _
 clear hw
 have WL:Hid (w.heap.size≤w.heap.size):=Nat.le_refl _
 have bP:Hid (w.heap.size≤(w.heap.size+1)):=Nat.le_succ _
 have dF:=hid h1.1
 have aW:=hid h1.2.1
 have bM:=hid h1.2.2
 clear h1
 obtain⟨p0,p1,p2,p3,p4,p5⟩:=dF.out.facts
 by_cases hs1:s=FILE
 ·
  have mX:Hid (O=file rt none):=by show _=_;rw[HO.out,if_pos hs1];first|done|rfl
  have afn:((strOf s).toList==[102,105,108,101])=true:=by rw[aK,hs1];first|done|rfl
  have afo:(strOf s).toList=[102,105,108,101]:=by rw[aK,hs1];first|done|rfl
  clear hs1
  go_wp2_with fail
  refine(HFN.out _ (HL.out.below bM.out) (bY HT.out bM.out) (HM.out.below bM.out)).mono ?_
  rintro e w2 ⟨hbx,u',A',n',c',ok,rfl,hown,yK⟩
  have iy:Hid ((w.heap.size+1)<w1.heap.size):=aW.out.lt
  have HOW:=hid hown
  have F8:=hid yK
  clear hown yK
  have jE:=hid (dF.out.below hbx)
  have bK:=hid (aW.out.below hbx)
  have eX:=hid (bel bM.out hbx)
  have Ib:Hid (w.heap.size≤w1.heap.size):=bM.out.size
  clear dF aW bM
  clear hbx
  go_wp2_with (refine aC bK.out u' A' n' c' (.tmp 4) (.tmp 23) rfl rfl rfl rfl ?_)
  try simp only[Exit.inBlock,Exit.then]
  exact bodyPost_ret (w:=World.setRow w2 (w.heap.size+1) (cells u' (.slice A' n' c'))) (res2 (u:=u') (p:=.slice A' n' c') rfl (bK.out.row u' _) ok _ rfl rfl) rfl ⟨below_setRow eX.out bP.out _,u',A',n',c',ok,rfl,(HOW.out.row iy.out _).base Ib.out,by rw[mX.out];exact F8.out⟩
 ·
  have afn:((strOf s).toList==[102,105,108,101])=false:=by rw[aK,beq_eq_false_iff_ne];exact hs1
  have afo:¬(strOf s).toList=[102,105,108,101]:=by rw[aK];exact hs1
  cases hsp:special s with
  | true=>
   have mX:Hid (O=OA):=by show _=_;rw[HO.out,if_neg hs1,if_pos hsp]
   rw[hsp]at wC F9
   clear hsp hs1
   go_wp2_with fail
   refine(wC.out _).mono ?_
   rintro e wx ⟨rfl,hwx⟩
   obtain rfl:w1=wx:=by first|exact hwx|exact hwx.symm
   clear hwx
   clear p0 p1 p2 p3 p4 p5
   go_upto_region 6 with(fail)
   refine aV (by kernel_rfl) [is (.pointer none),is (.bool false),is (.bool false),is (undef),is (undef),is (undef),is (undef),is (undef),is (undef),is (undef),is (.bool false),is (.bool false),is (undef),is (undef),is (undef),is (undef),is (.bool false)] [[],[0],[1],[2],[2,3],[2,4],[2,5],[2],[2,7],[2,6,8],[2,9],[10],[11],[11,12],[11,13],[11,14],[11,15]] (by kernel_rfl) ?_ ?_
   ·refine ⟨?_,?_,?_,?_,?_,?_,?_,?_,?_,?_,?_,?_,?_,?_,?_,?_,?_,trivial⟩
    all_goals(intro t wq hbq hh K hK;simp only[filled,pg,upd,Have,is,any,row,pick,Act.put,List.setIfInBounds_toArray,List.set_cons_zero,List.set_cons_succ,Nat.reduceAdd,Nat.reduceEqDiff,reduceIte,List.tail_cons,List.headD_cons]at hh hK⊢)
    ·clear hh
     go_simp
     exact hK _ _ blr rfl
    ·have e0:=hh.1
     clear hh
     simp only[e0]at hK⊢
     go_simp
     first|exact hK _ _ blr rfl|exact hK _ _ blr (iC (by omega) (by omega))
    iterate 7
     ·try simp only[hh]at hK⊢
      clear hh
      go_simp
      exact hK _ _ blr rfl
    ·have e2:=hh.1
     have e6:=hh.2.1
     have e8:=hh.2.2.1
     clear hh
     simp only[e2,e6,e8]at hK⊢
     go_simp
     first|exact hK _ _ blr rfl|exact hK _ _ blr (iC (by omega) (by omega))
    iterate 7
     ·try simp only[hh]at hK⊢
      clear hh
      go_simp
      exact hK _ _ blr rfl
   ·intro t wz hbq hh
    have f16:=aB hh 16 (by decide)
    simp only[pick]at f16
    replace f16:t 16=(.bool false):=f16
    clear hh
    simp only[filled,pg,upd,Have,is,any,row,pick,Act.put,List.setIfInBounds_toArray,List.set_cons_zero,List.set_cons_succ,Nat.reduceAdd,Nat.reduceEqDiff,reduceIte]
    simp only[f16]
    have yh:=hid (dF.out.below hbq)
    have CP:=hid (aW.out.below hbq)
    have x9:=hid (bel bM.out hbq)
    clear dF aW bM
    clear hbq
    have iy:Hid ((w.heap.size+1)<wz.heap.size):=CP.out.lt
    go_upto_region 8 with(fail)
    refine bC (by kernel_rfl) 11 [pg w.heap.size 0,is (.string (strOf s)),pg w.heap.size 1,is (.string (strOf rt)),pg w.heap.size 0,is (.string (strOf s)),is (.string (cs true)),is (.string (strOf T2)),aeL OA wz.heap.size,ab3 OA wz.heap.size,is (.bool OA.isSome)] [[],[0],[],[2],[],[4],[4,5],[2,3,4,5,6],[0,1,2,3,4,5,6,7],[0,1,2,3,4,5,6,7,8],[0,1,2,3,4,5,6,7,8],[0,1,2,3,4,5,6,7,8,9,10]] (by kernel_rfl) ?_ ?_
    ·refine⟨?_,?_,?_,?_,?_,?_,?_,?_,?_,?_,?_,trivial⟩
     all_goals(intro t wq hbq hh K hK;simp only[filled,pg,aj,upd,Have,is,any,row,pick,Act.put,List.setIfInBounds_toArray,List.set_cons_zero,List.set_cons_succ,Nat.reduceAdd,Nat.reduceEqDiff,reduceIte,List.tail_cons,List.headD_cons]at hh hK⊢)
     ·clear hh
      go_simp
      exact hK _ _ blr rfl
     ·have e0:=hh.1
      clear hh
      simp only[e0]at hK⊢
      have hc:=(yh.out.below hbq).facts.1
      go_simp
      exact hK _ _ blr rfl
     ·clear hh
      go_simp
      exact hK _ _ blr rfl
     ·have e2:=hh.1
      clear hh
      simp only[e2]at hK⊢
      have hc:=(yh.out.below hbq).facts.2.1
      go_simp
      exact hK _ _ blr rfl
     ·clear hh
      go_simp
      exact hK _ _ blr rfl
     ·have e4:=hh.1
      clear hh
      simp only[e4]at hK⊢
      have hc:=(yh.out.below hbq).facts.1
      go_simp
      exact hK _ _ blr rfl
     ·have e5:=hh.2.1
      clear hh
      simp only[e5]at hK⊢
      go_simp
      refine(F9.out _).mono ?_
      rintro e w9 ⟨rfl,hw9⟩
      subst hw9
      exact hK _ _ blr rfl
     ·have e3:=hh.2.1
      have e6:=hh.2.2.2.2.1
      clear hh
      simp only[e3,e6]at hK⊢
      go_simp
      refine(HTR.out _).mono ?_
      rintro e w9 ⟨rfl,mG⟩
      exact hK _ _ mG rfl
     ·have e1:=hh.2.1
      have e7:=hh.2.2.2.2.2.2.2.1
      clear hh
      simp only[e1,e7]at hK⊢
      go_simp
      refine(HAU.out _ (HL.out.below (bel x9.out hbq)) (bY HT.out (bel x9.out hbq)) (HM.out.below (bel x9.out hbq))).mono ?_
      intro e w9 ha
      obtain⟨mG,A9,n9,c9,rfl,Tq⟩:=L6.ql ha
      exact hK _ _ mG ⟨A9,n9,c9,rfl,ay Tq hbq.size⟩
     ·have e8:=hh.2.2.2.2.2.2.2.2.1
      clear hh
      obtain⟨A8,n8,c8,e8,ho8⟩:=e8
      simp only[e8]at hK⊢
      go_simp
      exact hK _ _ blr ⟨_,_,_,rfl,ho8⟩
     ·have e8:=hh.2.2.2.2.2.2.2.2.1
      clear hh
      obtain⟨A8,n8,c8,e8,ho8⟩:=e8
      simp only[e8]at hK⊢
      go_simp
      exact hK _ _ blr rfl
    ·intro t wq hbq hh
     have f9:=aB hh 9 (by decide)
     simp only[pick]at f9
     have f10:=aB hh 10 (by decide)
     simp only[pick]at f10
     replace f10:t 10=(.bool OA.isSome):=f10
     clear hh
     simp only[filled,pg,aj,upd,Have,is,any,row,pick,Act.put,List.setIfInBounds_toArray,List.set_cons_zero,List.set_cons_succ,Nat.reduceAdd,Nat.reduceEqDiff,reduceIte]
     obtain⟨A9,n9,c9,f9,Tq⟩:=f9
     simp only[f9,f10]
     have yj:=hid (CP.out.below hbq)
     have Et:=hid (bel x9.out hbq)
     have Ak:=hid Tq
     clear Tq hbq
     refine aC yj.out ((OA).getD U0) A9 n9 c9 (.tmp 4) (.tmp 63) rfl rfl rfl rfl ?_
     go_wp2
     try simp only[Exit.inBlock,Exit.then]
     have ho:=ay (gU.aN (w':=World.setRow wq (w.heap.size+1) (cells ((OA).getD U0) (.slice A9 n9 c9))) (gb:=(w.heap.size+1)) (Ak.out) (fun k hk=>setRow_other _ _ _ _ hk) iy.out) (by have h1:=bP.out;have h2:=iy.out;omega:w.heap.size≤_)
     refine bodyPost_ret (w:=World.setRow wq (w.heap.size+1) (cells ((OA).getD U0) (.slice A9 n9 c9))) (res2 (u:=(OA).getD U0) (p:=.slice A9 n9 c9) rfl (yj.out.row _ _) (OA).isSome _ rfl rfl) rfl ?_
     rw[mX.out]
     exact L6.qM (below_setRow Et.out bP.out _) ho
  |false=>
   rw[hsp]at wC
   go_wp2_with fail
   refine(wC.out _).mono ?_
   rintro e wx ⟨rfl,hwx⟩
   obtain rfl:w1=wx:=by first|exact hwx|exact hwx.symm
   clear hwx
   by_cases h0:s=[]
   ·
    have qc:Hid (O=none):=by show _=_;rw[HO.out,if_neg hs1,if_neg (by rw[hsp];simp),if_neg (by simp[h0])]
    have Z9:((strOf s).toList==[])=true:=by rw[aK,h0];first|done|rfl
    have aac:(strOf s).toList=[]:=by rw[aK,h0];first|done|rfl
    clear h0 hsp hs1
    go_wp2_with (refine aC aW.out U0 none 0 0 (.tmp 4) (.tmp 76) rfl rfl rfl rfl ?_)
    try simp only[Exit.inBlock,Exit.then]
    exact bodyPost_ret (w:=World.setRow w1 (w.heap.size+1) (cells U0 (.slice none 0 0))) (res2 (u:=U0) (p:=.slice none 0 0) rfl (aW.out.row U0 _) false _ rfl rfl) rfl (kH qc.out (below_setRow bM.out bP.out _))
   ·
    have mX:Hid (O=wS.plain ⟨s,rt,q,f,hq,hf⟩):=by show _=_;rw[HO.out,if_neg hs1,if_neg (by rw[hsp];simp),if_pos h0]
    have Z9:((strOf s).toList==[])=false:=by rw[aK,beq_eq_false_iff_ne];exact h0
    have aac:¬(strOf s).toList=[]:=by rw[aK];exact h0
    have e2:(strOf s).toList.isEmpty=false:=by rw[aK];simpa using h0
    clear h0 hsp hs1
    go_wp2_with fail
    refine(vW.out _ (HL.out.below bM.out) (bY HT.out bM.out) (HM.out.below bM.out)).mono ?_
    rintro e w2 ⟨hbx,u',A',n',c',ok,rfl,hown,yK⟩
    have iy:Hid ((w.heap.size+1)<w1.heap.size):=aW.out.lt
    have HOW:=hid hown
    have F8:=hid yK
    clear hown yK
    have jE:=hid (dF.out.below hbx)
    have bK:=hid (aW.out.below hbx)
    have eX:=hid (bel bM.out hbx)
    have Ib:Hid (w.heap.size≤w1.heap.size):=bM.out.size
    clear dF aW bM
    clear hbx
    go_wp2_with (refine aC bK.out u' A' n' c' (.tmp 4) (.tmp 71) rfl rfl rfl rfl ?_)
    try simp only[Exit.inBlock,Exit.then]
    exact bodyPost_ret (w:=World.setRow w2 (w.heap.size+1) (cells u' (.slice A' n' c'))) (res2 (u:=u') (p:=.slice A' n' c') rfl (bK.out.row u' _) ok _ rfl rfl) rfl ⟨below_setRow eX.out bP.out _,u',A',n',c',ok,rfl,(HOW.out.row iy.out _).base Ib.out,by rw[mX.out];exact F8.out⟩
end Go.Proofs.YtgamccijegollaaGreatDoor.akb
namespace Go.Proofs.YtgamccijegollaaGreatDoor.acU
open Go.RowKit Base qh BI
def Cc (r:Int):Prop:=0≤r∧r≤1114111∧¬(55296≤r∧r≤57343)
instance (r:Int):Decidable (Cc r):=by unfold Cc;exact inferInstance
def u (x:Int):UInt8:=x.toNat.toUInt8
theorem jw (x:Int) (h0:0≤x) (h1:x≤255):((u x).toNat:Int)=x:=by
 unfold u
 simp
 omega
theorem enc1 (r:Int) (h0:0≤r) (h1:r≤127):Lib.encodeRune r=[u r]:=by unfold Lib.encodeRune;rw[Lib.encodeRuneZ_one h0 h1];rfl
theorem enc2 (r:Int) (h0:128≤r) (h1:r≤2047):Lib.encodeRune r=[u (192+r / 64),u (128+r%64)]:=by unfold Lib.encodeRune;rw[Lib.encodeRuneZ_two h0 h1];rfl
theorem enc3 (r:Int) (h:(2048≤r∧r<55296)∨(57343<r∧r≤65535)):Lib.encodeRune r=[u (224+r / 4096),u (128+r / 64%64),u (128+r%64)]:=by unfold Lib.encodeRune;rw[Lib.encodeRuneZ_three h];rfl
theorem enc4 (r:Int) (h0:65536≤r) (h1:r≤1114111):Lib.encodeRune r=[u (240+r / 262144),u (128+r / 4096%64),u (128+r / 64%64),u (128+r%64)]:=by unfold Lib.encodeRune;rw[Lib.encodeRuneZ_four h0 h1];rfl
theorem u_of (c:UInt8):u (c.toNat:Int)=c:=by unfold u;simp
theorem Ur (x:Int) (c:UInt8) (h:x=(c.toNat:Int)):u x=c:=by rw[h,u_of]
theorem sF (x:UInt8) (t:List UInt8):
  ((rd (x::t)).2.2=true→Cc (rd (x::t)).1∧Lib.encodeRune (rd (x::t)).1=(x::t).take (rd (x::t)).2.1.toNat)∧((rd (x::t)).2.2=false→(rd (x::t)).1=65533):=by
 have hx:(x.toNat:Int)<256:=by have:=x.toNat_lt;omega
 simp only[rd]
 by_cases a:(x.toNat:Int)≤127
 ·rw[if_pos a]
  refine⟨fun _=>⟨by unfold Cc;simp only;omega,?_⟩,fun h=>by cases h⟩
  simp only
  rw[enc1 _ (by omega) a,u_of]
  rfl
 rw[if_neg a]
 by_cases b:(x.toNat:Int)≤193∨245≤(x.toNat:Int)
 ·rw[if_pos b]
  exact⟨(fun h=>by cases h),fun _=>rfl⟩
 rw[if_neg b]
 by_cases c2:(x.toNat:Int)≤223
 ·rw [if_pos c2]
  have el:lo x.toNat=128:=by unfold lo;(repeat' split)<;>omega
  have eh:hi x.toNat=191:=by unfold hi;(repeat' split)<;>omega
  match t with
  |[]=>simp[tail]
  |y::t=>
   have hy:(y.toNat:Int)<256:=by have:=y.toNat_lt;omega
   rw[tail,el,eh]
   by_cases d:(y.toNat:Int)<128∨191<(y.toNat:Int)
   ·rw[if_pos d];exact⟨(fun h=>by cases h),fun _=>rfl⟩
   ·rw[if_neg d,tail]
    refine⟨fun _=>⟨by unfold Cc;simp only;omega,?_⟩,fun h=>by cases h⟩
    simp only
    rw[enc2 _ (by omega) (by omega),Ur _ x (by omega),Ur _ y (by omega)]
    rfl
 rw[if_neg c2]
 by_cases c3:(x.toNat:Int)≤239
 ·rw [if_pos c3]
  match t with
  |[]=>simp[tail]
  | y ::t=>
   have hy:(y.toNat:Int)<256:=by have:=y.toNat_lt;omega
   rw[tail]
   by_cases d:(y.toNat:Int)<lo x.toNat∨hi x.toNat<(y.toNat:Int)
   ·rw[if_pos d];exact⟨(fun h=>by cases h),fun _=>rfl⟩
   ·rw [if_neg d]
    have hd:128≤(y.toNat:Int)∧(y.toNat:Int)≤191∧((x.toNat:Int)=224→160≤(y.toNat:Int))∧((x.toNat:Int)=237→(y.toNat:Int)≤159):=by
     unfold lo hi at d
     (repeat' split at d)<;>omega
    match t with
    |[]=>simp[tail]
    |z::t=>
     have hz:(z.toNat:Int)<256:=by have:=z.toNat_lt;omega
     rw[tail]
     by_cases f:(z.toNat:Int)<128∨191<(z.toNat:Int)
     ·rw[if_pos f];exact⟨(fun h=>by cases h),fun _=>rfl⟩
     ·rw[if_neg f,tail]
      refine⟨fun _=>⟨by unfold Cc;simp only;omega,?_⟩,fun h=>by cases h⟩
      simp only
      rw[enc3 _ (by omega),Ur _ x (by omega),Ur _ y (by omega),Ur _ z (by omega)]
      rfl
 ·rw [if_neg c3]
  match t with
  |[]=>simp[tail]
  | y :: t =>
   have hy:(y.toNat:Int)<256:=by have:=y.toNat_lt;omega
   rw[tail]
   by_cases d:(y.toNat:Int)<lo x.toNat∨hi x.toNat<(y.toNat:Int)
   ·rw[if_pos d];exact⟨(fun h=>by cases h),fun _=>rfl⟩
   ·rw [if_neg d]
    have hd:128≤(y.toNat:Int)∧(y.toNat:Int)≤191∧((x.toNat:Int)=240→144≤(y.toNat:Int))∧((x.toNat:Int)=244→(y.toNat:Int)≤143):=by
     unfold lo hi at d
     (repeat' split at d)<;>omega
    match t with
    |[]=>simp[tail]
    | z ::t=>
     have hz:(z.toNat:Int)<256:=by have:=z.toNat_lt;omega
     rw[tail]
     by_cases f:(z.toNat:Int)<128∨191<(z.toNat:Int)
     ·rw[if_pos f];exact⟨(fun h=>by cases h),fun _=>rfl⟩
     ·rw [if_neg f]
      match t with
      |[]=>simp[tail]
      |v::t=>
       have hv:(v.toNat:Int)<256:=by have:=v.toNat_lt;omega
       rw[tail]
       by_cases g:(v.toNat:Int)<128∨191<(v.toNat:Int)
       ·rw[if_pos g];exact⟨(fun h=>by cases h),fun _=>rfl⟩
       ·rw[if_neg g,tail]
        refine⟨fun _=>⟨by unfold Cc;simp only;omega,?_⟩,fun h=>by cases h⟩
        simp only
        rw[enc4 _ (by omega) (by omega),Ur _ x (by omega),Ur _ y (by omega),Ur _ z (by omega),Ur _ v (by omega)]
        rfl
theorem adp (r:Int) (t:List UInt8):Lib.encodeRune r++t≠[]:=by
 intro h
 have:=Jy r
 have e:=congrArg List.length h
 simp at e
 rw[e.1]at this
 simp at this
theorem fA (r:Int) (l:List Int):enc (r::l)=Lib.encodeRune r++enc l:=by simp[enc]
theorem ae9:Cc 65533:=by decide
theorem afa:∀(n:Nat) (L:List UInt8),L.length≤n→∀r ∈ dec L,Cc r
 |_,[],_,r,h=>by simp[lT]at h
 |0,_::_,h,_,_=>by simp at h
 |n+1,x::t,hl,r,h=>by
  have hs:=nJ x t
  rw[iK,List.mem_cons]at h
  rcases h with rfl|h
  ·cases hw:(rd (x::t)).2.2
   ·rw[(sF x t).2 hw];exact ae9
   ·exact((sF x t).1 hw).1
  ·exact afa n _ (by simp only[List.length_drop,List.length_cons]at hl⊢;omega) r h
theorem zU (L:List UInt8):∀r ∈ dec L,Cc r:=afa _ L (Nat.le_refl _)
end Go.Proofs.YtgamccijegollaaGreatDoor.acU
