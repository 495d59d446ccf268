/- Texts that belong together: agJ, aji, aoa, Shs, rD. -/
import Derived.Test.YtgamccijegollaaGreatDoorFNAAQ
import Derived.Test.YtgamccijegollaaGreatDoorFNAAJ
import Derived.Test.YtgamccijegollaaGreatDoorFNAAC
import Derived.Handed
import Derived.HandedShaped
import Derived.Shelf.Vars
import Derived.Test.YtgamccijegollaaGreatDoorFNAAP
import Derived.Lib.LaidU8
set_option linter.unusedSimpArgs false
set_option linter.unusedVariables false
set_option maxRecDepth 100000
set_option maxHeartbeats 64000000
namespace Go.Proofs.YtgamccijegollaaGreatDoor.agJ
open Go.RowKit Base Dp cO wS mW wo UG rC qg oG JY Ce YX J7 OY jQ pO vZ acs ND
open Go.Proofs.YtgamccijegollaaGreatDoor.aZ (adw)
theorem anK (a b:List UInt8):((strOf a).toList==(strOf b).toList)=decide (a=b):=by
 unfold strOf
 rw[ByteArray.toList_mk,ByteArray.toList_mk,Bool.eq_iff_iff]
 simp
theorem EF (A:Option Addr) (n c:Nat) (L:List UInt8) (A2:Option Addr) (n2 c2:Nat) (M:List UInt8) (w:World) (h:aY w A n (ah L)) (h2:aY w A2 n2 (ah M)):Calls Tryz.prog 188 #[.slice A n c,.slice A2 n2 c2] w fun e w'=>e=.returned (.bool (decide (L=M)))∧w=w':=by
 have hs:=aF (P:=Tryz.prog) 45 9 5 Tryz.underlying45 Tryz.underlying5 Tryz.underlying9 _ c h
 have hs2:=aF (P:=Tryz.prog) 45 9 5 Tryz.underlying45 Tryz.underlying5 Tryz.underlying9 _ c2 h2
 have hq:((strOf L).toList==(strOf M).toList)=decide (L=M):=anK L M
 go_enter Tryz.func188,Tryz.ntmps188
 go_wp2
 go_ret
 first|exact⟨rfl,rfl⟩|exact⟨ak hq,rfl⟩
def same2 (M N:MT):Bool:=Jz (strOf M.ty) (strOf M.sub) (nY M.ps) (strOf N.ty) (strOf N.sub) (nY N.ps)
def Eb (s:List UInt8) (M:MT) (B:List UInt8):Bool:=match wS.url s none with
 |none=>false
 |some u=>decide (aai u=0)&&(same2 (Ig u).1 M&&decide ((Ig u).2=B))
theorem ant (s:ByteArray) (M:MT) (A:Option Addr) (c:Nat) (A2:Option Addr) (n2 c2:Nat) (B:List UInt8) (w:World) (hs0:s.size≤49000) (hM:Mp w M A c) (hB:aY w A2 n2 (ah B)) (E:Env w):
  Calls Tryz.prog 88 #[.string s,.agg #[.string (strOf M.ty),.string (strOf M.sub),.slice A M.ps.length c],.slice A2 n2 c2] w fun e w'=>e=.returned (.bool (Eb s.data.toList M B))∧Below w.heap.size w w':=by
 have hs:s.size≤65536:=by omega
 have HE:=hid E
 have HMP:=hid hM
 have HRB:=hid hB
 obtain⟨b,hb0⟩:∃b,b=Eb s.data.toList M B:=⟨_,rfl⟩
 rw[←hb0]
 cases e1:wS.url s.data.toList none with
 |none=>
  have HV:Hid (b=false):=by show _=_;rw[hb0];unfold Eb;rw[e1]
  obtain⟨u,hu0⟩:∃u0,u0=U0:=⟨_,rfl⟩
  have HU0:=hid hu0
  have yc:Hid (∀w,Env w→Calls Tryz.prog 16 #[.string s,.pointer none] w fun e w'=>∃A' n' c',e=.returned (.tuple #[.agg #[.string (strOf u.au),.string (strOf u.usr),.string (strOf u.MX),.string (strOf u.hst),.bool u.hh,.int .i64 u.port,.bool u.opq,.string (strOf u.txt),.slice A' n' c',.bool u.hq,.bool u.hf,.string (strOf u.dY),.string (strOf u.fB)],.int .i64 2])∧Pt w' u A' n' c'∧Below w.heap.size w w'):=fun w E=>GZ HU0.out e1 hs w E
  clear e1 hu0 hs hs0 hM hB E hb0
  go_enter Tryz.func88,Tryz.ntmps88
  go_upto_region 1 with(fail)
  generalize bI:World.alloc _ _=v1
  have hxa:B3 44 v1 (w.heap.size) (.string (strOf M.ty)) (.string (strOf M.sub)) (.slice A M.ps.length c):=by rw[←bI];exact heap_alloc_new _ _
  have hb:Below w.heap.size w v1:=by rw[←bI];exact(Below.refl _ _).alloc (Nat.le_refl _) _
  have XM:=hid hxa
  clear bI hxa
  have HB1:=hid hb
  have sO:=hid (HE.out.below hb)
  have TG:=hid (HMP.out.below hb)
  have ake:=hid (HRB.out.below hb)
  clear hb
  go_wp2_with fail
  refine(yc.out _ sO.out).mono ?_
  rintro e w2 ⟨A1,n1,c1,rfl,hpt,hb⟩
  have HB2:=hid (bel HB1.out hb)
  have xY:=hid (sO.out.below hb)
  have Nz:=hid (TG.out.below hb)
  have agW:=hid (ake.out.below hb)
  have NK:=hid (XM.out.below hb)
  clear hb
  have T1:=hid (hpt)
  clear hpt
  go_upto_region 2 with(fail)
  generalize bI:World.alloc _ _=v3
  have hxa:UB v3 (w2.heap.size) u (.slice A1 n1 c1):=by rw[←bI];exact heap_alloc_new _ _
  have hb:Below w2.heap.size w2 v3:=by rw[←bI];exact(Below.refl _ _).alloc (Nat.le_refl _) _
  have X1:=hid hxa
  clear bI hxa
  have HB3:=hid (bel HB2.out hb)
  have vV:=hid (xY.out.below hb)
  have Gi:=hid (Nz.out.below hb)
  have akf:=hid (agW.out.below hb)
  have Gq:=hid (NK.out.below hb)
  have zJ:=hid (T1.out.below hb)
  clear hb
  go_wp2
  go_ret
  exact⟨ak (by rw[HV.out]),HB3.out⟩
 | some u=>
  have yc:Hid (∀w,Env w→Calls Tryz.prog 16 #[.string s,.pointer none] w fun e w'=>∃A' n' c',e=.returned (.tuple #[.agg #[.string (strOf u.au),.string (strOf u.usr),.string (strOf u.MX),.string (strOf u.hst),.bool u.hh,.int .i64 u.port,.bool u.opq,.string (strOf u.txt),.slice A' n' c',.bool u.hq,.bool u.hf,.string (strOf u.dY),.string (strOf u.fB)],.int .i64 0])∧Pt w' u A' n' c'∧Below w.heap.size w w'):=fun w E=>jB e1 hs w E
  have hfit:=oN.AZ (M:=0) e1 (fun _ e=>by cases e)
  have WC:Hid (∀(w:World) (A:Option Addr) (n c:Nat),Pt w u A n c→Sh u n c∧Rs w A n u.aO):=fun w A n c h=>⟨agl hfit (by rw[Ce.dl];omega) h,⟨h.aO.1⟩⟩
  obtain⟨N,C,hNC⟩:∃N C,Ig u=(N,C):=⟨_,_,rfl⟩
  obtain⟨er,her⟩:∃x,x=aai u:=⟨_,rfl⟩
  have HPC:Hid (∀(A:Option Addr) (n c:Nat),Sh u n c→∀w:World,Rs w A n u.aO→Env w→Calls Tryz.prog 27 #[.agg #[.string (strOf u.au),.string (strOf u.usr),.string (strOf u.MX),.string (strOf u.hst),.bool u.hh,.int .i64 u.port,.bool u.opq,.string (strOf u.txt),.slice A n c,.bool u.hq,.bool u.hf,.string (strOf u.dY),.string (strOf u.fB)]] w fun e w'=>(∃A1 c1 A2 c2,e=.returned (.tuple #[.agg #[.string (strOf N.ty),.string (strOf N.sub),.slice A1 N.ps.length c1],.slice A2 C.length c2,.int .i64 er])∧Mp w' N A1 c1∧Bp w' C A2 c2)∧Below w.heap.size w w'):=fun A n c hS w hR E=>by
   have k:=EW hS w hR E
   rw[hNC,←her]at k
   exact k
  obtain⟨b1,hb1⟩:∃b,b=same2 N M:=⟨_,rfl⟩
  obtain⟨b2,hb2⟩:∃b,b=decide (C=B):=⟨_,rfl⟩
  have JO:Hid (∀(A3:Option Addr) (c3:Nat) (w:World),Mp w N A3 c3→Mp w M A c→Calls Tryz.prog 35 #[.agg #[.string (strOf N.ty),.string (strOf N.sub),.slice A3 N.ps.length c3],.agg #[.string (strOf M.ty),.string (strOf M.sub),.slice A M.ps.length c]] w fun e w'=>e=.returned (.bool b1)∧Below w.heap.size w w'):=fun A3 c3 w h k=>by
   rw[hb1]
   exact J7.JA (strOf N.ty) (strOf N.sub) A3 N.ps.length c3 (nY N.ps) (strOf M.ty) (strOf M.sub) A M.ps.length c (nY M.ps) w h.prm k.prm h.nc h.cm k.nc k.cm
  have Tz:Hid (∀(A3:Option Addr) (c3:Nat) (w:World),Bp w C A3 c3→aY w A2 n2 (ah B)→Calls Tryz.prog 188 #[.slice A3 C.length c3,.slice A2 n2 c2] w fun e w'=>e=.returned (.bool b2)∧w=w'):=fun A3 c3 w h k=>by
   rw[hb2]
   exact EF A3 C.length c3 C A2 n2 c2 B w h.zB k
  have HV:Hid (b=(decide (er=0)&&(b1&&b2))):=by show _=_;rw[hb0];unfold Eb;rw[e1];simp only;rw[hNC,←her,hb1,hb2]
  have hfit2:=hfit
  clear e1 hs hs0 hM hB E hb0 hfit hfit2 hNC her hb1 hb2
  go_enter Tryz.func88,Tryz.ntmps88
  go_upto_region 1 with(fail)
  generalize bI:World.alloc _ _=v1
  have hxa:B3 44 v1 (w.heap.size) (.string (strOf M.ty)) (.string (strOf M.sub)) (.slice A M.ps.length c):=by rw[←bI];exact heap_alloc_new _ _
  have hb:Below w.heap.size w v1:=by rw[←bI];exact(Below.refl _ _).alloc (Nat.le_refl _) _
  have XM:=hid hxa
  clear bI hxa
  have HB1:=hid hb
  have sO:=hid (HE.out.below hb)
  have TG:=hid (HMP.out.below hb)
  have ake:=hid (HRB.out.below hb)
  clear hb
  go_wp2_with fail
  refine(yc.out _ sO.out).mono ?_
  rintro e w2 ⟨A1,n1,c1,rfl,hpt,hb⟩
  have HB2:=hid (bel HB1.out hb)
  have xY:=hid (sO.out.below hb)
  have Nz:=hid (TG.out.below hb)
  have agW:=hid (ake.out.below hb)
  have NK:=hid (XM.out.below hb)
  clear hb
  have T1:=hid (hpt)
  clear hpt
  go_upto_region 2 with(fail)
  generalize bI:World.alloc _ _=v3
  have hxa:UB v3 (w2.heap.size) u (.slice A1 n1 c1):=by rw[←bI];exact heap_alloc_new _ _
  have hb:Below w2.heap.size w2 v3:=by rw[←bI];exact(Below.refl _ _).alloc (Nat.le_refl _) _
  have X1:=hid hxa
  clear bI hxa
  have HB3:=hid (bel HB2.out hb)
  have vV:=hid (xY.out.below hb)
  have Gi:=hid (Nz.out.below hb)
  have akf:=hid (agW.out.below hb)
  have Gq:=hid (NK.out.below hb)
  have zJ:=hid (T1.out.below hb)
  clear hb
  obtain⟨hS,hR⟩:=WC.out _ _ _ _ zJ.out
  have HSa:=hid hS
  have HRa:=hid hR
  clear hS hR
  obtain⟨k0,k1,k2,k3,k4,k5,k6,k7,k8,k9,k10,k11,k12⟩:=X1.out.facts
  go_wp2_with fail
  clear k0 k1 k2 k3 k4 k5 k6 k7 k8 k9 k10 k11 k12
  refine(HPC.out _ _ _ HSa.out _ HRa.out vV.out).mono ?_
  rintro e w4 ⟨⟨A3,c3,A4,c4,rfl,hmp,hbp⟩,hb⟩
  have HB4:=hid (bel HB3.out hb)
  have Hw:=hid (vV.out.below hb)
  have NC:=hid (Gi.out.below hb)
  have RB_4:=hid (akf.out.below hb)
  have NM:=hid (Gq.out.below hb)
  have O7:=hid (zJ.out.below hb)
  have Pj:=hid (X1.out.below hb)
  clear hb
  clear HSa HRa
  have M3:=hid (hmp)
  have B4:=hid (hbp)
  clear hmp hbp
  go_upto_region 5 with(fail)
  generalize bI:World.alloc _ _=v5
  have hxa:B3 44 v5 (w4.heap.size) (.string (strOf N.ty)) (.string (strOf N.sub)) (.slice A3 N.ps.length c3):=by rw[←bI];exact heap_alloc_new _ _
  have hb:Below w4.heap.size w4 v5:=by rw[←bI];exact(Below.refl _ _).alloc (Nat.le_refl _) _
  have Y3:=hid hxa
  clear bI hxa
  have iG:=hid (bel HB4.out hb)
  have Uu:=hid (Hw.out.below hb)
  have Zt:=hid (NC.out.below hb)
  have RB_5:=hid (RB_4.out.below hb)
  have ZC:=hid (NM.out.below hb)
  have O8:=hid (O7.out.below hb)
  have Pm:=hid (Pj.out.below hb)
  have afB:=hid (M3.out.below hb)
  have afC:=hid (B4.out.below hb)
  clear hb
  by_cases he:er=0
  ·
   subst he
   obtain⟨m0,m1,m2⟩:=Y3.out.facts
   obtain⟨n0,n1,n2'⟩:=ZC.out.facts
   go_wp2_with fail
   clear m0 m1 m2 n0 n1 n2'
   refine(JO.out _ _ _ afB.out Zt.out).mono ?_
   rintro e wz ⟨rfl,hb⟩
   have nN:=hid (bel iG.out hb)
   have E_6:=hid (Uu.out.below hb)
   have agT:=hid (Zt.out.below hb)
   have RB_6:=hid (RB_5.out.below hb)
   have ag2:=hid (ZC.out.below hb)
   have acS:=hid (O8.out.below hb)
   have acX:=hid (Pm.out.below hb)
   have aoJ:=hid (afB.out.below hb)
   have aoG:=hid (afC.out.below hb)
   have Y3_6:=hid (Y3.out.below hb)
   clear hb
   cases b1 with
   |false=>
    have HF:Hid (b=false):=by show _=_;rw[HV.out];rfl
    go_wp2
    go_ret
    exact⟨ak (by rw[HF.out]),nN.out⟩
   |true=>
    have HF:Hid (b=b2):=by show _=_;rw[HV.out];rfl
    go_wp2_with fail
    refine(Tz.out _ _ _ aoG.out RB_6.out).mono ?_
    rintro e wy ⟨rfl,hwy⟩
    subst hwy
    go_wp2
    go_ret
    exact⟨ak (by rw[HF.out]),nN.out⟩
  ·
   have hen:(er==0)=false:=by rw[beq_eq_false_iff_ne];exact he
   have HF:Hid (b=false):=by show _=_;rw[HV.out,decide_eq_false he];rfl
   go_wp2
   go_ret
   exact⟨ak (by rw[HF.out]),iG.out⟩
end Go.Proofs.YtgamccijegollaaGreatDoor.agJ
namespace Go.Proofs.YtgamccijegollaaGreatDoor.aji
open Go.RowKit Base Dp cO wS mW wo UG rC qg oG JY Ce YX J7 OY jQ pO vZ acs ND NH sV BG J6 agJ
open Go.Proofs.YtgamccijegollaaGreatDoor.aZ (adw)
theorem Rj (ps:PL):mQ (nY ps)=ps:=by
 unfold mQ nY
 rw[List.map_map]
 conv=>rhs;rw[←List.map_id ps]
 exact List.map_congr_left fun p _=>rfl
def mk (letters:Bool) (M:MT) (B:List UInt8):List UInt8:=made letters M.ty M.sub M.ps B
def bld (letters:Bool) (M:MT) (B:List UInt8):List UInt8×Int:=
 if fD M.ty M.sub M.ps=true then(if 65536<B.length then([],3)else if 65536<(mk letters M B).length then([],3)else if Eb (mk letters M B) M B=true then(mk letters M B,0)else([],2))else([],1)
theorem Ky (letters:Bool) (M:MT) (A:Option Addr) (c:Nat) (A2:Option Addr) (n2 c2:Nat) (B:List UInt8) (w:World) (hM:Mp w M A c) (hB:aY w A2 n2 (ah B)) (hc2:n2≤c2) (hn2:n2≤10000000) (E:Env w)
  (hP:∀w':World,Mp w' M A c→Calls Tryz.prog 49 #[.agg #[.string (strOf M.ty),.string (strOf M.sub),.slice A M.ps.length c]] w' fun e w''=>e=.returned (.string (strOf (dS M.ty M.sub M.ps)))∧Below w'.heap.size w' w'') (hPl:(dS M.ty M.sub M.ps).length≤10000000)
  (hF:adF (strOf M.ty) (strOf M.sub) (nY M.ps)) (hsz:(mk letters M B).length≤49000∨65536<(mk letters M B).length):
  Calls Tryz.prog 33 #[.agg #[.string (strOf M.ty),.string (strOf M.sub),.slice A M.ps.length c],.slice A2 n2 c2,.bool letters] w fun e w'=>e=.returned (.tuple #[.string (strOf (bld letters M B).1),.int .i64 (bld letters M B).2])∧Below w.heap.size w w':=by
 have HE:=hid E
 have HMP:=hid hM
 have HRB:=hid hB
 have hbl:B.length=n2:=by rw[←aI];exact hB.1
 obtain⟨r,hr⟩:∃r,r=fD M.ty M.sub M.ps:=⟨_,rfl⟩
 have HRI:Hid (∀w:World,Mp w M A c→Calls Tryz.prog 86 #[.agg #[.string (strOf M.ty),.string (strOf M.sub),.slice A M.ps.length c]] w fun e w'=>e=.returned (.bool r)∧Below w.heap.size w w'):=fun w h=>by
  have k:=zi (strOf M.ty) (strOf M.sub) A M.ps.length c (nY M.ps) w h.prm h.nc h.cm hF
  rw[Rj]at k
  rw[hr]
  exact k
 obtain⟨S,hS⟩:∃S,S=strOf (mk letters M B):=⟨_,rfl⟩
 have HWR:Hid (∀w:World,Mp w M A c→aY w A2 n2 (ah B)→Calls Tryz.prog 87 #[.agg #[.string (strOf M.ty),.string (strOf M.sub),.slice A M.ps.length c],.slice A2 n2 c2,.bool letters] w fun e w'=>e=.returned (.string S)∧Below w.heap.size w w'):=fun w h k=>by
  rw[hS]
  exact BuiB.sN letters (strOf M.ty) (strOf M.sub) A M.ps.length c A2 n2 c2 B (dS M.ty M.sub M.ps) w (fun w' hb=>hP w' (h.below hb)) hPl k hc2 hn2
 obtain⟨b,hb0⟩:∃b,b=Eb (mk letters M B) M B:=⟨_,rfl⟩
 have hSd:S.data.toList=mk letters M B:=by rw[hS];rfl
 have XK:S.size=(mk letters M B).length:=by rw[hS,o9]
 have HSY:Hid (S.size≤65536→∀w:World,Mp w M A c→aY w A2 n2 (ah B)→Env w→Calls Tryz.prog 88 #[.string S,.agg #[.string (strOf M.ty),.string (strOf M.sub),.slice A M.ps.length c],.slice A2 n2 c2] w fun e w'=>e=.returned (.bool b)∧Below w.heap.size w w'):=fun hs w h k E=>by
  rw[hb0,←hSd]
  exact ant S M A c A2 n2 c2 B w (by omega) h k E
 obtain⟨R,e,hRe⟩:∃R e,bld letters M B=(R,e):=⟨_,_,rfl⟩
 have HV:Hid ((R,e)=(if r=true then(if 65536<n2 then(([]:List UInt8),(3:Int))else if 65536<S.size then([],3)else if b=true then(S.data.toList,0)else([],2))else([],1))):=by
  show _=_
  rw[←hRe]
  unfold bld
  rw[←hr,hbl,←XK,←hb0,hSd]
 rw[hRe]
 show Calls _ _ _ _ fun e' w'=>e'=.returned (.tuple #[.string (strOf R),.int .i64 e])∧_
 have hSS:S=strOf S.data.toList:=(aG S).symm
 have F9:=hid hSS
 clear hM hB hc2 hn2 E hP hPl hF hsz hbl hr hS hb0 hSd XK hRe hSS
 go_enter Tryz.func33,Tryz.ntmps33
 go_upto_region 1 with(fail)
 generalize bI:World.alloc _ _=v1
 have hxa:B3 44 v1 (w.heap.size) (.string (strOf M.ty)) (.string (strOf M.sub)) (.slice A M.ps.length c):=by rw[←bI];exact heap_alloc_new _ _
 have hb:Below w.heap.size w v1:=by rw[←bI];exact(Below.refl _ _).alloc (Nat.le_refl _) _
 have XM:=hid hxa
 clear bI hxa
 have HB1:=hid hb
 have sO:=hid (HE.out.below hb)
 have TG:=hid (HMP.out.below hb)
 have ake:=hid (HRB.out.below hb)
 clear hb
 obtain⟨m0,m1,m2⟩:=XM.out.facts
 go_wp2_with fail
 clear m0 m1 m2
 refine(HRI.out _ TG.out).mono ?_
 rintro e w2 ⟨rfl,hb⟩
 have HB2:=hid (bel HB1.out hb)
 have xY:=hid (sO.out.below hb)
 have Nz:=hid (TG.out.below hb)
 have agW:=hid (ake.out.below hb)
 have NK:=hid (XM.out.below hb)
 clear hb
 cases r with
 |false=>
  have hv:(R,e)=([],1):=by rw[HV.out];simp
  injection hv with hv1 hv2
  subst hv1 hv2
  go_wp2
  go_ret2
  first|exact⟨rfl,HB2.out⟩|exact⟨by rw[←F9.out],HB2.out⟩
 | true=>
  by_cases hn:65536<n2
  ·
   have hni:(65536:Int)<(n2:Int):=by omega
   have hv:(R,e)=([],3):=by rw[HV.out];simp[hn]
   injection hv with hv1 hv2
   subst hv1 hv2
   go_wp2
   go_ret2
   first|exact⟨rfl,HB2.out⟩|exact⟨by rw[←F9.out],HB2.out⟩
  ·
   have hni:¬(65536:Int)<(n2:Int):=by omega
   obtain⟨m0,m1,m2⟩:=NK.out.facts
   go_wp2_with fail
   clear m0 m1 m2
   refine(HWR.out _ Nz.out agW.out).mono ?_
   rintro e w3 ⟨rfl,hb⟩
   have HB3:=hid (bel HB2.out hb)
   have vV:=hid (xY.out.below hb)
   have Gi:=hid (Nz.out.below hb)
   have akf:=hid (agW.out.below hb)
   have Gq:=hid (NK.out.below hb)
   clear hb
   by_cases hs:65536<S.size
   ·
    have hsi:(65536:Int)<(S.size:Int):=by omega
    have hv:(R,e)=([],3):=by rw[HV.out];simp[hn,hs]
    injection hv with hv1 hv2
    subst hv1 hv2
    go_wp2
    go_ret2
    first|exact⟨rfl,HB3.out⟩|exact⟨by rw[←F9.out],HB3.out⟩
   ·
    have hsi:¬(65536:Int)<(S.size:Int):=by omega
    have MC:=hid (HSY.out (by omega))
    obtain⟨m0,m1,m2⟩:=Gq.out.facts
    go_wp2_with fail
    clear m0 m1 m2
    refine(MC.out _ Gi.out akf.out vV.out).mono ?_
    rintro e w4 ⟨rfl,hb⟩
    have HB4:=hid (bel HB3.out hb)
    have Hw:=hid (vV.out.below hb)
    have NC:=hid (Gi.out.below hb)
    have RB_4:=hid (akf.out.below hb)
    have NM:=hid (Gq.out.below hb)
    clear hb
    cases b with
    |false=>
     have hv:(R,e)=([],2):=by rw[HV.out];simp[hn,hs]
     injection hv with hv1 hv2
     subst hv1 hv2
     go_wp2
     go_ret2
     first|exact⟨rfl,HB4.out⟩|exact⟨by rw[←F9.out],HB4.out⟩
    |true=>
     have hv:(R,e)=(S.data.toList,0):=by rw[HV.out];simp[hn,hs]
     injection hv with hv1 hv2
     subst hv1 hv2
     go_wp2
     go_ret2
     first|exact⟨rfl,HB4.out⟩|exact⟨by rw[←F9.out],HB4.out⟩
end Go.Proofs.YtgamccijegollaaGreatDoor.aji
namespace Go.Proofs.YtgamccijegollaaGreatDoor.aoa
open Go.Proofs.YtgamccijegollaaGreatDoor.ajm (aiQ)
open Go.RowKit Base Dp mW wS ES ajr UG rC qg oG sV J6 JY acs OY BG
theorem few_mid {T S:ByteArray} {l:List (ByteArray×ByteArray)} (h:adF T S l):al8.FewM T S l:=
 ⟨h.1,by have:=h.2.1;have:=h.2.2.1;omega,fun p hp=>by have:=h.2.2.2 p hp;omega⟩
theorem ajL {M:MT} (hF:adF (strOf M.ty) (strOf M.sub) (nY M.ps)) {A:Option Addr} {c:Nat} (w:World) (h:Mp w M A c):Calls Tryz.prog 49 #[.agg #[.string (strOf M.ty),.string (strOf M.sub),.slice A M.ps.length c]] w fun e w'=>e=.returned (.string (strOf (dS M.ty M.sub M.ps)))∧Below w.heap.size w w':=by
 have k:=al8.ajK (strOf M.ty) (strOf M.sub) A M.ps.length c (nY M.ps) w h.prm h.nc h.cm (few_mid hF)
 rw[aji.Rj]at k
 exact k
theorem ajb {H:List UInt8} (h:H.length≤1000000):adF (strOf (typ H).ty) (strOf (typ H).sub) (nY (typ H).ps):=by
 have hw:=aiX H
 unfold typ
 cases hm:mime (Es H)with
 |none=>exact⟨by decide,by decide,by decide,by intro p hp;simp[nY,fall]at hp;subst hp;decide⟩
 |some m=>
  have k:=mid_of hm (by omega)
  exact k
theorem aov {L:List UInt8} {v:MT×List UInt8} (hp:proc L=some v) (hl:L.length≤900000):adF (strOf v.1.ty) (strOf v.1.sub) (nY v.1.ps):=by
 have hc:=(zT 44 L).1
 have ht:(Lib.trimS (wS.fG 44 L).1 ws).length≤(wS.fG 44 L).1.length:=aiQ ws _
 unfold proc at hp
 dsimp only at hp
 generalize Lib.trimS (wS.fG 44 L).1 ws=H at hp ht
 generalize fU.dec (wS.fG 44 L).2.1=B at hp
 generalize (wS.fG 44 L).2.2=c at hp
 cases c with
 |false=>rw[if_neg (by decide)]at hp;cases hp
 | true=>
  rw[if_pos rfl]at hp
  have hu:=ajc H
  generalize YT H=d at hp
  cases d with
  |false=>
   rw[if_neg (by decide)]at hp
   rw[←Option.some.inj hp]
   exact ajb (by omega)
  |true=>
   rw[if_pos rfl]at hp
   generalize Nw.Hr B=o at hp
   cases o with
   |false=>rw[if_neg (by decide)]at hp;cases hp
   |true=>
    rw[if_pos rfl]at hp
    rw[←Option.some.inj hp]
    exact ajb (by omega)
theorem aja {u:U} {n c:Nat} (hS:Sh u n c):adF (strOf (Ig u).1.ty) (strOf (Ig u).1.sub) (nY (Ig u).1.ps):=by
 have h1:=anm u
 have h2:=PI hS.all hS.lo hS.hi
 have m0:adF (strOf Oe.ty) (strOf Oe.sub) (nY Oe.ps):=⟨by decide,by decide,by decide,by simp[nY,Oe]⟩
 unfold Ig ans
 generalize Jv u=L at h1
 by_cases hd:u.au=DATA
 ·rw[if_pos hd]
  cases hp:proc L with
  |none=>exact m0
  |some v=>exact aov hp (by omega)
 rw[if_neg hd]
 exact m0
theorem aeV {w:World} {g i n:Nat} {A:Option Addr} {a b c d:Int} {k:ByteArray} {B:Option Addr} {m q:Nat} {x:Value} {L:List UInt8} (h:AB w g #[.int .i64 a,.int .i64 b,.int .i64 c,.int .i64 d,.string k,.slice B m q]) (hr:aY w A n (ah L)):aY (w.setCell ⟨g,i,none⟩ x) A n (ah L):=by
 refine⟨hr.1,fun j hj=>?_⟩
 obtain⟨e,off,rfl,hk,hc⟩:=hr.2 j hj
 have hne:e≠g:=by
  rintro rfl
  rw[cell_of_row w e (off+j) _ _ _ h]at hc
  have hj':j<L.length:=by rw[aI]at hj;exact hj
  rcases hq:off+j with _|_|_|_|_|_|q
  all_goals(rw[hq]at hc;simp[ah]at hc)
 exact⟨e,off,rfl,by simpa[World.setCell]using hk,(World.cell?_of_block (heap_setCell_other w ⟨g,i,none⟩ e x hne)).trans hc⟩
theorem Jp {w:World} {g n:Nat} {A:Option Addr} {a b c d:Int} {k:ByteArray} {B:Option Addr} {m q:Nat} {ds:Array Value} {L:List UInt8} (h:AB w g #[.int .i64 a,.int .i64 b,.int .i64 c,.int .i64 d,.string k,.slice B m q]) (hr:aY w A n (ah L)):aY (w.setRow g ds) A n (ah L):=by
 refine⟨hr.1,fun j hj=>?_⟩
 obtain⟨e,off,rfl,hk,hc⟩:=hr.2 j hj
 have hne:e≠g:=by
  rintro rfl
  rw[cell_of_row w e (off+j) _ _ _ h]at hc
  have hj':j<L.length:=by rw[aI]at hj;exact hj
  rcases hq:off+j with _|_|_|_|_|_|q
  all_goals(rw[hq]at hc;simp[ah]at hc)
 exact⟨e,off,rfl,by simpa[World.setRow]using hk,(World.cell?_of_block (setRow_other w g e ds hne)).trans hc⟩
theorem ajD (z:Int) (u:U) (A:Option Addr) (n c:Nat) (hS:Sh u n c) (M:MT) (B:List UInt8) (ha:Ig u=(M,B)) (er:Int) (her:aai u=er) (h0:(er==0)=false) (w:World) (hR:Rs w A n u.aO) (E:Env w):Calls Tryz.prog 100 #[.agg #[.int .i64 z,.int .i64 0,.int .i64 0,.int .i64 0,.string ⟨#[]⟩,.slice none 0 0],.agg #[.string (strOf u.au),.string (strOf u.usr),.string (strOf u.MX),.string (strOf u.hst),.bool u.hh,.int .i64 u.port,.bool u.opq,.string (strOf u.txt),.slice A n c,.bool u.hq,.bool u.hf,.string (strOf u.dY),.string (strOf u.fB)]] w fun e w'=>e=.returned (.agg #[.int .i64 z,.int .i64 0,.int .i64 0,.int .i64 0,.string ⟨#[]⟩,.slice none 0 0])∧Below w.heap.size w w':=by
 have HER:=hid her
 have HAN:=hid ha
 have HMD:Hid (adF (strOf M.ty) (strOf M.sub) (nY M.ps)):=by have k:=aja hS;rw[ha]at k;exact k
 clear her ha
 have HSH:=hid hS
 have Uw:=hid E
 have HRS:=hid hR
 clear hS E hR
 go_enter Tryz.func100,Tryz.ntmps100
 go_upto_region 1 with(fail)
 generalize bI:World.alloc (World.alloc (World.alloc w _) _) _=v1
 have h1_:AB v1 w.heap.size #[.int .i64 z,.int .i64 0,.int .i64 0,.int .i64 0,.string ⟨#[]⟩,.slice none 0 0]∧UB v1 (w.heap.size+1) u (.slice A n c)∧AB v1 (w.heap.size+1+1) #[.int .i64 0,.int .i64 0,.int .i64 0,.int .i64 0,.string ⟨#[]⟩,.slice none 0 0]∧Below w.heap.size w v1:=by
  subst bI
  exact aml w _ _ _ _ _ _
 clear bI
 have XA1:=hid h1_.1
 have Po:=hid h1_.2.2.1
 have HB1:=hid h1_.2.2.2
 have SA:=hid h1_.2.1.load
 clear h1_
 go_wp2_with (refine fJ SA.out (.tmp 3) rfl rfl rfl ?_)
 clear SA
 refine(EW HSH.out _ (HRS.out.below HB1.out) (Uw.out.below HB1.out)).mono ?_
 rw[HER.out,HAN.out]
 dsimp only
 rintro e v2 ⟨⟨A1,c1,A2,c2,rfl,hm,hp⟩,hb⟩
 have XA2:=hid (XA1.out.below hb)
 have Pq:=hid (Po.out.below hb)
 have HB2:=hid (bel HB1.out hb)
 have alJ:=hid hm
 have akZ:=hid hp
 clear hb hm hp XA1 Po HB1
 go_upto_region 2 with(fail)
 generalize bI:World.alloc v2 _=v3
 have h3_:B3 44 v3 v2.heap.size (.string (strOf M.ty)) (.string (strOf M.sub)) (.slice A1 M.ps.length c1)∧Below v2.heap.size v2 v3:=by
  subst bI
  exact laid1 v2 _ _
 clear bI
 have XA3:=hid (XA2.out.below h3_.2)
 have NZ:=hid (Pq.out.below h3_.2)
 have HB3:=hid (bel HB2.out h3_.2)
 have HMP3:=hid (alJ.out.below h3_.2)
 have HBP3:=hid (akZ.out.below h3_.2)
 have XM3:=hid h3_.1
 have uQ:Hid (w.heap.size+1+1<v2.heap.size):=Pq.out.lt
 clear h3_ XA2 Pq HB2 alJ akZ
 have Uy:=hid (XA3.out.load rfl)
 go_wp2_with (first|refine fJ Uy.out (.tmp 2) rfl rfl rfl ?_|refine sG NZ.out #[.int .i64 z,.int .i64 0,.int .i64 0,.int .i64 0,.string ⟨#[]⟩,.slice none 0 0] rfl rfl (by simp[Value.oneCell']) (.tmp 4) (.tmp 16) rfl rfl rfl rfl ?_)
 try simp only[Exit.inBlock,Exit.then]
 exact bodyPost_ret (w:=World.setRow v3 (w.heap.size+1+1) #[.int .i64 z,.int .i64 0,.int .i64 0,.int .i64 0,.string ⟨#[]⟩,.slice none 0 0]) (abo rfl (AB.row NZ.out _) rfl _ rfl) rfl ⟨rfl,below_setRow HB3.out (by omega) _⟩
theorem ai5 (z:Int) (u:U) (A:Option Addr) (n c:Nat) (hS:Sh u n c) (M:MT) (B:List UInt8) (ha:Ig u=(M,B)) (her:aai u=0) (w:World) (hR:Rs w A n u.aO) (E:Env w):Calls Tryz.prog 100 #[.agg #[.int .i64 z,.int .i64 0,.int .i64 0,.int .i64 0,.string ⟨#[]⟩,.slice none 0 0],.agg #[.string (strOf u.au),.string (strOf u.usr),.string (strOf u.MX),.string (strOf u.hst),.bool u.hh,.int .i64 u.port,.bool u.opq,.string (strOf u.txt),.slice A n c,.bool u.hq,.bool u.hf,.string (strOf u.dY),.string (strOf u.fB)]] w fun e w'=>∃A2 c2,e=.returned (.agg #[.int .i64 z,.int .i64 200,.int .i64 0,.int .i64 (B.length:Int),.string (strOf (dS M.ty M.sub M.ps)),.slice A2 B.length c2])∧Bp w' B A2 c2∧Below w.heap.size w w':=by
 have HER:=hid her
 have HAN:=hid ha
 have HMD:Hid (adF (strOf M.ty) (strOf M.sub) (nY M.ps)):=by have k:=aja hS;rw[ha]at k;exact k
 clear her ha
 have HSH:=hid hS
 have Uw:=hid E
 have HRS:=hid hR
 clear hS E hR
 go_enter Tryz.func100,Tryz.ntmps100
 go_upto_region 1 with(fail)
 generalize bI:World.alloc (World.alloc (World.alloc w _) _) _=v1
 have h1_:AB v1 w.heap.size #[.int .i64 z,.int .i64 0,.int .i64 0,.int .i64 0,.string ⟨#[]⟩,.slice none 0 0]∧UB v1 (w.heap.size+1) u (.slice A n c)∧AB v1 (w.heap.size+1+1) #[.int .i64 0,.int .i64 0,.int .i64 0,.int .i64 0,.string ⟨#[]⟩,.slice none 0 0]∧Below w.heap.size w v1:=by
  subst bI
  exact aml w _ _ _ _ _ _
 clear bI
 have XA1:=hid h1_.1
 have Po:=hid h1_.2.2.1
 have HB1:=hid h1_.2.2.2
 have SA:=hid h1_.2.1.load
 clear h1_
 go_wp2_with (refine fJ SA.out (.tmp 3) rfl rfl rfl ?_)
 clear SA
 refine(EW HSH.out _ (HRS.out.below HB1.out) (Uw.out.below HB1.out)).mono ?_
 rw[HER.out,HAN.out]
 dsimp only
 rintro e v2 ⟨⟨A1,c1,A2,c2,rfl,hm,hp⟩,hb⟩
 have XA2:=hid (XA1.out.below hb)
 have Pq:=hid (Po.out.below hb)
 have HB2:=hid (bel HB1.out hb)
 have alJ:=hid hm
 have akZ:=hid hp
 clear hb hm hp XA1 Po HB1
 go_upto_region 2 with(fail)
 generalize bI:World.alloc v2 _=v3
 have h3_:B3 44 v3 v2.heap.size (.string (strOf M.ty)) (.string (strOf M.sub)) (.slice A1 M.ps.length c1)∧Below v2.heap.size v2 v3:=by
  subst bI
  exact laid1 v2 _ _
 clear bI
 have XA3:=hid (XA2.out.below h3_.2)
 have NZ:=hid (Pq.out.below h3_.2)
 have HB3:=hid (bel HB2.out h3_.2)
 have HMP3:=hid (alJ.out.below h3_.2)
 have HBP3:=hid (akZ.out.below h3_.2)
 have XM3:=hid h3_.1
 have uQ:Hid (w.heap.size+1+1<v2.heap.size):=Pq.out.lt
 clear h3_ XA2 Pq HB2 alJ akZ
 obtain⟨c0,c1_,c2_⟩:=XM3.out.facts
 go_wp2_with fail
 refine(ajL HMD.out _ HMP3.out).mono ?_
 rintro e v4 ⟨rfl,hb⟩
 have dw:=hid (XA3.out.below hb)
 have Pv:=hid (NZ.out.below hb)
 have HB4:=hid (bel HB3.out hb)
 have HBP4:=hid (HBP3.out.below hb)
 clear hb XA3 NZ HB3 HBP3 HMP3 XM3 c0 c1_ c2_
 obtain⟨a0,a1,a2,a3,a4,a5⟩:=dw.out.facts
 obtain⟨f0,f1,f2,f3,f4,f5⟩:=dw.out.thaw
 go_upto_region 5 with(fail)
 have x1:AB (v4.setCell ⟨w.heap.size,1,none⟩ (.int .i64 200)) w.heap.size #[.int .i64 z,.int .i64 200,.int .i64 0,.int .i64 0,.string ⟨#[]⟩,.slice none 0 0]:=dw.out.set 1 _
 have x2:AB ((v4.setCell ⟨w.heap.size,1,none⟩ (.int .i64 200)).setCell ⟨w.heap.size,4,none⟩ (.string (strOf (dS M.ty M.sub M.ps)))) w.heap.size #[.int .i64 z,.int .i64 200,.int .i64 0,.int .i64 0,.string (strOf (dS M.ty M.sub M.ps)),.slice none 0 0]:=x1.set 4 _
 have x3:AB (((v4.setCell ⟨w.heap.size,1,none⟩ (.int .i64 200)).setCell ⟨w.heap.size,4,none⟩ (.string (strOf (dS M.ty M.sub M.ps)))).setCell ⟨w.heap.size,5,none⟩ (.slice A2 B.length c2)) w.heap.size #[.int .i64 z,.int .i64 200,.int .i64 0,.int .i64 0,.string (strOf (dS M.ty M.sub M.ps)),.slice A2 B.length c2]:=x2.set 5 _
 have x4:AB ((((v4.setCell ⟨w.heap.size,1,none⟩ (.int .i64 200)).setCell ⟨w.heap.size,4,none⟩ (.string (strOf (dS M.ty M.sub M.ps)))).setCell ⟨w.heap.size,5,none⟩ (.slice A2 B.length c2)).setCell ⟨w.heap.size,3,none⟩ (.int .i64 (B.length:Int))) w.heap.size #[.int .i64 z,.int .i64 200,.int .i64 0,.int .i64 (B.length:Int),.string (strOf (dS M.ty M.sub M.ps)),.slice A2 B.length c2]:=x3.set 3 _
 have hr:AB ((((v4.setCell ⟨w.heap.size,1,none⟩ (.int .i64 200)).setCell ⟨w.heap.size,4,none⟩ (.string (strOf (dS M.ty M.sub M.ps)))).setCell ⟨w.heap.size,5,none⟩ (.slice A2 B.length c2)).setCell ⟨w.heap.size,3,none⟩ (.int .i64 (B.length:Int))) (w.heap.size+1+1) #[.int .i64 0,.int .i64 0,.int .i64 0,.int .i64 0,.string ⟨#[]⟩,.slice none 0 0]:=(((Pv.out.Rx _ (by omega)).Rx _ (by omega)).Rx _ (by omega)).Rx _ (by omega)
 have hb:Below w.heap.size w ((((v4.setCell ⟨w.heap.size,1,none⟩ (.int .i64 200)).setCell ⟨w.heap.size,4,none⟩ (.string (strOf (dS M.ty M.sub M.ps)))).setCell ⟨w.heap.size,5,none⟩ (.slice A2 B.length c2)).setCell ⟨w.heap.size,3,none⟩ (.int .i64 (B.length:Int))):=(((HB4.out.setCell (Nat.le_refl _) _).setCell (Nat.le_refl _) _).setCell (Nat.le_refl _) _).setCell (Nat.le_refl _) _
 have hd:aY ((((v4.setCell ⟨w.heap.size,1,none⟩ (.int .i64 200)).setCell ⟨w.heap.size,4,none⟩ (.string (strOf (dS M.ty M.sub M.ps)))).setCell ⟨w.heap.size,5,none⟩ (.slice A2 B.length c2)).setCell ⟨w.heap.size,3,none⟩ (.int .i64 (B.length:Int))) A2 B.length (ah B):=aeV x3 (aeV x2 (aeV x1 (aeV dw.out HBP4.out.zB)))
 generalize ((((v4.setCell ⟨w.heap.size,1,none⟩ (.int .i64 200)).setCell ⟨w.heap.size,4,none⟩ (.string (strOf (dS M.ty M.sub M.ps)))).setCell ⟨w.heap.size,5,none⟩ (.slice A2 B.length c2)).setCell ⟨w.heap.size,3,none⟩ (.int .i64 (B.length:Int)))=v5 at x4 hr hb hd⊢
 have Xc:=hid x4
 have ZF:=hid hr
 have iG:=hid hb
 have HD5:=hid hd
 clear x1 x2 x3 x4 hr hb hd dw Pv HB4 a0 a1 a2 a3 a4 a5 f0 f1 f2 f3 f4 f5
 have Uy:=hid (Xc.out.load rfl)
 go_wp2_with (first|refine fJ Uy.out (.tmp 2) rfl rfl rfl ?_|refine sG ZF.out #[.int .i64 z,.int .i64 200,.int .i64 0,.int .i64 (B.length:Int),.string (strOf (dS M.ty M.sub M.ps)),.slice A2 B.length c2] rfl rfl (by simp[Value.oneCell']) (.tmp 4) (.tmp 26) rfl rfl rfl rfl ?_)
 try simp only[Exit.inBlock,Exit.then]
 exact bodyPost_ret (w:=World.setRow v5 (w.heap.size+1+1) #[.int .i64 z,.int .i64 200,.int .i64 0,.int .i64 (B.length:Int),.string (strOf (dS M.ty M.sub M.ps)),.slice A2 B.length c2]) (abo rfl (AB.row ZF.out _) rfl _ rfl) rfl ⟨A2,c2,rfl,⟨HBP4.out.nc,HBP4.out.cm,Jp ZF.out HD5.out⟩,below_setRow iG.out (by omega) _⟩
end Go.Proofs.YtgamccijegollaaGreatDoor.aoa
namespace Go.Proofs.YtgamccijegollaaGreatDoor.Shs
open Go.RowKit Base
variable {H:Type} {enc:TypeId×Value→H}
theorem wrap {a:Assume} {C:Checked} {os:Os} {f:FuncId} {fn:Func} {s:ChangeSpec} {conds:List PathCond} {apart fresh handsOn again:Bool} {X:World→Array Value→Prop}
  (hX:∀(w w':World) (args:Array Value),w.heap=w'.heap→X w args→X w' args)
  (own:ownKnob C.prog.godebug=none) (started:os.Started) (noInit:C.prog.inits.idxOf? f=none) (hfn:C.prog.funcs[f]?=some fn)
  (witness:∃(w:World) (tape:Tape) (i:Input),w.os=os∧(w.forCall tape i).Shaped C.prog∧i.vars=[]∧Input.okWide C.prog (w.forCall tape i) .any w.heap.size f i∧
   ((s.pre enc C.prog fn conds apart (w.forCall tape i).memory i.args∧X (w.forCall tape i).memory i.args)∧sizedMet enc C.prog fn (OpenSpec.ofChange s) apart (w.forCall tape i).memory i.args)∧a.holds C.prog (lone (Frame.enter C.prog f i.args .normal) [] (w.forCall tape i)))
  (contract:∀(W:World) (base:Nat) (args:Array Value) (ds gs:List (DataW H)) (before:List MemPlace),
   (∀(j:Nat) t v,fn.params[j]?=some t→args[j]?=some v→Value.okWide C.prog W .any base t v)→
   DataW.Whole enc C.prog fn.params.toList s.vars apart W args.toList ds gs before→
   conds.all (PathCond.test C.prog ⟨fn.params.toList,ds,s.plain.varTypes C.prog,gs⟩)=true→
   (DataW.weightsEach C.prog (fn.params.toList++s.plain.varTypes C.prog) (ds++gs)).all (·≤reachBytes)=true→X W args→W.ShapedOpen C.prog→
   a.holds C.prog (lone (Frame.enter C.prog f args .normal) [] W)→
   Calls C.prog f args W fun e W'=>∃v,e=.returned v∧s.post enc C.prog fn apart fresh handsOn again W args v W'):
  ReturnsInHanded a C os f .any (fun w args=>(s.pre enc C.prog fn conds apart w args∧X w args)∧sizedMet enc C.prog fn (OpenSpec.ofChange s) apart w args) (s.post enc C.prog fn apart fresh handsOn again):=by
 refine returnsInHanded_of_calls own started noInit witness ?_
 intro w tape i _ hsh _ hok hpre hholds
 obtain⟨_,_,_,fn',hfn',_,_,_,_,hval⟩:=hok
 have e:fn'=fn:=Option.some.inj (hfn'.symm.trans hfn)
 subst e
 obtain⟨⟨⟨ds,gs,before,hw,hc⟩,hx⟩,hz⟩:=hpre
 have hw':=DataW.Whole.of_heap (w':=w.forCall tape i) (by rfl) hw
 refine(contract (w.forCall tape i) w.heap.size i.args ds gs before hval hw' hc (hz.weights hw) (hX _ _ _ (by rfl) hx) hsh hholds).mono fun e W' ⟨v,he,hp⟩=>?_
 subst he
 exact ChangeSpec.post_blind hp
theorem max_of {w:World} (h:w.ShapedOpen Tryz.prog):pO.Max w:=Go.Proofs.cell_of_shapedOpen_int (zero:=#[.int .i64 0]) (t:=3) h (of_decide_eq_true (by kernel_rfl)) (by kernel_rfl) rfl (by kernel_rfl) (by kernel_rfl) Tryz.underlying3
end Go.Proofs.YtgamccijegollaaGreatDoor.Shs
namespace Go.Proofs.YtgamccijegollaaGreatDoor.rD
open Go.RowKit Go.Lib
theorem utab_of {W:World} {l:List (String×DataW Unit)} (h:laidMet Tryz.prog l W) (h1:("unicode/utf8.first",firstData) ∈ l) (h2:("unicode/utf8.acceptRanges",acceptData) ∈ l):vZ.rD W:=
 utf8Tabs_of_reads (ρ:=Tryz.l237_ren) {Tryz.l237 with} ⟨by kernel_rfl,by kernel_rfl,by kernel_rfl,by kernel_rfl,by kernel_rfl,by kernel_rfl,by kernel_rfl⟩ (Lib.laidMet.reads h h1) (Lib.laidMet.reads h h2)
end Go.Proofs.YtgamccijegollaaGreatDoor.rD
