/- Texts that belong together: acs, agJ, aji, MimK, ajk, ajj, Law18b, Shs, rD. -/
import Derived.Test.YtmpeaoacaecgpaaGreatDoorXAN
import Derived.Test.YtmpeaoacaecgpaaGreatDoorXAM
import Derived.Test.YtmpeaoacaecgpaaGreatDoorXAR
import Derived.Test.YtmpeaoacaecgpaaGreatDoorXAC
import Derived.Lib.SlBytesConst
import Derived.Test.YtmpeaoacaecgpaaGreatDoorXAG
import Derived.Handed
import Derived.HandedShaped
import Derived.Shelf.Vars
import Derived.Test.YtmpeaoacaecgpaaGreatDoorXAQ
import Derived.Lib.LaidU8
set_option linter.unusedSimpArgs false
set_option linter.unusedVariables false
set_option maxRecDepth 100000
set_option maxHeartbeats 64000000
namespace Go.Proofs.YtmpeaoacaecgpaaGreatDoor.acs
open Go.RowKit Base Base2 cO PrsP mW wo UG rC qg oG JY Ce YX J7 OY jQ pO vZ
open Go.Proofs.YtmpeaoacaecgpaaGreatDoor.aZ (adw)
structure Mp (w:World) (M:MT) (A:Option Addr) (c:Nat):Prop where
 nc:M.ps.length≤c
 cm:c≤maxLen
 prm:zH w A M.ps.length (nY M.ps)
theorem Mp.below {w w':World} {M:MT} {A:Option Addr} {c:Nat} (h:Mp w M A c) (hb:Below w.heap.size w w'):Mp w' M A c:=⟨h.nc,h.cm,h.prm.below hb⟩
structure Bp (w:World) (B:List UInt8) (A:Option Addr) (c:Nat):Prop where
 nc:B.length≤c
 cm:c≤maxLen
 zB:aY w A B.length (ah B)
theorem Bp.below {w w':World} {B:List UInt8} {A:Option Addr} {c:Nat} (h:Bp w B A c) (hb:Below w.heap.size w w'):Bp w' B A c:=⟨h.nc,h.cm,h.zB.below hb⟩
theorem dat_r {M:MT} {B:List UInt8} {er:Int} {e:Ending} {w':World} (h:DatR M B er e w'):∃A c A2 c2,e=.returned (.tuple #[.agg #[.string (strOf M.ty),.string (strOf M.sub),.slice A M.ps.length c],.slice A2 B.length c2,.int .i64 er])∧Mp w' M A c∧Bp w' B A2 c2:=by
 obtain⟨A,c,A2,c2,h1,h2,h3,h4,h5,h6,h7⟩:=h
 exact⟨A,c,A2,c2,h1,⟨h2,h3,h4⟩,⟨h5,h6,h7⟩⟩
theorem PI {u:U} {N:Nat} (h:u.au.length+u.usr.length+u.pwd.length+u.hst.length+u.txt.length+u.dY.length+(aZ.aO u.aO).length≤N) (hl: -9223372036854775808≤u.port) (hh:u.port≤9223372036854775807):(Bl u).length≤N+60:=by
 have hp:(aZ.kK u.port).length≤21:=Pg.Rf u.port hl hh
 have hc:(aZ.lD (strOf u.usr) (strOf u.pwd)).length≤u.usr.length+u.pwd.length+2:=by
  unfold aZ.lD
  have e1:(strOf u.usr).data.toList=u.usr:=rfl
  have e2:(strOf u.pwd).data.toList=u.pwd:=rfl
  rw[e1,e2]
  split
  ·split
   ·simp
   simp only[List.length_append,List.length_cons,List.length_nil];omega
  simp only[List.length_append,List.length_cons,List.length_nil];omega
 have hm:(KU u).length≤u.usr.length+u.pwd.length+u.hst.length+25:=by
  unfold KU aZ.ug
  have e1:(strOf u.hst).data.toList=u.hst:=rfl
  rw[e1]
  split
  ·simp only[List.length_append,List.length_cons,List.length_nil];omega
  split
  ·simp only[List.length_cons,List.length_nil];omega
  simp
 have hpl:(aZ.pF u.opq (strOf u.txt) u.aO).length≤u.txt.length+(aZ.aO u.aO).length:=by
  unfold aZ.pF
  have e1:(strOf u.txt).data.toList=u.txt:=rfl
  rw[e1]
  split<;>omega
 have hq:(if u.hq=true then(63:UInt8)::u.dY else[]).length≤u.dY.length+1:=by split<;>simp
 rw[yD]
 simp only[List.length_append,List.length_cons,List.length_nil]
 omega
def FW (u:U):List UInt8:=KU u++aZ.pF u.opq (strOf u.txt) u.aO++(if u.hq then 63::u.dY else[])
theorem ag8 (u:U):Bl u=u.au++58::FW u:=by rw[yD];unfold FW;simp
def Jv (u:U):List UInt8:=Lib.trimPrefix (Bl u) vX
theorem aix {u:U} (h:u.au=DATA):Bl u=vX++Jv u:=by
 unfold Jv Lib.trimPrefix
 have e:Bl u=vX++FW u:=by rw[ag8,h];rfl
 rw[e]
 have hp:Lib.hasPrefix (vX++FW u) vX=true:=by unfold Lib.hasPrefix;rw[List.isPrefixOf_iff_prefix];exact List.prefix_append _ _
 rw[if_pos hp,List.drop_left]
theorem anm (u:U):(Jv u).length≤(Bl u).length:=by
 unfold Jv Lib.trimPrefix
 split
 ·rw[List.length_drop];omega
 exact Nat.le_refl _
def Ig (u:U):MT×List UInt8:=ans u.au (Jv u)
def aai (u:U):Int:=err u.au (Jv u)
structure Rs (w:World) (A:Option Addr) (n:Nat) (l:List ByteArray):Prop where
 zB:aY w A n (l.map Value.string)
theorem Rs.below {w w':World} {A:Option Addr} {n:Nat} {l:List ByteArray} (h:Rs w A n l) (hb:Below w.heap.size w w'):Rs w' A n l:=⟨h.zB.below hb⟩
structure Sh (u:U) (n c:Nat):Prop where
 all:u.au.length+u.usr.length+u.pwd.length+u.hst.length+u.txt.length+u.dY.length+(aZ.aO u.aO).length≤400000
 lo: -9223372036854775808≤u.port
 hi:u.port≤9223372036854775807
 nc:n≤c
 cm:c≤maxLen
theorem agl {u:U} {N:Nat} (h:oN.Fit u N) (hN:N≤400000) {w:World} {A:Option Addr} {n c:Nat} (hP:Pt w u A n c):Sh u n c:=by
 have h1:=h.all
 unfold oN.pl at h1
 exact⟨by omega,by have:=h.lo;omega,by have:=h.hi;omega,hP.aO.2.1,hP.aO.2.2⟩
theorem ag7 {u:U} {A:Option Addr} {n c:Nat} (hS:Sh u n c) (w:World) (hR:Rs w A n u.aO) (hT:Tab.Pow w):Calls Tryz.prog 70 #[.agg #[.string (strOf u.au),.string (strOf u.usr),.string (strOf u.pwd),.string (strOf u.hst),.bool u.hh,.int .i64 u.port,.bool u.opq,.string (strOf u.txt),.slice A n c,.bool u.hq,.bool u.hf,.string (strOf u.dY),.string (strOf u.fB)]] w fun e w'=>e=.returned (.string (strOf (Bl u)))∧Below w.heap.size w w':=by
 have h:=hS.all
 exact Pg.ZQ (strOf u.au) (strOf u.usr) (strOf u.pwd) (strOf u.hst) u.hh u.port u.opq (strOf u.txt) A n c u.aO u.hq u.hf (strOf u.dY) (strOf u.fB) w hR.zB hS.nc hS.cm (by rw[size_strOf];omega) (by rw[size_strOf];omega) (by rw[size_strOf];omega) (by rw[size_strOf];omega) (by rw[size_strOf];omega) (by rw[size_strOf];omega) hS.lo hS.hi (by omega) hT
theorem EW {u:U} {A:Option Addr} {n c:Nat} (hS:Sh u n c) (w:World) (hR:Rs w A n u.aO) (E:Env w):Calls Tryz.prog 27 #[.agg #[.string (strOf u.au),.string (strOf u.usr),.string (strOf u.pwd),.string (strOf u.hst),.bool u.hh,.int .i64 u.port,.bool u.opq,.string (strOf u.txt),.slice A n c,.bool u.hq,.bool u.hf,.string (strOf u.dY),.string (strOf u.fB)]] w fun e w'=>(∃A1 c1 A2 c2,e=.returned (.tuple #[.agg #[.string (strOf (Ig u).1.ty),.string (strOf (Ig u).1.sub),.slice A1 (Ig u).1.ps.length c1],.slice A2 (Ig u).2.length c2,.int .i64 (aai u)])∧Mp w' (Ig u).1 A1 c1∧Bp w' (Ig u).2 A2 c2)∧Below w.heap.size w w':=by
 refine(aa9 u A n c (Bl u) (Jv u) w (fun w1 hb=>ag7 hS w1 (hR.below hb) (Tab.Pow.below E.pow hb)) rfl ?_ E.max).mono ?_
 ·have h1:=anm u
  have h2:=PI hS.all hS.lo hS.hi
  omega
 rintro e w' ⟨h1,h2⟩
 exact⟨dat_r h1,h2⟩
end Go.Proofs.YtmpeaoacaecgpaaGreatDoor.acs
namespace Go.Proofs.YtmpeaoacaecgpaaGreatDoor.agJ
open Go.RowKit Base Base2 cO PrsP mW wo UG rC qg oG JY Ce YX J7 OY jQ pO vZ acs ND
open Go.Proofs.YtmpeaoacaecgpaaGreatDoor.aZ (adw)
theorem anK (a b:List UInt8):((strOf a).toList==(strOf b).toList)=decide (a=b):=by
 unfold strOf
 rw[ByteArray.toList_mk,ByteArray.toList_mk,Bool.eq_iff_iff]
 simp
theorem EF (A:Option Addr) (n c:Nat) (L:List UInt8) (A2:Option Addr) (n2 c2:Nat) (M:List UInt8) (w:World) (h:aY w A n (ah L)) (h2:aY w A2 n2 (ah M)):Calls Tryz.prog 190 #[.slice A n c,.slice A2 n2 c2] w fun e w'=>e=.returned (.bool (decide (L=M)))∧w=w':=by
 have hs:=aF (P:=Tryz.prog) 45 9 5 Tryz.underlying45 Tryz.underlying5 Tryz.underlying9 _ c h
 have hs2:=aF (P:=Tryz.prog) 45 9 5 Tryz.underlying45 Tryz.underlying5 Tryz.underlying9 _ c2 h2
 have hq:((strOf L).toList==(strOf M).toList)=decide (L=M):=anK L M
 go_enter Tryz.func190,Tryz.ntmps190
 go_wp2
 go_ret
 first|exact⟨rfl,rfl⟩|exact⟨ak hq,rfl⟩
def same2 (M N:MT):Bool:=Jz (strOf M.ty) (strOf M.sub) (nY M.ps) (strOf N.ty) (strOf N.sub) (nY N.ps)
def Eb (s:List UInt8) (M:MT) (B:List UInt8):Bool:=match PrsP.url s none with
 |none=>false
 |some u=>decide (aai u=0)&&(same2 (Ig u).1 M&&decide ((Ig u).2=B))
theorem ant (s:ByteArray) (M:MT) (A:Option Addr) (c:Nat) (A2:Option Addr) (n2 c2:Nat) (B:List UInt8) (w:World) (hs0:s.size≤26000) (hM:Mp w M A c) (hB:aY w A2 n2 (ah B)) (E:Env w):
  Calls Tryz.prog 88 #[.string s,.agg #[.string (strOf M.ty),.string (strOf M.sub),.slice A M.ps.length c],.slice A2 n2 c2] w fun e w'=>e=.returned (.bool (Eb s.data.toList M B))∧Below w.heap.size w w':=by
 have hs:s.size≤65536:=by omega
 have HE:=hid E
 have HMP:=hid hM
 have HRB:=hid hB
 obtain⟨b,hb0⟩:∃b,b=Eb s.data.toList M B:=⟨_,rfl⟩
 rw[←hb0]
 cases e1:PrsP.url s.data.toList none with
 |none=>
  have HV:Hid (b=false):=by show _=_;rw[hb0];unfold Eb;rw[e1]
  obtain⟨u,hu0⟩:∃u0,u0=U0:=⟨_,rfl⟩
  have HU0:=hid hu0
  have yc:Hid (∀w,Env w→Calls Tryz.prog 16 #[.string s,.pointer none] w fun e w'=>∃A' n' c',e=.returned (.tuple #[.agg #[.string (strOf u.au),.string (strOf u.usr),.string (strOf u.pwd),.string (strOf u.hst),.bool u.hh,.int .i64 u.port,.bool u.opq,.string (strOf u.txt),.slice A' n' c',.bool u.hq,.bool u.hf,.string (strOf u.dY),.string (strOf u.fB)],.int .i64 2])∧Pt w' u A' n' c'∧Below w.heap.size w w'):=fun w E=>GZ HU0.out e1 hs w E
  clear e1 hu0 hs hs0 hM hB E hb0
  go_enter Tryz.func88,Tryz.ntmps88
  go_upto_region 1 with(fail)
  generalize bI:World.alloc _ _=v1
  have hxa:B3 44 v1 (w.heap.size) (.string (strOf M.ty)) (.string (strOf M.sub)) (.slice A M.ps.length c):=by rw[←bI];exact heap_alloc_new _ _
  have hb:Below w.heap.size w v1:=by rw[←bI];exact(Below.refl _ _).alloc (Nat.le_refl _) _
  have XM:=hid hxa
  clear bI hxa
  have HB1:=hid hb
  have sO:=hid (HE.out.below hb)
  have TG:=hid (HMP.out.below hb)
  have ake:=hid (HRB.out.below hb)
  clear hb
  go_wp2_with fail
  refine(yc.out _ sO.out).mono ?_
  rintro e w2 ⟨A1,n1,c1,rfl,hpt,hb⟩
  have HB2:=hid (bel HB1.out hb)
  have xY:=hid (sO.out.below hb)
  have Nz:=hid (TG.out.below hb)
  have agW:=hid (ake.out.below hb)
  have NK:=hid (XM.out.below hb)
  clear hb
  have T1:=hid (hpt)
  clear hpt
  go_upto_region 2 with(fail)
  generalize bI:World.alloc _ _=v3
  have hxa:UB v3 (w2.heap.size) u (.slice A1 n1 c1):=by rw[←bI];exact heap_alloc_new _ _
  have hb:Below w2.heap.size w2 v3:=by rw[←bI];exact(Below.refl _ _).alloc (Nat.le_refl _) _
  have X1:=hid hxa
  clear bI hxa
  have HB3:=hid (bel HB2.out hb)
  have vV:=hid (xY.out.below hb)
  have Gi:=hid (Nz.out.below hb)
  have akf:=hid (agW.out.below hb)
  have Gq:=hid (NK.out.below hb)
  have zJ:=hid (T1.out.below hb)
  clear hb
  go_wp2
  go_ret
  exact⟨ak (by rw[HV.out]),HB3.out⟩
 | some u=>
  have yc:Hid (∀w,Env w→Calls Tryz.prog 16 #[.string s,.pointer none] w fun e w'=>∃A' n' c',e=.returned (.tuple #[.agg #[.string (strOf u.au),.string (strOf u.usr),.string (strOf u.pwd),.string (strOf u.hst),.bool u.hh,.int .i64 u.port,.bool u.opq,.string (strOf u.txt),.slice A' n' c',.bool u.hq,.bool u.hf,.string (strOf u.dY),.string (strOf u.fB)],.int .i64 0])∧Pt w' u A' n' c'∧Below w.heap.size w w'):=fun w E=>jB e1 hs w E
  have hfit:=oN.AZ (M:=0) e1 (fun _ e=>by cases e)
  have WC:Hid (∀(w:World) (A:Option Addr) (n c:Nat),Pt w u A n c→Sh u n c∧Rs w A n u.aO):=fun w A n c h=>⟨agl hfit (by rw[Ce.dl];omega) h,⟨h.aO.1⟩⟩
  obtain⟨N,C,hNC⟩:∃N C,Ig u=(N,C):=⟨_,_,rfl⟩
  obtain⟨er,her⟩:∃x,x=aai u:=⟨_,rfl⟩
  have HPC:Hid (∀(A:Option Addr) (n c:Nat),Sh u n c→∀w:World,Rs w A n u.aO→Env w→Calls Tryz.prog 27 #[.agg #[.string (strOf u.au),.string (strOf u.usr),.string (strOf u.pwd),.string (strOf u.hst),.bool u.hh,.int .i64 u.port,.bool u.opq,.string (strOf u.txt),.slice A n c,.bool u.hq,.bool u.hf,.string (strOf u.dY),.string (strOf u.fB)]] w fun e w'=>(∃A1 c1 A2 c2,e=.returned (.tuple #[.agg #[.string (strOf N.ty),.string (strOf N.sub),.slice A1 N.ps.length c1],.slice A2 C.length c2,.int .i64 er])∧Mp w' N A1 c1∧Bp w' C A2 c2)∧Below w.heap.size w w'):=fun A n c hS w hR E=>by
   have k:=EW hS w hR E
   rw[hNC,←her]at k
   exact k
  obtain⟨b1,hb1⟩:∃b,b=same2 N M:=⟨_,rfl⟩
  obtain⟨b2,hb2⟩:∃b,b=decide (C=B):=⟨_,rfl⟩
  have JO:Hid (∀(A3:Option Addr) (c3:Nat) (w:World),Mp w N A3 c3→Mp w M A c→Calls Tryz.prog 36 #[.agg #[.string (strOf N.ty),.string (strOf N.sub),.slice A3 N.ps.length c3],.agg #[.string (strOf M.ty),.string (strOf M.sub),.slice A M.ps.length c]] w fun e w'=>e=.returned (.bool b1)∧Below w.heap.size w w'):=fun A3 c3 w h k=>by
   rw[hb1]
   exact J7.JA (strOf N.ty) (strOf N.sub) A3 N.ps.length c3 (nY N.ps) (strOf M.ty) (strOf M.sub) A M.ps.length c (nY M.ps) w h.prm k.prm h.nc h.cm k.nc k.cm
  have Tz:Hid (∀(A3:Option Addr) (c3:Nat) (w:World),Bp w C A3 c3→aY w A2 n2 (ah B)→Calls Tryz.prog 190 #[.slice A3 C.length c3,.slice A2 n2 c2] w fun e w'=>e=.returned (.bool b2)∧w=w'):=fun A3 c3 w h k=>by
   rw[hb2]
   exact EF A3 C.length c3 C A2 n2 c2 B w h.zB k
  have HV:Hid (b=(decide (er=0)&&(b1&&b2))):=by show _=_;rw[hb0];unfold Eb;rw[e1];simp only;rw[hNC,←her,hb1,hb2]
  have hfit2:=hfit
  clear e1 hs hs0 hM hB E hb0 hfit hfit2 hNC her hb1 hb2
  go_enter Tryz.func88,Tryz.ntmps88
  go_upto_region 1 with(fail)
  generalize bI:World.alloc _ _=v1
  have hxa:B3 44 v1 (w.heap.size) (.string (strOf M.ty)) (.string (strOf M.sub)) (.slice A M.ps.length c):=by rw[←bI];exact heap_alloc_new _ _
  have hb:Below w.heap.size w v1:=by rw[←bI];exact(Below.refl _ _).alloc (Nat.le_refl _) _
  have XM:=hid hxa
  clear bI hxa
  have HB1:=hid hb
  have sO:=hid (HE.out.below hb)
  have TG:=hid (HMP.out.below hb)
  have ake:=hid (HRB.out.below hb)
  clear hb
  go_wp2_with fail
  refine(yc.out _ sO.out).mono ?_
  rintro e w2 ⟨A1,n1,c1,rfl,hpt,hb⟩
  have HB2:=hid (bel HB1.out hb)
  have xY:=hid (sO.out.below hb)
  have Nz:=hid (TG.out.below hb)
  have agW:=hid (ake.out.below hb)
  have NK:=hid (XM.out.below hb)
  clear hb
  have T1:=hid (hpt)
  clear hpt
  go_upto_region 2 with(fail)
  generalize bI:World.alloc _ _=v3
  have hxa:UB v3 (w2.heap.size) u (.slice A1 n1 c1):=by rw[←bI];exact heap_alloc_new _ _
  have hb:Below w2.heap.size w2 v3:=by rw[←bI];exact(Below.refl _ _).alloc (Nat.le_refl _) _
  have X1:=hid hxa
  clear bI hxa
  have HB3:=hid (bel HB2.out hb)
  have vV:=hid (xY.out.below hb)
  have Gi:=hid (Nz.out.below hb)
  have akf:=hid (agW.out.below hb)
  have Gq:=hid (NK.out.below hb)
  have zJ:=hid (T1.out.below hb)
  clear hb
  obtain⟨hS,hR⟩:=WC.out _ _ _ _ zJ.out
  have HSa:=hid hS
  have HRa:=hid hR
  clear hS hR
  obtain⟨k0,k1,k2,k3,k4,k5,k6,k7,k8,k9,k10,k11,k12⟩:=X1.out.facts
  go_wp2_with fail
  clear k0 k1 k2 k3 k4 k5 k6 k7 k8 k9 k10 k11 k12
  refine(HPC.out _ _ _ HSa.out _ HRa.out vV.out).mono ?_
  rintro e w4 ⟨⟨A3,c3,A4,c4,rfl,hmp,hbp⟩,hb⟩
  have HB4:=hid (bel HB3.out hb)
  have Hw:=hid (vV.out.below hb)
  have NC:=hid (Gi.out.below hb)
  have RB_4:=hid (akf.out.below hb)
  have NM:=hid (Gq.out.below hb)
  have O7:=hid (zJ.out.below hb)
  have Pj:=hid (X1.out.below hb)
  clear hb
  clear HSa HRa
  have M3:=hid (hmp)
  have B4:=hid (hbp)
  clear hmp hbp
  go_upto_region 5 with(fail)
  generalize bI:World.alloc _ _=v5
  have hxa:B3 44 v5 (w4.heap.size) (.string (strOf N.ty)) (.string (strOf N.sub)) (.slice A3 N.ps.length c3):=by rw[←bI];exact heap_alloc_new _ _
  have hb:Below w4.heap.size w4 v5:=by rw[←bI];exact(Below.refl _ _).alloc (Nat.le_refl _) _
  have Y3:=hid hxa
  clear bI hxa
  have iG:=hid (bel HB4.out hb)
  have Uu:=hid (Hw.out.below hb)
  have Zt:=hid (NC.out.below hb)
  have RB_5:=hid (RB_4.out.below hb)
  have ZC:=hid (NM.out.below hb)
  have O8:=hid (O7.out.below hb)
  have Pm:=hid (Pj.out.below hb)
  have M3_5:=hid (M3.out.below hb)
  have B4_5:=hid (B4.out.below hb)
  clear hb
  by_cases he:er=0
  ·
   subst he
   obtain⟨m0,m1,m2⟩:=Y3.out.facts
   obtain⟨n0,n1,n2'⟩:=ZC.out.facts
   go_wp2_with fail
   clear m0 m1 m2 n0 n1 n2'
   refine(JO.out _ _ _ M3_5.out Zt.out).mono ?_
   rintro e wz ⟨rfl,hb⟩
   have nN:=hid (bel iG.out hb)
   have E_6:=hid (Uu.out.below hb)
   have agT:=hid (Zt.out.below hb)
   have RB_6:=hid (RB_5.out.below hb)
   have ag2:=hid (ZC.out.below hb)
   have acS:=hid (O8.out.below hb)
   have acX:=hid (Pm.out.below hb)
   have M3_6:=hid (M3_5.out.below hb)
   have B4_6:=hid (B4_5.out.below hb)
   have Y3_6:=hid (Y3.out.below hb)
   clear hb
   cases b1 with
   |false=>
    have HF:Hid (b=false):=by show _=_;rw[HV.out];rfl
    go_wp2
    go_ret
    exact⟨ak (by rw[HF.out]),nN.out⟩
   |true=>
    have HF:Hid (b=b2):=by show _=_;rw[HV.out];rfl
    go_wp2_with fail
    refine(Tz.out _ _ _ B4_6.out RB_6.out).mono ?_
    rintro e wy ⟨rfl,hwy⟩
    subst hwy
    go_wp2
    go_ret
    exact⟨ak (by rw[HF.out]),nN.out⟩
  ·
   have hen:(er==0)=false:=by rw[beq_eq_false_iff_ne];exact he
   have HF:Hid (b=false):=by show _=_;rw[HV.out,decide_eq_false he];rfl
   go_wp2
   go_ret
   exact⟨ak (by rw[HF.out]),iG.out⟩
end Go.Proofs.YtmpeaoacaecgpaaGreatDoor.agJ
namespace Go.Proofs.YtmpeaoacaecgpaaGreatDoor.aji
open Go.RowKit Base Base2 cO PrsP mW wo UG rC qg oG JY Ce YX J7 OY jQ pO vZ acs ND NH sV BG J6 CQ agJ
open Go.Proofs.YtmpeaoacaecgpaaGreatDoor.aZ (adw)
theorem Rj (ps:PL):mQ (nY ps)=ps:=by
 unfold mQ nY
 rw[List.map_map]
 conv=>rhs;rw[←List.map_id ps]
 exact List.map_congr_left fun p _=>rfl
theorem psS_P (l:List (ByteArray×ByteArray)):nY (mQ l)=l:=by
 unfold mQ nY
 rw[List.map_map]
 conv=>rhs;rw[←List.map_id l]
 exact List.map_congr_left fun p _=>by
  show(strOf p.1.data.toList,strOf p.2.data.toList)=p
  rw[aG,aG]
def mk (letters:Bool) (M:MT) (B:List UInt8):List UInt8:=made letters M.ty M.sub M.ps B
def bld (letters:Bool) (M:MT) (B:List UInt8):List UInt8×Int:=
 if fD M.ty M.sub M.ps=true then(if 65536<B.length then([],3)else if 65536<(mk letters M B).length then([],3)else if Eb (mk letters M B) M B=true then(mk letters M B,0)else([],2))else([],1)
theorem Ky (letters:Bool) (M:MT) (A:Option Addr) (c:Nat) (A2:Option Addr) (n2 c2:Nat) (B:List UInt8) (w:World) (hM:Mp w M A c) (hB:aY w A2 n2 (ah B)) (hc2:n2≤c2) (hn2:n2≤10000000) (E:Env w)
  (hP:∀w':World,Mp w' M A c→Calls Tryz.prog 187 #[.agg #[.string (strOf M.ty),.string (strOf M.sub),.slice A M.ps.length c]] w' fun e w''=>e=.returned (.string (strOf (dS M.ty M.sub M.ps)))∧Below w'.heap.size w' w'') (hPl:(dS M.ty M.sub M.ps).length≤10000000)
  (hF:MidB (strOf M.ty) (strOf M.sub) (nY M.ps)) (hsz:(mk letters M B).length≤26000∨65536<(mk letters M B).length):
  Calls Tryz.prog 35 #[.agg #[.string (strOf M.ty),.string (strOf M.sub),.slice A M.ps.length c],.slice A2 n2 c2,.bool letters] w fun e w'=>e=.returned (.tuple #[.string (strOf (bld letters M B).1),.int .i64 (bld letters M B).2])∧Below w.heap.size w w':=by
 have HE:=hid E
 have HMP:=hid hM
 have HRB:=hid hB
 have hbl:B.length=n2:=by rw[←aI];exact hB.1
 obtain⟨r,hr⟩:∃r,r=fD M.ty M.sub M.ps:=⟨_,rfl⟩
 have HRI:Hid (∀w:World,Mp w M A c→Calls Tryz.prog 86 #[.agg #[.string (strOf M.ty),.string (strOf M.sub),.slice A M.ps.length c]] w fun e w'=>e=.returned (.bool r)∧Below w.heap.size w w'):=fun w h=>by
  have k:=zi (strOf M.ty) (strOf M.sub) A M.ps.length c (nY M.ps) w h.prm h.nc h.cm hF
  rw[Rj]at k
  rw[hr]
  exact k
 obtain⟨S,hS⟩:∃S,S=strOf (mk letters M B):=⟨_,rfl⟩
 have HWR:Hid (∀w:World,Mp w M A c→aY w A2 n2 (ah B)→Calls Tryz.prog 87 #[.agg #[.string (strOf M.ty),.string (strOf M.sub),.slice A M.ps.length c],.slice A2 n2 c2,.bool letters] w fun e w'=>e=.returned (.string S)∧Below w.heap.size w w'):=fun w h k=>by
  rw[hS]
  exact BuiB.sN letters (strOf M.ty) (strOf M.sub) A M.ps.length c A2 n2 c2 B (dS M.ty M.sub M.ps) w (fun w' hb=>hP w' (h.below hb)) hPl k hc2 hn2
 obtain⟨b,hb0⟩:∃b,b=Eb (mk letters M B) M B:=⟨_,rfl⟩
 have hSd:S.data.toList=mk letters M B:=by rw[hS];rfl
 have XK:S.size=(mk letters M B).length:=by rw[hS,size_strOf]
 have HSY:Hid (S.size≤65536→∀w:World,Mp w M A c→aY w A2 n2 (ah B)→Env w→Calls Tryz.prog 88 #[.string S,.agg #[.string (strOf M.ty),.string (strOf M.sub),.slice A M.ps.length c],.slice A2 n2 c2] w fun e w'=>e=.returned (.bool b)∧Below w.heap.size w w'):=fun hs w h k E=>by
  rw[hb0,←hSd]
  exact ant S M A c A2 n2 c2 B w (by omega) h k E
 obtain⟨R,e,hRe⟩:∃R e,bld letters M B=(R,e):=⟨_,_,rfl⟩
 have HV:Hid ((R,e)=(if r=true then(if 65536<n2 then(([]:List UInt8),(3:Int))else if 65536<S.size then([],3)else if b=true then(S.data.toList,0)else([],2))else([],1))):=by
  show _=_
  rw[←hRe]
  unfold bld
  rw[←hr,hbl,←XK,←hb0,hSd]
 rw[hRe]
 show Calls _ _ _ _ fun e' w'=>e'=.returned (.tuple #[.string (strOf R),.int .i64 e])∧_
 have hSS:S=strOf S.data.toList:=(aG S).symm
 have F9:=hid hSS
 clear hM hB hc2 hn2 E hP hPl hF hsz hbl hr hS hb0 hSd XK hRe hSS
 go_enter Tryz.func35,Tryz.ntmps35
 go_upto_region 1 with(fail)
 generalize bI:World.alloc _ _=v1
 have hxa:B3 44 v1 (w.heap.size) (.string (strOf M.ty)) (.string (strOf M.sub)) (.slice A M.ps.length c):=by rw[←bI];exact heap_alloc_new _ _
 have hb:Below w.heap.size w v1:=by rw[←bI];exact(Below.refl _ _).alloc (Nat.le_refl _) _
 have XM:=hid hxa
 clear bI hxa
 have HB1:=hid hb
 have sO:=hid (HE.out.below hb)
 have TG:=hid (HMP.out.below hb)
 have ake:=hid (HRB.out.below hb)
 clear hb
 obtain⟨m0,m1,m2⟩:=XM.out.facts
 go_wp2_with fail
 clear m0 m1 m2
 refine(HRI.out _ TG.out).mono ?_
 rintro e w2 ⟨rfl,hb⟩
 have HB2:=hid (bel HB1.out hb)
 have xY:=hid (sO.out.below hb)
 have Nz:=hid (TG.out.below hb)
 have agW:=hid (ake.out.below hb)
 have NK:=hid (XM.out.below hb)
 clear hb
 cases r with
 |false=>
  have hv:(R,e)=([],1):=by rw[HV.out];simp
  injection hv with hv1 hv2
  subst hv1 hv2
  go_wp2
  go_ret2
  first|exact⟨rfl,HB2.out⟩|exact⟨by rw[←F9.out],HB2.out⟩
 | true=>
  by_cases hn:65536<n2
  ·
   have hni:(65536:Int)<(n2:Int):=by omega
   have hv:(R,e)=([],3):=by rw[HV.out];simp[hn]
   injection hv with hv1 hv2
   subst hv1 hv2
   go_wp2
   go_ret2
   first|exact⟨rfl,HB2.out⟩|exact⟨by rw[←F9.out],HB2.out⟩
  ·
   have hni:¬(65536:Int)<(n2:Int):=by omega
   obtain⟨m0,m1,m2⟩:=NK.out.facts
   go_wp2_with fail
   clear m0 m1 m2
   refine(HWR.out _ Nz.out agW.out).mono ?_
   rintro e w3 ⟨rfl,hb⟩
   have HB3:=hid (bel HB2.out hb)
   have vV:=hid (xY.out.below hb)
   have Gi:=hid (Nz.out.below hb)
   have akf:=hid (agW.out.below hb)
   have Gq:=hid (NK.out.below hb)
   clear hb
   by_cases hs:65536<S.size
   ·
    have hsi:(65536:Int)<(S.size:Int):=by omega
    have hv:(R,e)=([],3):=by rw[HV.out];simp[hn,hs]
    injection hv with hv1 hv2
    subst hv1 hv2
    go_wp2
    go_ret2
    first|exact⟨rfl,HB3.out⟩|exact⟨by rw[←F9.out],HB3.out⟩
   ·
    have hsi:¬(65536:Int)<(S.size:Int):=by omega
    have MC:=hid (HSY.out (by omega))
    obtain⟨m0,m1,m2⟩:=Gq.out.facts
    go_wp2_with fail
    clear m0 m1 m2
    refine(MC.out _ Gi.out akf.out vV.out).mono ?_
    rintro e w4 ⟨rfl,hb⟩
    have HB4:=hid (bel HB3.out hb)
    have Hw:=hid (vV.out.below hb)
    have NC:=hid (Gi.out.below hb)
    have RB_4:=hid (akf.out.below hb)
    have NM:=hid (Gq.out.below hb)
    clear hb
    cases b with
    |false=>
     have hv:(R,e)=([],2):=by rw[HV.out];simp[hn,hs]
     injection hv with hv1 hv2
     subst hv1 hv2
     go_wp2
     go_ret2
     first|exact⟨rfl,HB4.out⟩|exact⟨by rw[←F9.out],HB4.out⟩
    |true=>
     have hv:(R,e)=(S.data.toList,0):=by rw[HV.out];simp[hn,hs]
     injection hv with hv1 hv2
     subst hv1 hv2
     go_wp2
     go_ret2
     first|exact⟨rfl,HB4.out⟩|exact⟨by rw[←F9.out],HB4.out⟩
end Go.Proofs.YtmpeaoacaecgpaaGreatDoor.aji
namespace Go.Proofs.YtmpeaoacaecgpaaGreatDoor.MimK
open Go.RowKit Base Base2 Regs cO pU qg OW NG OX oG Zu sV BG NH J6 rC CQ
theorem am7 {w:World} {A:Option Addr} {n k:Nat} {l:List (ByteArray×ByteArray)} (h:zH w A n l) (hk:k≤n):zH w A k (l.take k):=
 ⟨by rw[List.length_take,h.1,Nat.min_eq_left hk],fun j hj=>by
  rw[List.length_take]at hj
  obtain⟨b,off,h1,h2,h3,h4⟩:=h.2 j (by omega)
  exact⟨b,off,h1,h2,by rw[List.getElem_take];exact h3,by rw[List.getElem_take];exact h4⟩⟩
theorem alF (l:List (ByteArray×ByteArray)) (n:List UInt8):∃(x:ByteArray),ajt (KH l n)=.tuple #[.string x,.bool (GH n (mQ l))]:=by
 have h:(KH l n).isSome=GH n (mQ l):=by
  rw[Vk]
  unfold GH mQ
  rw[List.any_map]
  rfl
 rw[←h]
 cases KH l n with
 |none=>exact⟨_,rfl⟩
 |some x=>exact⟨_,rfl⟩
theorem Yl (T S : ByteArray) (A : Option Addr) (n cap : Nat) (l : List (ByteArray × ByteArray)) (w : World) (hr : zH w A n l) (hc : n ≤ cap) (hm : cap ≤ maxLen) (hF : vY T S l) :
  Calls Tryz.prog 84 #[.agg #[.string T,.string S,.slice A n cap]] w fun e w'=>e=.returned (.bool (fD T.data.toList S.data.toList (mQ l)))∧Below w.heap.size w w':=by
 unfold maxLen at hm
 obtain⟨hf1,hf2,hf3⟩:=hF
 have hl:l.length=n:=hr.1
 have HL:=hid hl
 have HR0:=hid hr
 have HF:=hid hf3
 have hTs:=fun w=>Aw T w (by omega)
 have XK:=fun w=>Aw S w (by omega)
 obtain⟨V,hV⟩:∃V,V=fD T.data.toList S.data.toList (mQ l):=⟨_,rfl⟩
 rw[←hV]
 obtain⟨tb,htb⟩:∃b,b=RG T.data.toList:=⟨_,rfl⟩
 obtain⟨sb,hsb⟩:∃b,b=RG S.data.toList:=⟨_,rfl⟩
 have hV2:=hV
 unfold fD at hV2
 rw[←htb,←hsb]at hV2
 rw[←htb]at hTs
 rw[←hsb]at XK
 have qc:Hid (∀k,(h:k<l.length)→yU (mQ l) k=false→V=false):=by
  intro k h ho
  rw[hV]
  exact abt h ho _ _
 have HV:Hid (V=(tb&&(sb&&qG (mQ l) n))):=by show _=_;rw[hV2,←hl,←qO l];rfl
 have HTS:=hid hTs
 have F9:=hid XK
 have hn20:n≤20:=by omega
 clear hr hl hV hV2 htb hsb hTs XK hf1 hf3
 go_enter Tryz.func84,Tryz.ntmps84
 go_upto_region 1 with(fail)
 generalize hw1:w.alloc _=w1
 have HB1:Hid (Below w.heap.size w w1):=by show Below _ _ _;rw[←hw1];exact(Below.refl _ _).alloc (Nat.le_refl _) _
 have hx1:B3 44 w1 w.heap.size (.string T) (.string S) (.slice A n cap):=by
  rw[←hw1]
  exact heap_alloc_new w _
 have kP:=hid hx1
 obtain⟨c0,c1,c2⟩:=hx1.facts
 clear hw1 hx1
 go_upto_region 2 with(fail)
 clear c0 c1 c2
 go_loopw [3,4,5,9] (fun _ _ _ vk wr=>∃k:Nat,k≤n∧vk=.int .i64 (k:Int)∧Hid (B3 44 wr w.heap.size (.string T) (.string S) (.slice A n cap))∧Hid (Below w.heap.size w wr)∧Hid (qG (mQ l) k=true)) (fun _ _ _ vk _=>n - (intOf vk).toNat)
 case atStart=>exact⟨0,Nat.zero_le _,rfl,kP.out,HB1.out,rfl⟩
 case round=>
  obtain⟨k,hk,rfl,HX,HB,HK⟩:=hrel
  by_cases hlt:k<n
  ·have hkl : k < l.length := by rw [HL.out]; exact hlt
   obtain⟨b,off,rfl,hb,h1,h2⟩:=(HR0.out.under HB.out (Nat.le_refl _)).2 k hkl
   clear h1 h2
   have HR2:=hid (fun(w':World) (h:Below wr.heap.size wr w')=>(HR0.out.under (bel HB.out h) (Nat.le_refl _)).2 k hkl)
   have hz:=HF.out l[k] (List.getElem_mem hkl)
   have hok:=aaS l k hkl
   have hno:=qc.out k hkl
   obtain⟨s1,hs1⟩:∃s,s=l[k].1:=⟨_,rfl⟩
   obtain⟨s2,hs2⟩:∃s,s=l[k].2:=⟨_,rfl⟩
   rw[←hs1]at HR2 hz hok
   rw[←hs2]at HR2 hz hok
   have hsucc:=Nl (mQ l) k
   rw[HK.out,Bool.true_and]at hsucc
   obtain⟨gx,hgx⟩:=alF (l.take k) s1.data.toList
   rw[show mQ (l.take k)=(mQ l).take k by simp[mQ,List.map_take]]at hgx
   obtain⟨gb,hgb⟩:∃g,g=GH s1.data.toList ((mQ l).take k):=⟨_,rfl⟩
   rw[←hgb]at hgx hok
   have HGX:=hid hgx
   have HR:=hid (am7 HR0.out hk)
   have hsm:=fun w=>Aw s1 w (by omega)
   have hqu:=fun w=>TokU.Ym s2 w (by omega)
   have HG:=hid (fun(w':World) (h:zH w' (some ⟨b,off,none⟩) k (l.take k))=>aes (some ⟨b,off,none⟩) k cap (l.take k) s1 w' h (by omega) (by omega))
   obtain⟨m1,hm1⟩:∃b,b=RG s1.data.toList:=⟨_,rfl⟩
   obtain⟨q2,hq2⟩:∃b,b=CV.quotable s2.data.toList:=⟨_,rfl⟩
   rw[←hm1]at hok hsm
   rw[←hq2]at hok hqu
   have JO:=hid hsm
   have HQU:=hid hqu
   have hki:(k:Int)<(n:Int):=by omega
   have hkc:(k:Int)≤(cap:Int):=by omega
   have HOK:=hid hok
   have acC:=hid hno
   have HSU:=hid hsucc
   clear hs1 hs2 hkl hok hno hsucc hm1 hq2 hsm hqu hz hgx hgb
   go_upto_region 4 with(fail)
   refine aV (by kernel_rfl) [is (.pointer (some ⟨w.heap.size,2,none⟩)),is (.slice (some ⟨b,off,none⟩) n cap),is (.int .i64 (k:Int)),is (.slice (some ⟨b,off,none⟩) k cap),is (.pointer (some ⟨w.heap.size,2,none⟩)),is (.slice (some ⟨b,off,none⟩) n cap),is (.int .i64 (k:Int)),is (.pointer (some ⟨b,off+k*2,none⟩)),is (.pointer (some ⟨b,off+k*2,none⟩)),is (.string s1),is (.tuple #[.string gx,.bool gb]),is (.tuple #[.string gx,.bool gb]),is (.string gx),is (.bool gb),is (.string gx),is (.bool gb)] [[],[0],[],[1,2],[],[4],[],[5,6],[7],[8],[3,9],[10],[11],[11],[12],[13]] (by kernel_rfl) ?_ ?_
   ·refine⟨?_,?_,?_,?_,?_,?_,?_,?_,?_,?_,?_,?_,?_,?_,?_,?_,trivial⟩
    all_goals(intro t wq hbq hh K hK;simp only[filled,upd,Have,is,any,row,pick,Act.put,List.setIfInBounds_toArray,List.set_cons_zero,List.set_cons_succ,Nat.reduceAdd,Nat.reduceEqDiff,reduceIte,List.tail_cons,List.headD_cons]at hh hK⊢;(try simp only[hh]at hK⊢);try clear hh)
    ·go_simp;exact hK _ _ (Below.refl _ _) rfl
    ·obtain⟨c0,c1,c2⟩:=(HX.out.below hbq).facts;go_simp;exact hK _ _ (Below.refl _ _) rfl
    iterate 3 · go_simp;exact hK _ _ (Below.refl _ _) rfl
    ·obtain⟨c0,c1,c2⟩:=(HX.out.below hbq).facts;go_simp;exact hK _ _ (Below.refl _ _) rfl
    iterate 3 · go_simp;exact hK _ _ (Below.refl _ _) rfl
    ·obtain⟨b',off',he,_,h1,h2⟩:=HR2.out _ hbq;injection he with he;injection he with he1 he2;subst he1 he2;go_simp;exact hK _ _ (Below.refl _ _) rfl
    ·go_simp;refine(HG.out _ (HR.out.under (bel HB.out hbq) (Nat.le_refl _))).mono ?_;rintro e w9 ⟨rfl,mG⟩;rw[HGX.out];exact hK _ _ mG rfl
    iterate 5 · go_simp;exact hK _ _ (Below.refl _ _) rfl
   ·intro t wq hbq hh
    have f14:=aB hh 14 (by decide)
    simp only[pick]at f14
    replace f14:t 14=(.string gx):=f14
    have f15:=aB hh 15 (by decide)
    simp only[pick]at f15
    replace f15:t 15=(.bool gb):=f15
    clear hh
    simp only[filled,upd,Have,is,any,row,pick,Act.put,List.setIfInBounds_toArray,List.set_cons_zero,List.set_cons_succ,Nat.reduceAdd,Nat.reduceEqDiff,reduceIte]
    simp only[f14,f15]
    have HXq:=hid (HX.out.below hbq)
    have Et:=hid (bel HB.out hbq)
    have HRq:=hid (fun(w':World) (h:Below wq.heap.size wq w')=>HR2.out w' (bel hbq h))
    clear hbq
    cases gb with
    |true=>
     have HE:Hid (V=false):=acC.out (by rw[HOK.out];simp)
     go_wp2
     go_ret
     exact⟨ak (by rw[HE.out]),Et.out⟩
    | false=>
     have HOK1:Hid (yU (mQ l) k=(m1&&q2)):=by show _=_;rw[HOK.out];simp
     obtain⟨c0,c1,c2⟩:=HXq.out.facts
     obtain⟨b',off',he,_,h1,h2⟩:=HRq.out _ (Below.refl _ _)
     injection he with he
     injection he with he1 he2
     subst he1 he2
     go_wp2_with fail
     clear c0 c1 c2 h1 h2
     refine(JO.out _).mono ?_
     rintro e w5 ⟨rfl,hb5⟩
     have Zk:=hid (HXq.out.below hb5)
     have iG:=hid (bel Et.out hb5)
     obtain⟨c0,c1,c2⟩:=Zk.out.facts
     obtain⟨b',off',he,_,h1,h2⟩:=HRq.out _ hb5
     injection he with he
     injection he with he1 he2
     subst he1 he2
     clear hb5
     cases m1 with
     |false=>
      have HE:Hid (V=false):=acC.out (by rw[HOK1.out];rfl)
      go_wp2
      go_ret
      exact⟨ak (by rw[HE.out]),iG.out⟩
     |true=>
      go_wp2_with fail
      clear c0 c1 c2 h1 h2
      refine(HQU.out _).mono ?_
      rintro e w6 ⟨rfl,hb6⟩
      have HX6:=hid (Zk.out.below hb6)
      have nN:=hid (bel iG.out hb6)
      clear hb6
      cases q2 with
      |false=>
       have HE:Hid (V=false):=acC.out (by rw[HOK1.out];rfl)
       go_wp2
       go_ret
       exact⟨ak (by rw[HE.out]),nN.out⟩
      |true=>
       have HK7:Hid (qG (mQ l) (k+1)=true):=by show _=_;rw[HSU.out,HOK1.out];rfl
       go_wp2
       go_roundw
       case rel=>exact⟨k+1,by omega,by go_num,HX6.out,nN.out,HK7.out⟩
       case measure=>simp[intOf];omega
  ·obtain rfl:k=n:=by omega
   have Zj:Hid (V=(tb&&sb)):=by show _=_;rw[HV.out,HK.out];simp
   obtain⟨c0,c1,c2⟩:=HX.out.facts
   go_wp2_with fail
   clear c0 c1 c2
   refine(HTS.out _).mono ?_
   rintro e w2 ⟨rfl,hb2⟩
   have HB2:=hid (bel HB.out hb2)
   have gY:=hid (HX.out.below hb2)
   clear hb2
   obtain⟨c0,c1,c2⟩:=gY.out.facts
   cases tb with
   |false=>
    have HE:Hid (V=false):=by show _=_;rw[Zj.out];rfl
    go_wp2
    go_ret
    exact⟨ak (by rw[HE.out]),HB2.out⟩
   |true=>
    go_wp2_with fail
    clear c0 c1 c2
    refine(F9.out _).mono ?_
    rintro e w3 ⟨rfl,hb3⟩
    have HB3:=hid (bel HB2.out hb3)
    clear hb3
    go_wp2
    go_ret
    exact⟨ak (by rw[Zj.out];cases sb<;>rfl),HB3.out⟩
end Go.Proofs.YtmpeaoacaecgpaaGreatDoor.MimK
namespace Go.Proofs.YtmpeaoacaecgpaaGreatDoor.ajk
open Go.RowKit Base Base2 cO pU Gn qg NG OX oG sV BG NH rC CQ JY ND
def pp (p:ByteArray×ByteArray):Bool:=decide (p.1.data.toList≠Gt)&&(Uf p.1.data.toList&&p.2.data.toList.all YW)
def ae4 (w:World) (T S:ByteArray) (l:List (ByteArray×ByteArray)) (e:Ending) (w':World):Prop:=∃b:Bool,e=.returned (.bool b)∧(b=true→kR T.data.toList S.data.toList (mQ l)=true)∧Below w.heap.size w w'
theorem aaP (L:List UInt8):Uf L= !(has L 35):=by
 unfold Uf has
 rw[Bool.eq_iff_iff]
 simp only[List.all_eq_true,decide_eq_true_iff,Bool.not_eq_true',List.contains_eq_mem,decide_eq_false_iff_not]
 constructor
 ·intro h hm
  exact h 35 hm rfl
 intro h c hc e
 exact h (e▸hc)
theorem aic {l:List (ByteArray×ByteArray)} (h:∀p ∈ l,pp p=true):Q7 (mQ l)=true:=by
 unfold Q7 mQ
 rw[List.all_map,List.all_eq_true]
 exact h
theorem Jr (T S:ByteArray) (A:Option Addr) (n cap:Nat) (l:List (ByteArray×ByteArray)) (w:World) (hr:zH w A n l) (hc:n≤cap) (hm:cap≤maxLen) (hF:vY T S l):
  Calls Tryz.prog 34 #[.agg #[.string T,.string S,.slice A n cap]] w (ae4 w T S l):=by
 have hRt:∀w:World,zH w A n l→Calls Tryz.prog 84 #[.agg #[.string T,.string S,.slice A n cap]] w fun e w'=>e=.returned (.bool (fD T.data.toList S.data.toList (mQ l)))∧Below w.heap.size w w':=fun w h=>MimK.Yl T S A n cap l w h hc hm hF
 obtain⟨r,hr0⟩:∃r,r=fD T.data.toList S.data.toList (mQ l):=⟨_,rfl⟩
 rw[←hr0]at hRt
 obtain⟨TS,hTS⟩:∃X,X=T.data.toList++S.data.toList:=⟨_,rfl⟩
 obtain⟨f1,f2,f3⟩:=hF
 have hadd:∀w:World,(Op.stringOp .add T S).run Tryz.prog w=.ok (.string (strOf TS)) w:=fun w=>by rw[hTS];exact dL T S w (by omega)
 obtain⟨x,hx⟩:∃x,x=has TS 35:=⟨_,rfl⟩
 have hHs:∀w:World,Calls Tryz.prog 85 #[.string (strOf TS),.int .u8 35] w fun e w'=>e=.returned (.bool x)∧w=w':=fun w=>by
  rw[hx]
  exact kC (strOf TS) 35 w (by rw[size_strOf,hTS,List.length_append];have h1:T.data.toList.length=T.size:=Array.length_toList;have h2:S.data.toList.length=S.size:=Array.length_toList;omega)
 have fin:∀(b:Bool) (w':World),Below w.heap.size w w'→(b=true→r=true∧x=false∧∀p ∈ l,pp p=true)→ae4 w T S l (.returned (.bool b)) w':=fun b w' h hb=>⟨b,rfl,fun e=>by
  obtain⟨h1,h2,h3⟩:=hb e
  unfold kR
  rw[←hr0,h1,aaP,←hTS,←hx,h2,aic h3]
  rfl,h⟩
 have UC:=hid hRt
 have HHS:=hid hHs
 have HAD:=hid hadd
 have FIN:=hid fin
 have hl:l.length=n:=hr.1
 have HL:=hid hl
 have HR:=hid hr
 have HF:=hid f3
 unfold maxLen at hm
 have hn20:n≤20:=by omega
 clear hRt hHs hadd fin hl hr f1 f2 f3 hr0 hTS hx
 go_enter Tryz.func34,Tryz.ntmps34
 go_upto_region 1 with(fail)
 generalize hw1:w.alloc _=w1
 have HB1:Hid (Below w.heap.size w w1):=by show Below _ _ _;rw[←hw1];exact(Below.refl _ _).alloc (Nat.le_refl _) _
 have hx1:B3 44 w1 w.heap.size (.string T) (.string S) (.slice A n cap):=by
  rw[←hw1]
  exact heap_alloc_new w _
 have kP:=hid hx1
 obtain⟨c0,c1,c2⟩:=hx1.facts
 clear hw1 hx1
 go_wp2_with fail
 clear c0 c1 c2
 refine(UC.out _ (HR.out.below HB1.out)).mono ?_
 rintro e w2 ⟨rfl,hb2⟩
 have HB2:=hid (bel HB1.out hb2)
 have gY:=hid (kP.out.below hb2)
 clear hb2 kP
 cases r with
 |false=>
  go_wp2
  go_ret
  exact FIN.out _ _ HB2.out (fun h=>by cases h)
 | true =>
  obtain⟨c0,c1,c2⟩:=gY.out.facts
  have ha:=HAD.out
  go_wp2_with fail
  clear c0 c1 c2 ha
  refine(HHS.out _).mono ?_
  rintro e wx ⟨rfl,hwx⟩
  obtain rfl:w2=wx:=hwx
  cases x with
  |true=>
   go_wp2
   go_ret
   exact FIN.out _ _ HB2.out (fun h=>by cases h)
  | false =>
   obtain⟨c0,c1,c2⟩:=gY.out.facts
   go_wp2
   go_loopw [3,4,5,6,21] (fun _ _ _ _ vk wr=>∃k:Nat,k≤n∧vk=.int .i64 (k:Int)∧Hid (B3 44 wr w.heap.size (.string T) (.string S) (.slice A n cap))∧Hid (Below w.heap.size w wr)∧Hid (∀j (h:j<l.length),j<k→pp l[j]=true)) (fun _ _ _ _ vk _=>n - (intOf vk).toNat)
   case atStart=>exact⟨0,Nat.zero_le _,rfl,gY.out,HB2.out,fun j _ h=>by omega⟩
   case round =>
    clear c0 c1 c2
    obtain⟨k,hk,rfl,HMM,HB,HPP⟩:=hrel
    obtain⟨c0,c1,c2⟩:=HMM.out.facts
    by_cases hlt:k<n
    ·obtain ⟨b, off,rfl,hb,h1,h2⟩:=(HR.out.under HB.out (Nat.le_refl _)).2 k (by rw[HL.out];exact hlt)
     have hkl:k<l.length:=by rw[HL.out];exact hlt
     have hp2:=HF.out l[k] (List.getElem_mem hkl)
     obtain⟨s1,hs1⟩:∃s,s=l[k].1:=⟨_,rfl⟩
     obtain⟨s2,hs2⟩:∃s,s=l[k].2:=⟨_,rfl⟩
     rw[←hs1]at h1 hp2
     rw[←hs2]at h2 hp2
     have HS:Hid (∀h:k<l.length,pp l[k]=(decide (s1.data.toList≠Gt)&&(Uf s1.data.toList&&s2.data.toList.all YW))):=fun h=>by rw[hs1,hs2];rfl
     have hkI:(k:Int)<(n:Int):=by omega
     have HKL:=hid hkl
     have hps1:s1.size≤1073741824:=by omega
     have hps2:s2.size≤1073741824:=by omega
     clear hs1 hs2 hb hkl
     go_upto_region 7 with(fail)
     generalize hw3:World.alloc wr _=w3
     have hxp:B2 98 w3 wr.heap.size (.string s1) (.string s2):=by show B2 _ _ _ _ _;rw[←hw3];exact heap_alloc_new _ _
     have hb3:Below wr.heap.size wr w3:=by rw[←hw3];exact(Below.refl _ _).alloc (Nat.le_refl _) _
     have HXP:=hid hxp
     have HM3:=hid (HMM.out.below hb3)
     have HB3:=hid (bel HB.out hb3)
     obtain⟨z,hz⟩:∃z,z=has s1.data.toList 35:=⟨_,rfl⟩
     have HH2:Hid (∀w:World,Calls Tryz.prog 85 #[.string s1,.int .u8 35] w fun e w'=>e=.returned (.bool z)∧w=w'):=fun w=>by rw[hz];exact kC s1 35 w hps1
     have HZ:=hid hz
     clear hw3 hxp hb3 hz c0 c1 c2 h1 h2 hp2
     obtain⟨d0,d1⟩:=HXP.out.facts
     by_cases hq:s1.data.toList=Gt
     ·have q1:(s1.toList==[98,97,115,101,54,52])=true:=by rw[Lib.toList_data,hq];rfl
      have q2:s1.toList=[98,97,115,101,54,52]:=by rw[Lib.toList_data,hq];rfl
      clear hq
      go_wp2
      go_ret
      exact FIN.out _ _ HB3.out (fun h=>by cases h)
     ·have q1 : (s1.toList==[98,97,115,101,54,52])=false:=by rw[Lib.toList_data,beq_eq_false_iff_ne];exact hq
      have q2:¬s1.toList=[98,97,115,101,54,52]:=by rw[Lib.toList_data];exact hq
      have HQ:=hid hq
      clear hq
      go_wp2_with fail
      clear q1 q2
      refine(HH2.out _).mono ?_
      rintro e wy ⟨rfl,hwy⟩
      obtain rfl:w3=wy:=hwy
      cases z with
      |true=>
       go_wp2
       go_ret
       exact FIN.out _ _ HB3.out (fun h=>by cases h)
      | false =>
       go_wp2
       go_loopw [5,6,40] (fun _ _ vj wr2=>∃i:Nat,i≤s2.size∧vj=.int .i64 (i:Int)∧wr2=w3∧Hid (∀c ∈ s2.data.toList.take i,YW c=true)) (fun _ _ vj _=>s2.size - (intOf vj).toNat)
       case atStart=>exact⟨0,Nat.zero_le _,rfl,rfl,fun c hc=>by simp at hc⟩
       case round =>
        obtain⟨i,hi,rfl,rfl,HV⟩:=hrel
        by_cases hil:i<s2.size
        ·obtain ⟨c,hc⟩:∃c,s2[i]=c:=⟨_,rfl⟩
         have hiI:(i:Int)<(s2.size:Int):=by omega
         have hkl2:i<s2.data.toList.length:=by rw[show s2.data.toList.length=s2.size from Array.length_toList];exact hil
         have hcl:s2.data.toList[i]=c:=hc
         have uQ:Hid (YW c=true→∀d ∈ s2.data.toList.take (i+1),YW d=true):=by
          show _→_
          intro hv d hd
          rw[List.take_succ_eq_append_getElem hkl2,hcl]at hd
          rcases List.mem_append.1 hd with hd|hd
          ·exact HV.out d hd
          ·rw[List.mem_singleton.1 hd];exact hv
         clear hkl2 hcl
         have hc256:=c.toNat_lt
         have ne:∀b:UInt8,c≠b→¬(c.toNat:Int)=(b.toNat:Int):=fun b h e=>h (UInt8.toNat_inj.1 (by omega))
         by_cases hv:YW c=true
         ·obtain⟨v1,v2,v3,v4,v5⟩:=Mc hv
          have g1:¬(c.toNat:Int)<32:=by omega
          have g2:¬(126:Int)<(c.toNat:Int):=by omega
          have g3:¬(c.toNat:Int)=35:=ne 35 v3
          have g4:¬(c.toNat:Int)=44:=ne 44 v4
          have g5:¬(c.toNat:Int)=63:=ne 63 v5
          have b3:((c.toNat:Int)==35)=false:=by rw[beq_eq_false_iff_ne];exact g3
          have b4:((c.toNat:Int)==44)=false:=by rw[beq_eq_false_iff_ne];exact g4
          have b5:((c.toNat:Int)==63)=false:=by rw[beq_eq_false_iff_ne];exact g5
          have Zj:=hid (uQ.out hv)
          clear v1 v2 v3 v4 v5 hv ne hc256
          go_wp2
          go_roundw
          case rel=>exact⟨i+1,by omega,by go_num,by first|rfl|trivial,Zj.out⟩
          case measure=>simp[intOf];omega
         ·have hno:(c.toNat:Int)<32∨(¬(c.toNat:Int)<32∧(126:Int)<(c.toNat:Int))∨(¬(c.toNat:Int)<32∧¬(126:Int)<(c.toNat:Int)∧((c.toNat:Int)=35∨(c.toNat:Int)=44∨(c.toNat:Int)=63)):=by
           by_cases a1:c.toNat<32
           ·exact .inl (by omega)
           ·by_cases a2:126<c.toNat
            ·exact .inr (.inl ⟨by omega,by omega⟩)
            ·refine .inr (.inr ⟨by omega,by omega,?_⟩)
             by_cases a3:c=35
             ·exact .inl (by rw[a3];rfl)
             ·by_cases a4:c=44
              ·exact .inr (.inl (by rw[a4];rfl))
              ·by_cases a5:c=63
               ·exact .inr (.inr (by rw[a5];rfl))
               ·exact(hv (by unfold YW;rw[decide_eq_true_iff];exact⟨by omega,by omega,a3,a4,a5⟩)).elim
          clear hv ne hc256
          rcases hno with g1|⟨g1,g2⟩|⟨g1,g2,g3|g4|g5⟩
          all_goals
           first |have b3:((c.toNat:Int)==35)=true:=by rw[g3];rfl
                 |have b4:((c.toNat:Int)==44)=true:=by rw[g4];rfl
                 |have b5:((c.toNat:Int)==63)=true:=by rw[g5];rfl
                 |skip
           go_wp2
           go_ret
           exact FIN.out _ _ HB3.out (fun h=>by cases h)
        ·obtain rfl:i=s2.size:=by omega
         have HAL:Hid (∀c ∈ s2.data.toList,YW c=true):=fun c hc=>HV.out c (by rw[List.take_of_length_le (by rw[show s2.data.toList.length=s2.size from Array.length_toList];exact Nat.le_refl _)];exact hc)
         have HP2:Hid (∀j (h:j<l.length),j<k+1→pp l[j]=true):=by
          intro j h hj
          by_cases hjk:j<k
          ·exact HPP.out j h hjk
          ·obtain rfl:j=k:=by omega
           rw[HS.out h,decide_eq_true HQ.out,aaP,←HZ.out]
           simp only[Bool.not_false,Bool.true_and]
           rw[List.all_eq_true]
           exact HAL.out
         go_wp2
         go_roundw
         case rel=>exact⟨k+1,by omega,by go_num,HM3.out,HB3.out,HP2.out⟩
         case measure=>simp[intOf];omega
    ·obtain rfl:k=n:=by omega
     have HA:Hid (∀p ∈ l,pp p=true):=by
      intro p hp
      obtain⟨j,hj,rfl⟩:=List.getElem_of_mem hp
      exact HPP.out j hj (by rw[←HL.out];exact hj)
     go_wp2
     go_ret
     exact FIN.out _ _ HB.out (fun _=>by first|exact⟨rfl,rfl,HA.out⟩|simpa using HA.out|exact⟨trivial,rfl,HA.out⟩|exact⟨trivial,trivial,HA.out⟩)
end Go.Proofs.YtmpeaoacaecgpaaGreatDoor.ajk
namespace Go.Proofs.YtmpeaoacaecgpaaGreatDoor.ajj
open Go.RowKit Base Base2 cO PrsP mW wo UG rC qg oG JY Ce YX J7 OY jQ pO vZ acs ND sV BG NH J6 CQ agJ aji
open Go.Proofs.YtmpeaoacaecgpaaGreatDoor.aZ (adw)
theorem bare_uM (R:List UInt8):Bl (uM R)=vX++R:=by
 rw[yD]
 show DATA++[58]++KU (uM R)++R++[]=_
 rw[show KU (uM R)=[]from rfl]
 simp[DATA,vX]
theorem rest_uM (R:List UInt8):Jv (uM R)=R:=by
 have h:=aix (u:=uM R) rfl
 rw[bare_uM]at h
 exact(List.append_cancel_left h).symm
theorem ans_uM {R B:List UInt8} {M:MT} (h:proc R=some (M,B)):Ig (uM R)=(M,B)∧aai (uM R)=0:=by
 have hs:(uM R).au=DATA:=rfl
 unfold Ig aai ans err
 rw[rest_uM,h,if_pos hs,if_pos hs]
 exact⟨rfl,rfl⟩
theorem aey (M:MT):same2 M M=true:=OY.Ls _ _ _
theorem qH (letters:Bool) {M:MT} (B:List UInt8) (h:kR M.ty M.sub M.ps=true):Eb (mk letters M B) M B=true:=by
 have h1:=ab1 letters B h
 obtain⟨h2,h3⟩:=ans_uM (M:=⟨M.ty,M.sub,M.ps⟩) (aij letters B h)
 unfold Eb mk
 rw[h1]
 simp only
 rw[h2,h3]
 have h4:same2 M M=true:=aey M
 simpa using h4
theorem EU {M:MT} (hF:vY (strOf M.ty) (strOf M.sub) (nY M.ps)) {A:Option Addr} {c:Nat} (w:World) (h:Mp w M A c):Calls Tryz.prog 187 #[.agg #[.string (strOf M.ty),.string (strOf M.sub),.slice A M.ps.length c]] w fun e w'=>e=.returned (.string (strOf (dS M.ty M.sub M.ps)))∧Below w.heap.size w w':=by
 have k:=NH.print_any (strOf M.ty) (strOf M.sub) A M.ps.length c (nY M.ps) w h.prm h.nc h.cm hF
 rw[Rj]at k
 exact k
def TP:MT:=⟨[116,101,120,116],[112,108,97,105,110],[]⟩
def AB:MT:=⟨[97],[98],[]⟩
theorem anR:vY (strOf TP.ty) (strOf TP.sub) (nY TP.ps):=⟨by decide,by decide,by intro p hp;cases hp⟩
theorem ab_few:vY (strOf AB.ty) (strOf AB.sub) (nY AB.ps):=⟨by decide,by decide,by intro p hp;cases hp⟩
theorem mp_nil (w:World) (ty sub:List UInt8):Mp w ⟨ty,sub,[]⟩ none 0:=⟨Nat.le_refl _,by decide,rfl,fun j hj=>by cases hj⟩
theorem tp_bld:bld false TP [97,32,98]=([100,97,116,97,58,116,101,120,116,47,112,108,97,105,110,44,97,37,50,48,98],0):=by
 have h:=qH false (M:=TP) [97,32,98] (by decide)
 have e:mk false TP [97,32,98]=[100,97,116,97,58,116,101,120,116,47,112,108,97,105,110,44,97,37,50,48,98]:=by decide+kernel
 unfold bld
 rw[h,e]
 rfl
theorem anQ (A2:Option Addr) (c2:Nat) (w:World) (hB:aY w A2 3 (ah [97,32,98])) (hc:3≤c2) (E:Env w):Calls Tryz.prog 35 #[.agg #[.string ⟨#[116,101,120,116]⟩,.string ⟨#[112,108,97,105,110]⟩,.slice none 0 0],.slice A2 3 c2,.bool false] w fun e w'=>e=.returned (.tuple #[.string ⟨#[100,97,116,97,58,116,101,120,116,47,112,108,97,105,110,44,97,37,50,48,98]⟩,.int .i64 0])∧Below w.heap.size w w':=by
 have k:=Ky false TP none 0 A2 3 c2 [97,32,98] w (mp_nil w _ _) hB hc (by decide) E (fun w' h=>EU anR w' h) (by decide) (J6.vY.mid anR) (.inl (by decide+kernel))
 rw[tp_bld]at k
 exact k
theorem am0 (w:World):Calls Tryz.prog 83 #[.agg #[.string ⟨#[97]⟩,.string ⟨#[98]⟩,.slice none 0 0]] w fun e w'=>e=.returned (.bool true)∧Below w.heap.size w w':=by
 have HRI:Hid (∀w:World,Calls Tryz.prog 86 #[.agg #[.string ⟨#[97]⟩,.string ⟨#[98]⟩,.slice none 0 0]] w fun e w'=>e=.returned (.bool true)∧Below w.heap.size w w'):=fun w=>zi ⟨#[97]⟩ ⟨#[98]⟩ none 0 0 [] w ⟨rfl,fun j hj=>by cases hj⟩ (Nat.le_refl _) (by decide) (J6.vY.mid ab_few)
 have HES:Hid (∀w:World,Calls Tryz.prog 67 #[.agg #[.string ⟨#[97]⟩,.string ⟨#[98]⟩,.slice none 0 0]] w fun e w'=>e=.returned (.string ⟨#[97,47,98]⟩)∧Below w.heap.size w w'):=fun w=>BG.Dn ⟨#[97]⟩ ⟨#[98]⟩ (.slice none 0 0) w (by decide) (by decide)
 have HCO:Hid (∀w:World,Calls Tryz.prog 104 #[.string ⟨#[97,47,98]⟩,.string ⟨#[35]⟩] w fun e w'=>e=.returned (.bool false)∧w=w'):=fun w=>by
  refine(Tryz.strings_Contains_one ⟨#[97,47,98]⟩ 35 w).mono ?_
  rintro e w' ⟨rfl,rfl⟩
  exact⟨rfl,rfl⟩
 go_enter Tryz.func83,Tryz.ntmps83
 go_upto_region 1 with(fail)
 generalize hw1:w.alloc _=w1
 have HB1:Hid (Below w.heap.size w w1):=by show Below _ _ _;rw[←hw1];exact(Below.refl _ _).alloc (Nat.le_refl _) _
 have hx1:B3 44 w1 w.heap.size (.string ⟨#[97]⟩) (.string ⟨#[98]⟩) (.slice none 0 0):=by
  rw[←hw1]
  exact heap_alloc_new w _
 have kP:=hid hx1
 obtain⟨c0,c1,c2⟩:=hx1.facts
 clear hw1 hx1
 go_wp2_with fail
 clear c0 c1 c2
 refine(HRI.out _).mono ?_
 rintro e w2 ⟨rfl,hb2⟩
 have HB2:=hid (bel HB1.out hb2)
 have gY:=hid (kP.out.below hb2)
 clear hb2 kP
 obtain⟨c0,c1,c2⟩:=gY.out.facts
 go_wp2_with fail
 clear c0 c1 c2
 refine(HES.out _).mono ?_
 rintro e w3 ⟨rfl,hb3⟩
 have HB3:=hid (bel HB2.out hb3)
 have jI:=hid (gY.out.below hb3)
 clear hb3 gY
 go_wp2_with fail
 refine(HCO.out _).mono ?_
 rintro e wx ⟨rfl,hwx⟩
 obtain rfl:w3=wx:=hwx
 obtain⟨c0,c1,c2⟩:=jI.out.facts
 go_wp2
 go_loopw [4,16] (fun _ vk wr=>vk=.int .i64 0∧Below w.heap.size w wr) (fun _ _ _=>0)
 case atStart=>exact⟨rfl,HB3.out⟩
 case round=>
  obtain⟨rfl,hbl⟩:=hrel
  go_wp2
  go_ret
  exact⟨rfl,hbl⟩
theorem UN (w:World) (hE:Env w):Calls Tryz.prog 32 #[] w fun e w'=>e=.returned (.bool true)∧Below w.heap.size w w':=by
 obtain⟨OS,hOS⟩:∃S:ByteArray,S=⟨#[100,97,116,97,58,116,101,120,116,47,112,108,97,105,110,44,97,37,50,48,98]⟩:=⟨_,rfl⟩
 have HBD:Hid (∀(A2:Option Addr) (c2:Nat) (w:World),aY w A2 3 (ah [97,32,98])→3≤c2→Env w→Calls Tryz.prog 35 #[.agg #[.string ⟨#[116,101,120,116]⟩,.string ⟨#[112,108,97,105,110]⟩,.slice none 0 0],.slice A2 3 c2,.bool false] w fun e w'=>e=.returned (.tuple #[.string OS,.int .i64 0])∧Below w.heap.size w w'):=fun A2 c2 w h k E=>by rw[hOS];exact anQ A2 c2 w h k E
 have vW:Hid (∀w:World,Calls Tryz.prog 83 #[.agg #[.string ⟨#[97]⟩,.string ⟨#[98]⟩,.slice none 0 0]] w fun e w'=>e=.returned (.bool true)∧Below w.heap.size w w'):=am0
 have hO:OS.toList=[100,97,116,97,58,116,101,120,116,47,112,108,97,105,110,44,97,37,50,48,98]:=by rw[hOS,Lib.toList_data]
 have HE:=hid hE
 have hO2:(OS.toList==[100,97,116,97,58,116,101,120,116,47,112,108,97,105,110,44,97,37,50,48,98])=true:=by rw[hO];rfl
 clear hOS hE
 have kc:=fun(w:World) (C:Array Value) (n c:Nat)=>Lib.run_convert_bytes_const (P:=Tryz.prog) w 45 5 C n c Tryz.underlying45 Tryz.underlying5
 go_enter Tryz.func32,Tryz.ntmps32
 go_wp2_with fail
 have hb:=(Below.refl w.heap.size w).alloc (Nat.le_refl _) (.cells (ah [97,32,98]).toArray 5 (3,4))
 clear kc
 refine(HBD.out _ 3 _ (qF w [97,32,98] 5 (3,4)) (Nat.le_refl _) (HE.out.below hb)).mono ?_
 rintro e w2 ⟨rfl,hb2⟩
 have HB2:=hid (bel hb hb2)
 clear hb2
 go_wp2_with fail
 refine(vW.out _).mono ?_
 rintro e w3 ⟨rfl,hb3⟩
 have HB3:=hid (bel HB2.out hb3)
 clear hb3
 go_wp2
 go_ret
 exact⟨rfl,HB3.out⟩
end Go.Proofs.YtmpeaoacaecgpaaGreatDoor.ajj
namespace Go.Proofs.YtmpeaoacaecgpaaGreatDoor.Laws
open Go.RowKit Base Base2 cO PrsP mW wo UG rC qg oG JY Ce YX J7 OY jQ pO vZ acs ND NH sV BG J6 CQ agJ aji
open Go.Proofs.YtmpeaoacaecgpaaGreatDoor.aZ (adw)
open Go.Proofs.YtmpeaoacaecgpaaGreatDoor.ajj (EU)
theorem Lm {M:MT} (h:vY (strOf M.ty) (strOf M.sub) (nY M.ps)):(dS M.ty M.sub M.ps).length≤20000:=by
 obtain⟨h1,h2,h3⟩:=h
 have:=Yc h3 (nY M.ps).length (Nat.le_refl _)
 rw[ae2,Rj]at this
 have h4:=afp (strOf M.ty) (strOf M.sub)
 have h5:(ess M.ty M.sub).length=(strOf M.ty).size+(strOf M.sub).size+1:=h4
 unfold dS
 rw[List.length_append,h5]
 omega
theorem KW (letters:Bool) {M:MT} (h:vY (strOf M.ty) (strOf M.sub) (nY M.ps)) (B:List UInt8) (hB:B.length≤500):(mk letters M B).length≤26000:=by
 have h1:=Lm h
 unfold mk made zf Em
 cases letters with
 |true=>
  rw[if_pos rfl,List.length_append,List.length_append,List.length_append,List.length_cons,acp.XC]
  show 5+(_+(7+_))≤_
  omega
 |false=>
  rw[if_neg (by decide),List.length_append,List.length_append,List.length_cons]
  have:=BuiA.Qg B
  show 5+_≤_
  omega
theorem anq {N M:MT} (h:same2 N M=true):N=M:=by
 unfold same2 J7.Jz at h
 rw[Bool.and_eq_true,Bool.and_eq_true,decide_eq_true_iff,decide_eq_true_iff,decide_eq_true_iff]at h
 obtain⟨h1,h2,h3⟩:=h
 have g:∀a b:List UInt8,strOf a=strOf b→a=b:=fun a b e=>by have:=congrArg (fun s:ByteArray=>s.data.toList) e;exact this
 have h4:N.ps=M.ps:=by rw[←Rj N.ps,h3,Rj]
 cases N;cases M
 simp only[MT.mk.injEq]
 exact⟨g _ _ h1,g _ _ h2,h4⟩
theorem abw {s:List UInt8} {M:MT} {B:List UInt8} (h:Eb s M B=true):∃u,PrsP.url s none=some u∧aai u=0∧Ig u=(M,B):=by
 unfold Eb at h
 cases e:PrsP.url s none with
 |none=>rw[e]at h;cases h
 |some u=>
  rw[e]at h
  simp only[Bool.and_eq_true,decide_eq_true_iff]at h
  obtain⟨h1,h2,h3⟩:=h
  refine⟨u,rfl,h1,?_⟩
  rw[←anq h2,←h3]
end Go.Proofs.YtmpeaoacaecgpaaGreatDoor.Laws
namespace Go.Proofs.YtmpeaoacaecgpaaGreatDoor.Shs
open Go.RowKit Base
variable {H:Type} {enc:TypeId×Value→H}
theorem wrap {a:Assume} {C:Checked} {os:Os} {f:FuncId} {fn:Func} {s:ChangeSpec} {conds:List PathCond} {apart fresh handsOn again:Bool} {X:World→Array Value→Prop}
  (hX:∀(w w':World) (args:Array Value),w.heap=w'.heap→X w args→X w' args)
  (own:ownKnob C.prog.godebug=none) (started:os.Started) (noInit:C.prog.inits.idxOf? f=none) (hfn:C.prog.funcs[f]?=some fn)
  (witness:∃(w:World) (tape:Tape) (i:Input),w.os=os∧(w.forCall tape i).Shaped C.prog∧i.vars=[]∧Input.okWide C.prog (w.forCall tape i) .any w.heap.size f i∧
   ((s.pre enc C.prog fn conds apart (w.forCall tape i).memory i.args∧X (w.forCall tape i).memory i.args)∧sizedMet enc C.prog fn (OpenSpec.ofChange s) apart (w.forCall tape i).memory i.args)∧a.holds C.prog (lone (Frame.enter C.prog f i.args .normal) [] (w.forCall tape i)))
  (contract:∀(W:World) (base:Nat) (args:Array Value) (ds gs:List (DataW H)) (before:List MemPlace),
   (∀(j:Nat) t v,fn.params[j]?=some t→args[j]?=some v→Value.okWide C.prog W .any base t v)→
   DataW.Whole enc C.prog fn.params.toList s.vars apart W args.toList ds gs before→
   conds.all (PathCond.test C.prog ⟨fn.params.toList,ds,s.plain.varTypes C.prog,gs⟩)=true→
   (DataW.weightsEach C.prog (fn.params.toList++s.plain.varTypes C.prog) (ds++gs)).all (·≤reachBytes)=true→X W args→W.ShapedOpen C.prog→
   a.holds C.prog (lone (Frame.enter C.prog f args .normal) [] W)→
   Calls C.prog f args W fun e W'=>∃v,e=.returned v∧s.post enc C.prog fn apart fresh handsOn again W args v W'):
  ReturnsInHanded a C os f .any (fun w args=>(s.pre enc C.prog fn conds apart w args∧X w args)∧sizedMet enc C.prog fn (OpenSpec.ofChange s) apart w args) (s.post enc C.prog fn apart fresh handsOn again):=by
 refine returnsInHanded_of_calls own started noInit witness ?_
 intro w tape i _ hsh _ hok hpre hholds
 obtain⟨_,_,_,fn',hfn',_,_,_,_,hval⟩:=hok
 have e:fn'=fn:=Option.some.inj (hfn'.symm.trans hfn)
 subst e
 obtain⟨⟨⟨ds,gs,before,hw,hc⟩,hx⟩,hz⟩:=hpre
 have hw':=DataW.Whole.of_heap (w':=w.forCall tape i) (by rfl) hw
 refine(contract (w.forCall tape i) w.heap.size i.args ds gs before hval hw' hc (hz.weights hw) (hX _ _ _ (by rfl) hx) hsh hholds).mono fun e W' ⟨v,he,hp⟩=>?_
 subst he
 exact ChangeSpec.post_blind hp
theorem max_of {w:World} (h:w.ShapedOpen Tryz.prog):pO.Max w:=Go.Proofs.cell_of_shapedOpen_int (zero:=#[.int .i64 0]) (t:=3) h (of_decide_eq_true (by kernel_rfl)) (by kernel_rfl) rfl (by kernel_rfl) (by kernel_rfl) Tryz.underlying3
end Go.Proofs.YtmpeaoacaecgpaaGreatDoor.Shs
namespace Go.Proofs.YtmpeaoacaecgpaaGreatDoor.rD
open Go.RowKit Go.Lib
theorem utab_of {W:World} {l:List (String×DataW Unit)} (h:laidMet Tryz.prog l W) (h1:("unicode/utf8.first",firstData) ∈ l) (h2:("unicode/utf8.acceptRanges",acceptData) ∈ l):vZ.rD W:=
 utf8Tabs_of_reads (ρ:=Tryz.l237_ren) {Tryz.l237 with} ⟨by kernel_rfl,by kernel_rfl,by kernel_rfl,by kernel_rfl,by kernel_rfl,by kernel_rfl,by kernel_rfl⟩ (Lib.laidMet.reads h h1) (Lib.laidMet.reads h h2)
end Go.Proofs.YtmpeaoacaecgpaaGreatDoor.rD
