/- Texts that belong together: PosX, StkX. -/
import Derived.Test.YtmpeaoacaecgpaaGreatDoorYAT
import Derived.Test.YtmpeaoacaecgpaaGreatDoorYAV
import Derived.Test.YtmpeaoacaecgpaaGreatDoorYAP
import Derived.Test.YtmpeaoacaecgpaaGreatDoorYAW
set_option linter.unusedSimpArgs false
set_option linter.unusedVariables false
set_option maxRecDepth 100000
set_option maxHeartbeats 64000000
namespace Go.Proofs.YtmpeaoacaecgpaaGreatDoor.PosX
open Go.RowKit Base Base2 sW yu O1 Zw PrsP wo mW
open Go.Proofs.YtmpeaoacaecgpaaGreatDoor.pR (seg EY tX)
open Go.Proofs.YtmpeaoacaecgpaaGreatDoor.PosP (DY Wy VN)
open Go.Proofs.YtmpeaoacaecgpaaGreatDoor.pO (Max)
open Go.Proofs.YtmpeaoacaecgpaaGreatDoor.UG (Pt Env)
theorem aao:∀l:List (List UInt8),(aZ.aO (l.map fun x=>strOf (seg x))).length≤3*(glue 47 l).length
 |[]=>Nat.zero_le _
 |x::l=>by
  have ih:=aao l
  have h:=EY x
  have e1:aZ.aO ((x::l).map fun x=>strOf (seg x))=(47::seg x)++aZ.aO (l.map fun x=>strOf (seg x)):=rfl
  have e2:glue 47 (x::l)=(47::x)++glue 47 l:=rfl
  rw[e1,e2,List.length_append,List.length_append,List.length_cons,List.length_cons]
  omega
theorem head_drop {L:List UInt8} (h:L.head?=some 47):47::L.drop 1=L:=by
 match L,h with
 |c::r,h=>
  injection h with h
  rw[h]
  rfl
structure Fin (L:List UInt8) (u:U):Prop where
 eq:u=DY (spl 47 (L.drop 1))
 url:YI L=some ((spl 47 (L.drop 1)).map seg)
 len:(aZ.aO u.aO).length≤3*L.length
 print:(fQ u).length≤3*L.length+10
 again:PrsP.url (fQ u) none=some u
 back:wZ u.au u.hst u.opq u.aO=(L,0)
theorem fin_of {L:List UInt8} (h:fine L=true):Fin L (DY (spl 47 (L.drop 1))):=by
 obtain⟨h1,h2,h3,h4⟩:=(aal L).1 h
 have hg:glue 47 (spl 47 (L.drop 1))=L:=by rw[yJ,head_drop h2]
 have hcomp:∀x ∈ spl 47 (L.drop 1),Wy x:=fun x hx=>⟨fun c hc=>(OC 47 _ x hx c hc).2,(KZ h4 x hx).1,(KZ h4 x hx).2⟩
 have hlen:(aZ.aO (DY (spl 47 (L.drop 1))).aO).length≤3*L.length:=by
  have:=aao (spl 47 (L.drop 1))
  rw[hg]at this
  exact this
 refine⟨rfl,by unfold YI;rw[if_pos h],hlen,?_,VN (Ee 47 _) hcomp,?_⟩
 ·have e:fQ (DY (spl 47 (L.drop 1)))=[102,105,108,101,58,47,47]++aZ.aO (DY (spl 47 (L.drop 1))).aO:=by
   unfold fQ aZ.Ar aZ.wH
   show[102,105,108,101]++[58]++[47,47]++aZ.aO (DY (spl 47 (L.drop 1))).aO++[]++[]=_
   simp
  rw[e,List.length_append]
  simp only[List.length_cons,List.length_nil]
  omega
 have e1:DN (DY (spl 47 (L.drop 1))).aO=L:=by
  conv=>rhs;rw[←hg]
  unfold DN DY glue
  rw[List.flatMap_map]
  congr 1
  funext x
  show 47::fU.dec (seg x)=47::x
  rw[tX]
 have e2:xJ (DY (spl 47 (L.drop 1))).aO=true:=by
  unfold xJ DY
  rw[List.all_map,List.all_eq_true]
  intro x hx
  show(!(fU.dec (seg x)).contains 47)=true
  rw[tX]
  cases e:x.contains 47 with
  |false=>rfl
  |true=>
   have hm:(47:UInt8) ∈ x:=by simpa using e
   exact absurd rfl ((hcomp x hx).1 47 hm)
 unfold wZ ET
 rw[e1,e2,h,if_neg (by rintro(h|h);exact h rfl;cases h),if_neg (fun h=>h rfl),if_pos ⟨rfl,rfl⟩]
theorem path_u (u:U) (A:Option Addr) (n c:Nat) (w:World) (hP:Pt w u A n c) (hl:(aZ.aO u.aO).length≤899999) (E:Env w):Calls Tryz.prog 96 #[.agg #[.string (strOf u.au),.string (strOf u.usr),.string (strOf u.pwd),.string (strOf u.hst),.bool u.hh,.int .i64 u.port,.bool u.opq,.string (strOf u.txt),.slice A n c,.bool u.hq,.bool u.hf,.string (strOf u.dY),.string (strOf u.fB)]] w fun e w'=>e=.returned (.tuple #[.string (strOf (wZ u.au u.hst u.opq u.aO).1),.int .i64 (wZ u.au u.hst u.opq u.aO).2])∧Below w.heap.size w w':=
 DU (strOf u.au) (strOf u.usr) (strOf u.pwd) (strOf u.hst) u.hh u.port u.opq (strOf u.txt) A n c u.aO u.hq u.hf (strOf u.dY) (strOf u.fB) w hP.aO.1 hP.aO.2.1 hP.aO.2.2 hl E.max
end Go.Proofs.YtmpeaoacaecgpaaGreatDoor.PosX
namespace Go.Proofs.YtmpeaoacaecgpaaGreatDoor.StkX
open Go.RowKit Base Base2 O1 ES PrsP oN wo mW UG
theorem VG:gG.all (·.oneCell')=true:=by simp[gG,Value.oneCell']
theorem abO {T:ByteArray} {u:U} (hF:PosX.Fin T.data.toList u) (hs:T.size≤900000) (w:World) (E:Env w):Calls Tryz.prog 38 #[.int .i64 0,.string T] w fun e w'=>e=.returned (.tuple #[.string (strOf (fQ u)),.int .i64 0])∧Below w.heap.size w w':=by
 have BX:(aZ.aO u.aO).length≤1073741824:=by have:=hF.len;rw[UG.dl]at this;omega
 have k:=StkW.anP T _ hF.url hs (by rw[List.map_map];have e:=hF.eq;rw[e]at BX;exact BX) w ⟨E.pow,E.max⟩
 have e:fQ u=O4.DZ [] ((sW.spl 47 (T.data.toList.drop 1)).map pR.seg):=by rw[hF.eq];unfold O4.DZ;rw[List.map_map];rfl
 rw[e]
 exact k
theorem abN {T:ByteArray} (hf:yu.fine T.data.toList=false) (hs:T.size≤900000) (w:World) (E:Env w):Calls Tryz.prog 38 #[.int .i64 0,.string T] w fun e w'=>e=.returned (.tuple #[.string ⟨#[]⟩,.int .i64 2])∧Below w.heap.size w w':=by
 have ho:O1.YI T.data.toList=none:=by unfold O1.YI;rw[hf];rfl
 have HU:Hid (∀w:World,Env w→Calls Tryz.prog 93 #[.string T] w fun e w'=>e=.returned (.tuple #[.agg #[.string ⟨#[]⟩,.string ⟨#[]⟩,.string ⟨#[]⟩,.string ⟨#[]⟩,.bool false,.int .i64 0,.bool false,.string ⟨#[]⟩,.slice none 0 0,.bool false,.bool false,.string ⟨#[]⟩,.string ⟨#[]⟩],.int .i64 2])∧Below w.heap.size w w'):=fun w E=>O4.SI ho hs w ⟨E.pow,E.max⟩
 have HE:=hid E
 clear E hs ho hf
 go_enter Tryz.func38,Tryz.ntmps38
 go_upto_region 2 with(fail)
 generalize bI:World.alloc w _=v1
 have h1_:Bx v1 w.heap.size gG∧Below w.heap.size w v1:=by
  subst bI
  exact laid w _ _
 clear bI
 have Tj:=hid h1_.1
 have HB1:=hid h1_.2
 clear h1_
 go_wp2_with fail
 refine(HU.out _ (HE.out.below HB1.out)).mono ?_
 rintro e v2 ⟨rfl,hb2⟩
 have XU2:=hid (Tj.out.below hb2)
 have HB2:=hid (bel HB1.out hb2)
 have sQ:Hid (w.heap.size<v1.heap.size):=Tj.out.lt
 clear Tj HB1 hb2
 go_upto_region 7 with(refine pJ XU2.out gG rfl rfl VG (.tmp 6) (.tmp 15) rfl rfl rfl rfl ?_)
 have hx:=XU2.out.row gG
 have hb:=below_setRow HB2.out (Nat.le_refl _) gG
 generalize World.setRow v2 _ _=v3 at hx hb⊢
 have ZG:=hid hx
 have HB3:=hid hb
 clear hx hb XU2 HB2
 go_wp2
 go_ret2
 exact⟨rfl,HB3.out⟩
theorem toPathP {T:ByteArray} {u:U} (ho:PrsP.url T.data.toList none=some u) (hs:T.size≤65536) (hl:(aZ.aO u.aO).length≤899999) (w:World) (E:Env w):Calls Tryz.prog 39 #[.int .i64 0,.string T] w fun e w'=>e=.returned (.tuple #[.string (strOf (Zw.wZ u.au u.hst u.opq u.aO).1),.int .i64 (Zw.wZ u.au u.hst u.opq u.aO).2])∧Below w.heap.size w w':=by
 obtain⟨V,hV⟩:∃V,(Zw.wZ u.au u.hst u.opq u.aO)=V:=⟨_,rfl⟩
 have TB:Hid (∀(A:Option Addr) (n c:Nat) (w:World),Pt w u A n c→Env w→Calls Tryz.prog 96 #[.agg #[.string (strOf u.au),.string (strOf u.usr),.string (strOf u.pwd),.string (strOf u.hst),.bool u.hh,.int .i64 u.port,.bool u.opq,.string (strOf u.txt),.slice A n c,.bool u.hq,.bool u.hf,.string (strOf u.dY),.string (strOf u.fB)]] w fun e w'=>e=.returned (.tuple #[.string (strOf V.1),.int .i64 V.2])∧Below w.heap.size w w'):=fun A n c w hP E=>by rw[←hV];exact PosX.path_u u A n c w hP hl E
 have yc:Hid (∀w,Env w→Calls Tryz.prog 16 #[.string T,.pointer none] w fun e w'=>∃A' n' c',e=.returned (.tuple #[.agg #[.string (strOf u.au),.string (strOf u.usr),.string (strOf u.pwd),.string (strOf u.hst),.bool u.hh,.int .i64 u.port,.bool u.opq,.string (strOf u.txt),.slice A' n' c',.bool u.hq,.bool u.hf,.string (strOf u.dY),.string (strOf u.fB)],.int .i64 0])∧Pt w' u A' n' c'∧Below w.heap.size w w'):=fun w E=>jB ho hs w E
 have HE:=hid E
 rw[hV]
 clear ho hs hl E hV
 go_enter Tryz.func39,Tryz.ntmps39
 go_wp2_with fail
 refine(yc.out _ HE.out).mono ?_
 rintro e w1 ⟨A1,n1,c1,rfl,hpt,hb⟩
 have HB1:=hid hb
 have sO:=hid (HE.out.below hb)
 clear hb
 have T1:=hid (hpt)
 clear hpt
 go_upto_region 4 with(fail)
 generalize bI:World.alloc _ _=v2
 have hxa:UB v2 (w1.heap.size) u (.slice A1 n1 c1):=by rw[←bI];exact heap_alloc_new _ _
 have hb:Below w1.heap.size w1 v2:=by rw[←bI];exact(Below.refl _ _).alloc (Nat.le_refl _) _
 have X1:=hid hxa
 clear bI hxa
 have HB2:=hid (bel HB1.out hb)
 have xY:=hid (sO.out.below hb)
 have WY:=hid (T1.out.below hb)
 clear hb
 obtain⟨TU,ka1,TV,TW,TY,Ua,Ub,Uc,ka8,Ud,xK,xM,xO⟩:=X1.out.facts
 go_wp2_with fail
 clear TU ka1 TV TW TY Ua Ub Uc ka8 Ud xK xM xO
 refine(TB.out _ _ _ _ WY.out xY.out).mono ?_
 rintro e w3 ⟨rfl,hb⟩
 have HB3:=hid (bel HB2.out hb)
 have vV:=hid (xY.out.below hb)
 have zJ:=hid (WY.out.below hb)
 have acW:=hid (X1.out.below hb)
 clear hb
 go_wp2
 go_ret2
 exact⟨rfl,HB3.out⟩
end Go.Proofs.YtmpeaoacaecgpaaGreatDoor.StkX
