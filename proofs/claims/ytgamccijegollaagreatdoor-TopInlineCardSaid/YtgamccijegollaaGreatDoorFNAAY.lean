/- Texts that belong together: apZ. -/
import Derived.Test.YtgamccijegollaaGreatDoorFNAAV
import Derived.Test.YtgamccijegollaaGreatDoorFNAAU
set_option linter.unusedSimpArgs false
set_option linter.unusedVariables false
set_option maxRecDepth 100000
set_option maxHeartbeats 64000000
namespace Go.Proofs.YtgamccijegollaaGreatDoor.apZ
open Go.RowKit Base Dp mW wS tK UG acs ajr aoa apO StkF
open Go.Proofs.YtgamccijegollaaGreatDoor.sV (dS)
theorem aqo {T:List UInt8} {u:U} (ho:wS.url T none=some u) (hl:T.length≤20000) (hs:WV.qI u=0) (M:qg.MT) (B:List UInt8) (ha:Ig u=(M,B)) (her:aai u=0) (pv:Option Addr) (sp:Value) (s h:ByteArray) (p n:Int) (w:World) (E:Env w):
  Calls Tryz.prog 48 #[.pointer pv,.string (strOf T),.agg #[.string s,.string h,.int .i64 p,.int .i64 n],sp] w fun e w'=>∃A2 c2,e=.returned (.agg #[.int .i64 0,.int .i64 200,.int .i64 0,.int .i64 (B.length:Int),.string (strOf (dS M.ty M.sub M.ps)),.slice A2 B.length c2])∧Bp w' B A2 c2∧Below w.heap.size w w':=by
 refine(aoD pv sp _ s h p n (fun cs a=>∃A2 c2,cs=#[.int .i64 0,.int .i64 200,.int .i64 0,.int .i64 (B.length:Int),.string (strOf (dS M.ty M.sub M.ps)),.slice A2 B.length c2]∧Bp a B A2 c2) (fun cs a g ds q hab _ _=>by obtain⟨A2,c2,h1,h2⟩:=q;exact⟨A2,c2,h1,h2.nc,h2.cm,Jp hab h2.zB⟩) (hid fun w1 hb1 _=>(aok ho hl hs M B ha her _ sp s h p n w1 (E.below hb1)).mono fun e w2 ⟨A2,c2,h1,h2,h3⟩=>⟨_,h1,rfl,by simp[Value.oneCell'],h3,A2,c2,rfl,h2⟩)).mono ?_
 rintro e w' ⟨cs,rfl,_,hb,A2,c2,rfl,h2⟩
 exact⟨A2,c2,rfl,h2,hb⟩
theorem sf_no {T:List UInt8} {u:U} (ho:wS.url T none=some u) (hl:T.length≤20000) (hs:WV.qI u=0) (M:qg.MT) (B:List UInt8) (ha:Ig u=(M,B)) (er:Int) (her:aai u=er) (h0:(er==0)=false) (pv:Option Addr) (sp:Value) (s h:ByteArray) (p n:Int) (w:World) (E:Env w):
  Calls Tryz.prog 48 #[.pointer pv,.string (strOf T),.agg #[.string s,.string h,.int .i64 p,.int .i64 n],sp] w fun e w'=>∃A2 c2,e=.returned (.agg #[.int .i64 0,.int .i64 0,.int .i64 0,.int .i64 0,.string ⟨#[]⟩,.slice A2 0 c2])∧Bp w' [] A2 c2∧Below w.heap.size w w':=by
 refine(aoD pv sp _ s h p n (fun cs a=>∃A2 c2,cs=#[.int .i64 0,.int .i64 0,.int .i64 0,.int .i64 0,.string ⟨#[]⟩,.slice A2 0 c2]∧Bp a [] A2 c2) (fun cs a g ds q hab _ _=>by obtain⟨A2,c2,h1,h2⟩:=q;exact⟨A2,c2,h1,h2.nc,h2.cm,Jp hab h2.zB⟩) (hid fun w1 hb1 _=>(apn ho hl hs M B ha er her h0 _ sp s h p n w1 (E.below hb1)).mono fun e w2 ⟨A2,c2,h1,h2,h3⟩=>⟨_,h1,rfl,by simp[Value.oneCell'],h3,A2,c2,rfl,h2⟩)).mono ?_
 rintro e w' ⟨cs,rfl,_,hb,A2,c2,rfl,h2⟩
 exact⟨A2,c2,rfl,h2,hb⟩
end Go.Proofs.YtgamccijegollaaGreatDoor.apZ
