/- Texts that belong together: WQ, oN, NJ, wo, UrlB, Pg, UG, J6, J7, OY. -/
import Derived.Test.YtmpeaoacaecgpaaGreatDoorXAQ
import Derived.Test.YtmpeaoacaecgpaaGreatDoorXAM
import Derived.Test.YtmpeaoacaecgpaaGreatDoorXAO
import Derived.Test.YtmpeaoacaecgpaaGreatDoorXAJ
import Derived.Test.YtmpeaoacaecgpaaGreatDoorXAL
import Derived.Test.YtmpeaoacaecgpaaGreatDoorXAE
import Derived.Test.YtmpeaoacaecgpaaGreatDoorXAN
import Derived.Test.YtmpeaoacaecgpaaGreatDoorShelf
import Derived.Test.YtmpeaoacaecgpaaGreatDoorXAI
import Derived.Test.YtmpeaoacaecgpaaGreatDoorXAH
import Derived.Deep.DeepCutAuto
import Derived.Test.YtmpeaoacaecgpaaGreatDoorXAP
import Derived.Test.YtmpeaoacaecgpaaGreatDoorXAC
import Derived.BigQuiet
import Derived.Laws.StructEq
import Derived.Deep.QuietTactic
set_option linter.unusedSimpArgs false
set_option linter.unusedVariables false
set_option maxRecDepth 100000
set_option maxHeartbeats 64000000
namespace Go.Proofs.YtmpeaoacaecgpaaGreatDoor.WQ
open Go.RowKit Base Regs Base2 dI cO PthG PthH PthJ UrlA PrsP yw tN Fp mW Pbx tK yx jQ sU pO acr vZ TI akb
theorem Kv (C:List UInt8):(PrsP.apart C).rest.length≤C.length∧(PrsP.apart C).dY.length≤C.length∧(PrsP.apart C).fB.length≤C.length:=by
 have h1:=rH 35 C
 have h2:=rH 63 (fG 35 C).1
 have h3:=rH 58 (fG 63 (fG 35 C).1).1
 unfold PrsP.apart
 simp only
 split
 ·refine⟨?_,?_,?_⟩<;>simp only<;>omega
 refine⟨?_,?_,?_⟩<;>simp only<;>omega
theorem Gy (u:U) (p:Parts):(PrsP.finish u p).aO=u.aO:=by
 cases h1:p.hq<;>cases h2:p.hf<;>simp[PrsP.finish,h1,h2]
theorem aiw {fn:Func} {a b:Tmp} {w:World} {g:Nat} {u:U} {p:Value} (h:fn.results=#[.cell a 25,.tmp b]) (hU:UB w g u p) (z:Int) (tmps:Array Value) (h2:tmps.getD a undef=.pointer (some ⟨g,0,none⟩)) (h3:tmps.getD b undef=.int .i64 z):
  (results fn tmps).run Tryz.prog w=.ok (.tuple #[.agg (cells u p),.int .i64 z]) w:=by
 have hp':tmps[a]?.getD undef=.pointer (some ⟨g,0,none⟩):=by simpa using h2
 have hq':tmps[b]?.getD undef=.int .i64 z:=by simpa using h3
 simp[results,h,hp',hq',asAddr,hU.load]
def xC (w:World) (o:Option U) (e:Ending) (w':World):Prop:=Below w.heap.size w w'∧∃A n c,e=.returned (.tuple #[.agg (cells (o.getD U0) (.slice A n c)),.int .i64 (if o.isSome=true then 0 else 2)])∧Own w w' (o.getD U0) A n c
theorem GY (T:List UInt8) (w:World) (hs:T.length≤65536) (hL:oI w) (hT:Tab.Pow w) (hM:Max w) (hU:rD w):Calls Tryz.prog 16 #[.string (strOf T),.pointer none] w (xC w (PrsP.url T none)):=by
 have hcl:=yF T
 obtain⟨C,hC⟩:∃x,x=clean T:=⟨_,rfl⟩
 rw[←hC]at hcl
 obtain⟨p,hp⟩:∃x,x=PrsP.apart C:=⟨_,rfl⟩
 have hpl:=Kv C
 rw[←hp]at hpl
 obtain⟨OR,hOR⟩:∃x,x=PrsP.resolve p none:=⟨_,rfl⟩
 obtain⟨OU,hOU⟩:∃x,x=PrsP.url T none:=⟨_,rfl⟩
 have HOU:Hid (OU=OR.map fun u=>PrsP.finish u p):=by show _=_;rw[hOU];unfold PrsP.url;rw[←hC,←hp,←hOR]
 rw[←hOU]
 have HCL:Hid (∀w:World,rD w→Calls Tryz.prog 19 #[.string (strOf T)] w fun e w'=>e=.returned (.string (strOf C))∧Below w.heap.size w w'):=fun w h=>by rw[hC];exact clean_any T w (by omega) h
 have HAP:Hid (∀w:World,Max w→Calls Tryz.prog 49 #[.string (strOf C)] w fun e w'=>e=.returned (.agg (bQ p))∧Below w.heap.size w w'):=fun w h=>by rw[hp];exact qm C w (by omega) h
 have HRS:Hid (∀w:World,oI w→Tab.Pow w→Max w→Calls Tryz.prog 50 #[.agg (bQ p),.pointer none] w (mO w OR)):=fun w a c d=>by rw[hOR];exact Yq p w (by omega) a c d
 have WC:Hid (∀(u:U) (A:Option Addr) (n c:Nat) (w:World),Calls Tryz.prog 51 #[.agg (cells u (.slice A n c)),.agg (bQ p)] w fun e w'=>e=.returned (.agg (cells (PrsP.finish u p) (.slice A n c)))∧Below w.heap.size w w'):=fun u A n c w=>Gx u p A n c w (by omega) (by omega)
 have hTI:¬((strOf T).size:Int)>65536:=by rw[size_strOf];omega
 have hTI2:((strOf T).size:Int)≤65536:=by omega
 have HL:=hid hL
 have HT:=hid hT
 have HM:=hid hM
 have HUT:=hid hU
 clear hOU hOR hp hC hL hT hM hU hpl hcl
 obtain⟨s,rt,q,f,hq,hf⟩:=p
 go_enter Tryz.func16,Tryz.ntmps16
 go_upto_region 1 with(fail)
 generalize hw:World.alloc w _=w1
 have h1:UB w1 (w.heap.size) (U0) (.slice none 0 0)∧Below w.heap.size w w1:=by
  subst hw
  exact laid1 w _ _
 clear hw
 have bP:Hid (w.heap.size≤w.heap.size):=(Below.refl w.heap.size w).size
 have bM:=hid (bel (Below.refl w.heap.size w) h1.2)
 have aW:=hid h1.1
 clear h1
 go_wp2_with fail
 refine(HCL.out _ (HUT.out.below bM.out)).mono ?_
 rintro e w2 ⟨rfl,hbx⟩
 have bK:=hid (aW.out.below hbx)
 have eX:=hid (bel bM.out hbx)
 clear aW bM
 clear hbx
 go_wp2_with fail
 refine(HAP.out _ (HM.out.below eX.out)).mono ?_
 rintro e w3 ⟨rfl,hbx⟩
 have bD:=hid (bK.out.below hbx)
 have cZ:=hid (bel eX.out hbx)
 clear bK eX
 clear hbx
 rw[show Value.agg (bQ ⟨s,rt,q,f,hq,hf⟩)=.agg #[.string (strOf s),.string (strOf rt),.string (strOf q),.string (strOf f),.bool hq,.bool hf]from rfl]
 go_upto_region 4 with(fail)
 generalize hw:World.alloc w3 _=w4
 have h1:PB w4 (w3.heap.size) (⟨s,rt,q,f,hq,hf⟩)∧Below w3.heap.size w3 w4:=by
  subst hw
  exact laid1 w3 _ _
 clear hw
 have hlr:=bD.out.lt
 have J9:Hid (w.heap.size≠w3.heap.size):=by show _≠_;omega
 have J8:Hid (w3.heap.size≠w.heap.size):=by show _≠_;omega
 clear hlr
 have WL:Hid (w.heap.size≤w3.heap.size):=cZ.out.size
 have bF:=hid (bD.out.below h1.2)
 have dD:=hid (bel cZ.out h1.2)
 have kT:=hid h1.1
 clear bD cZ
 clear h1
 obtain⟨p0,p1,p2,p3,p4,p5⟩:=kT.out.facts
 go_wp2_with fail
 clear p0 p1 p2 p3 p4 p5
 refine(HRS.out _ (HL.out.below dD.out) (bY HT.out dD.out) (HM.out.below dD.out)).mono ?_
 rintro e w5 ⟨hbx,u',A',n',c',ok,rfl,hown,yK⟩
 have iy:Hid (w.heap.size<w4.heap.size):=bF.out.lt
 have Ib:Hid (w.heap.size≤w4.heap.size):=dD.out.size
 have bH:=hid (bF.out.below hbx)
 have mF:=hid (kT.out.below hbx)
 have fC:=hid (bel dD.out hbx)
 have F8:=hid yK
 have ajR:=hid (show Own w4 w5 u' A' n' c' from hown)
 clear yK hown
 clear bF kT dD
 clear hbx
 rw[show Value.agg (cells u' (.slice A' n' c'))=.agg #[.string (strOf u'.au),.string (strOf u'.usr),.string (strOf u'.pwd),.string (strOf u'.hst),.bool u'.hh,.int .i64 u'.port,.bool u'.opq,.string (strOf u'.txt),.slice A' n' c',.bool u'.hq,.bool u'.hf,.string (strOf u'.dY),.string (strOf u'.fB)]from rfl]
 go_upto_region 5 with(fail)
 generalize hw:World.alloc w5 _=w6
 have h1:UB w6 (w5.heap.size) (u') (.slice A' n' c')∧Below w5.heap.size w5 w6:=by
  subst hw
  exact laid1 w5 _ _
 clear hw
 have hlr:=bH.out.lt
 have aX:Hid (w.heap.size≠w5.heap.size):=by show _≠_;omega
 have nO:Hid (w5.heap.size≠w.heap.size):=by show _≠_;omega
 clear hlr
 have hlp:=mF.out.lt
 have jf:Hid (w3.heap.size≠w5.heap.size):=by show _≠_;omega
 have Ko:Hid (w5.heap.size≠w3.heap.size):=by show _≠_;omega
 clear hlp
 have fK:Hid (w.heap.size≤w5.heap.size):=fC.out.size
 have bT:=hid (bH.out.below h1.2)
 have yg:=hid (mF.out.below h1.2)
 have gq:=hid (bel fC.out h1.2)
 have bG:=hid h1.1
 have HBU:=hid h1.2
 clear bH mF fC
 clear h1
 skip
 cases ok with
 |false=>
  have qc:Hid (OU=none):=by
   show _=_
   rcases F8.out with⟨_,h⟩|⟨h,_⟩
   ·cases h
   rw[HOU.out,h];rfl
  go_wp2_with (refine aC bT.out U0 none 0 0 (.tmp 4) (.tmp 24) rfl rfl rfl rfl ?_)
  try simp only[Exit.inBlock,Exit.then]
  refine bodyPost_ret (w:=World.setRow w6 w.heap.size (cells U0 (.slice none 0 0))) (aiw (u:=U0) (p:=.slice none 0 0) rfl (bT.out.row U0 _) 2 _ rfl rfl) rfl ?_
  rw[qc.out]
  exact⟨below_setRow gq.out bP.out _,none,0,0,rfl,wY _ _ rfl⟩
 |true=>
  have HSO:Hid (OU=some (PrsP.finish u' ⟨s,rt,q,f,hq,hf⟩)):=by
   show _=_
   rcases F8.out with⟨h,_⟩|⟨_,h,_⟩
   ·rw[HOU.out,h];rfl
   cases h
  have hfp:(PrsP.finish u' ⟨s,rt,q,f,hq,hf⟩).aO=u'.aO:=Gy _ _
  obtain⟨d0,d1,d2,d3,d4,d5,d6,d7,d8,d9,d10,d11,d12⟩:=bG.out.facts
  obtain⟨p0,p1,p2,p3,p4,p5⟩:=yg.out.facts
  go_wp2_with fail
  clear d0 d1 d2 d3 d4 d5 d6 d7 d8 d9 d10 d11 d12
  clear p0 p1 p2 p3 p4 p5
  skip
  have Tf:Hid (Below w5.heap.size w5 w6):=HBU.out
  refine(WC.out u' A' n' c' _).mono ?_
  rintro e w7 ⟨rfl,hbx⟩
  have dQ:=hid (bT.out.below hbx)
  have HXpw7:=hid (yg.out.below hbx)
  have dO:=hid (bG.out.below hbx)
  have iU:=hid (bel gq.out hbx)
  clear bT yg bG gq
  have ajv:=hid hbx
  clear hbx
  have hwn:=(ajR.out.below Tf.out).below ajv.out
  go_wp2_with (refine aC dQ.out (PrsP.finish u' ⟨s,rt,q,f,hq,hf⟩) A' n' c' (.tmp 4) (.tmp 27) rfl rfl rfl rfl ?_)
  try simp only[Exit.inBlock,Exit.then]
  have ho:=(hwn.row iy.out (cells (PrsP.finish u' ⟨s,rt,q,f,hq,hf⟩) (.slice A' n' c'))).base Ib.out
  refine bodyPost_ret (w:=World.setRow w7 w.heap.size (cells (PrsP.finish u' ⟨s,rt,q,f,hq,hf⟩) (.slice A' n' c'))) (aiw (u:=PrsP.finish u' ⟨s,rt,q,f,hq,hf⟩) (p:=.slice A' n' c') rfl (dQ.out.row _ _) 0 _ rfl rfl) rfl ?_
  rw[HSO.out]
  exact⟨below_setRow iU.out bP.out _,A',n',c',rfl,by show Own _ _ (PrsP.finish u' ⟨s,rt,q,f,hq,hf⟩) _ _ _;unfold Own;rw[hfp];exact ho⟩
end Go.Proofs.YtmpeaoacaecgpaaGreatDoor.WQ
namespace Go.Proofs.YtmpeaoacaecgpaaGreatDoor.oN
open Go.RowKit Base cO PthP PthE WR PthG PthJ UrlA HstP PrsP agU
def pl (l:List ByteArray):Nat:=(aZ.aO l).length
structure Fit (u:U) (N:Nat):Prop where
 all:u.au.length+u.usr.length+u.pwd.length+u.hst.length+u.txt.length+u.dY.length+u.fB.length+pl u.aO≤N
 lo: -1≤u.port
 hi:u.port≤65535
theorem Fit.mono {u:U} {N M:Nat} (h:Fit u N) (hm:N≤M):Fit u M:=⟨Nat.le_trans h.all hm,h.lo,h.hi⟩
theorem Q5:pl []=0:=rfl
theorem X9 (l:List ByteArray) (s:ByteArray):pl (l++[s])=pl l+1+s.size:=by
 unfold pl
 rw[aZ.abf,List.length_append,List.length_cons,show s.data.toList.length=s.size from Array.length_toList]
 omega
theorem af6 (l:List ByteArray) (k:Nat):pl (l.take k)≤pl l:=by
 unfold pl
 rw[aZ.fM,aZ.fM,List.length_take]
 have:=aZ.pK l k
 omega
theorem aed (f:Bool) (l:List ByteArray):pl (mM f l)≤pl l:=by
 unfold mM
 split
 ·exact Nat.le_refl _
 exact af6 _ _
theorem wr_len (f:Bool) (L:List UInt8):(wr f L).length≤3*L.length+1:=by
 unfold wr
 split
 ·simp only[List.length_append,List.length_take,List.length_cons,List.length_nil];omega
 have:=EscE.iW 4 L;omega
theorem amX (f last:Bool) (l:List ByteArray) (L:List UInt8):pl (Hu f last l L)≤pl l+3*L.length+2:=by
 have h0:(strOf ([]:List UInt8)).size=0:=rfl
 have h1:=aed f l
 unfold Hu
 split
 ·split
  ·rw[X9,h0];omega
  omega
 split
 ·split
  ·rw[X9,h0];omega
  omega
 have:=wr_len (f&&l.isEmpty) L
 rw[X9,size_strOf]
 omega
theorem amY (f sp:Bool):∀(M:List UInt8) (l:List ByteArray) (b:List UInt8),pl (wb f sp l b M)≤pl l+3*(b.length+M.length)+2*(M.length+1)
 |[],l,b=>by
  have:=amX f true l b
  unfold wb
  simp only[List.length_nil]
  omega
 |c::M,l,b=>by
  unfold wb
  split
  ·have h1:=amY f sp M (Hu f false l b) []
   have h2:=amX f false l b
   simp only[List.length_nil,List.length_cons]at h1⊢
   omega
  ·have h1:=amY f sp M l (b++[c])
   simp only[List.length_append,List.length_nil,List.length_cons]at h1⊢
   omega
theorem EP (au:List UInt8) (l:List ByteArray) (s:List UInt8):pl (walk au l s)≤pl l+5*s.length+2:=by
 have:=amY (decide (au=FILE)) (special au) s l []
 unfold walk
 simp only[List.length_nil]at this
 omega
theorem yV (au s:List UInt8):pl (rooted au s)≤5*s.length+2:=by
 unfold rooted
 split
 ·rw[Q5];omega
 have h:=EP au [] (if rU (special au) s 0=true then s.drop 1 else s)
 have h2:(if rU (special au) s 0=true then s.drop 1 else s).length≤s.length:=by
  split
  ·rw[List.length_drop];omega
  exact Nat.le_refl _
 rw[Q5]at h
 omega
theorem zT (b:UInt8):∀L:List UInt8,(fG b L).1.length≤L.length∧(fG b L).2.1.length≤L.length
 |[]=>by simp[fG]
 |c::L=>by
  have h:=zT b L
  unfold fG
  split
  ·simp
  ·simp only[List.length_cons]
   omega
theorem Ip (b:UInt8):∀L:List UInt8,(fG b L).1.length+(fG b L).2.1.length≤L.length
 |[]=>by simp[fG]
 |c::L=>by
  have h:=Ip b L
  unfold fG
  split
  ·simp
  ·simp only[List.length_cons]
   omega
theorem QF:∀(L:List UInt8) (p:List UInt8×List UInt8),nV L=some p→p.1.length+p.2.length+1≤L.length
 |[],p,h=>by cases h
 | c :: L, p, h => by
  unfold nV at h
  split at h
  ·rename_i q hq
   have:=QF L q hq
   cases h
   simp only[List.length_cons]
   omega
  ·split at h
   ·cases h
    simp
   ·cases h
theorem ak1 (s:List UInt8):(jL s).1.length+(jL s).2.1.length+3*(jL s).2.2.1.length≤3*s.length:=by
 unfold jL
 split
 ·simp
 rename_i p hp
 have h1:=QF s p hp
 have h2:=Ip 58 p.1
 have h3:=EscE.iW 5 (fG 58 p.1).1
 have h4:=EscE.iW 5 (fG 58 p.1).2.1
 simp only
 omega
theorem prt_fit {au d:List UInt8} {z:Int} (h:prt au d=some z): -1≤z∧z≤65535:=by
 unfold prt at h
 split at h
 ·cases h;omega
 split at h
 ·split at h
  ·cases h;omega
  split at h
  ·cases h;omega
  cases h
 cases h
theorem qQ {au s:List UInt8} {u:U} {N:Nat} (h:authority au s=some u) (hN:au.length+5*s.length+300≤N):Fit u N:=by
 unfold authority at h
 obtain⟨_,h⟩:=jY h
 obtain⟨_,h⟩:=jY h
 have hw:(s.take (upto (special au) s)).length+(s.drop (upto (special au) s)).length=s.length:=by rw[List.length_take,List.length_drop];omega
 have hc:=ak1 (s.take (upto (special au) s))
 have hh:=tN.EJ (jL (s.take (upto (special au) s))).2.2.1 false
 have hr:=yV au (s.drop (upto (special au) s))
 split at h
 ·rename_i H p e1 e2
  have h1:=J5.aaA e1
  have h2:=prt_fit e2
  cases h
  refine⟨?_,h2.1,h2.2⟩
  simp only[U0,List.length_nil]
  omega
 cases h
theorem adK {b:U} {N M:Nat} (hb:Fit b M) (l:List ByteArray) (hl:M+pl l≤N):Fit {aH b with aO:=l} N:=by
 have:=hb.all
 refine⟨?_,hb.lo,hb.hi⟩
 simp only[aH,U0,List.length_nil]
 omega
theorem Dv {b:U} {N M:Nat} (hb:Fit b M) (l:List ByteArray) (hl:M+(pl l - pl b.aO)≤N):Fit {aH b with aO:=l} N:=by
 have:=hb.all
 refine⟨?_,hb.lo,hb.hi⟩
 simp only[aH,U0,List.length_nil]
 omega
theorem UK {b:U} {M:Nat} (hb:Fit b M):Fit (along (aH b) b) M:=by
 have:=hb.all
 refine⟨?_,hb.lo,hb.hi⟩
 simp only[along,aH,U0,List.length_nil]
 omega
theorem Ju {r:List UInt8} {b u:U} {N M:Nat} (h:relative r b=some u) (hb:Fit b M) (hN:M+5*r.length+300≤N):Fit u N:=by
 have hd:=List.length_drop (i:=2) (l:=r)
 have hw:=(List.dropWhile_sublist (gB true) (l:=r.drop 2)).length_le
 unfold relative at h
 split at h
 ·refine qQ h ?_
  have:=hb.all
  split<;>omega
 injection h with h
 subst h
 split
 ·have:=yV b.au r
  exact adK hb _ (by omega)
 split
 ·exact(UK hb).mono (by omega)
 have h1:=EP b.au (mM false b.aO) r
 have h2:=aed false b.aO
 exact Dv hb _ (by omega)
theorem SC (l:List ByteArray) {N:Nat} (H:List UInt8) (hl:4+pl l+H.length≤N):Fit {uF with hst:=H,aO:=l} N:=by
 refine⟨?_,?_,?_⟩<;>simp[uF,U0,FILE]
 omega
theorem far_fit {s:List UInt8} {u:U} {N:Nat} (h:far s=some u) (hN:5*s.length+300≤N):Fit u N:=by
 have h1:=yV FILE s
 have h2:=yV FILE (s.drop (upto true s))
 have h3:(s.take (upto true s)).length+(s.drop (upto true s)).length=s.length:=by rw[List.length_take,List.length_drop];omega
 unfold far at h
 split at h
 ·cases h;exact SC _ [] (by simp only[List.length_nil];omega)
 split at h
 ·cases h;exact SC _ [] (by simp only[List.length_nil];omega)
 split at h
 ·cases h
 rename_i H e
 have h5:=J5.aaA e
 cases h
 refine SC _ _ ?_
 split
 ·simp only[List.length_nil];omega
 omega
theorem aak {r:List UInt8} {base:Option U} {u:U} {N M:Nat} (h:file r base=some u) (hb:∀b,base=some b→Fit b M) (hN:M+5*r.length+300≤N):Fit u N:=by
 unfold file at h
 split at h
 ·refine far_fit h ?_
  rw[List.length_drop];omega
 split at h
 ·injection h with h
  subst h
  have h1:∀(q:Prop) [Decidable q] (x:List ByteArray),pl (if q then x.take 1 else[])≤pl x:=by
   intro q _ x
   split
   ·exact af6 _ _
   rw[Q5];omega
  have hd:=List.length_drop (i:=1) (l:=r)
  cases base with
  |none=>
   have h2:=EP FILE (if nrm ((Option.elim none [] U.aO).head?.elim [] fun x=>x.data.toList)=true∧JR (r.drop 1)=false then(Option.elim none [] U.aO).take 1 else[]) (r.drop 1)
   have h3:=h1 (nrm ((Option.elim none [] U.aO).head?.elim [] fun x=>x.data.toList)=true∧JR (r.drop 1)=false) (Option.elim none [] U.aO)
   have h4:pl (Option.elim none [] U.aO)=0:=rfl
   exact SC _ [] (by simp only[List.length_nil];omega)
  |some b=>
   have hb:=hb b rfl
   have h2:=EP FILE (if nrm ((Option.elim (some b) [] U.aO).head?.elim [] fun x=>x.data.toList)=true∧JR (r.drop 1)=false then(Option.elim (some b) [] U.aO).take 1 else[]) (r.drop 1)
   have h3:=h1 (nrm ((Option.elim (some b) [] U.aO).head?.elim [] fun x=>x.data.toList)=true∧JR (r.drop 1)=false) (Option.elim (some b) [] U.aO)
   have h4:pl (Option.elim (some b) [] U.aO)=pl b.aO:=rfl
   exact Dv hb _ (by omega)
 split at h
 ·injection h with h
  subst h
  have h1:pl (if JR r=true then[]else mM true [])=0:=by split<;>rfl
  have h2:=EP FILE (if JR r=true then[]else mM true []) r
  exact SC _ [] (by simp only[List.length_nil];omega)
 rename_i b
 have hb:=hb b rfl
 split at h
 ·injection h with h
  subst h
  exact(UK hb).mono (by omega)
 injection h with h
 subst h
 have h1:pl (if JR r=true then[]else mM true b.aO)≤pl b.aO:=by
  split
  ·rw[Q5];omega
  exact aed _ _
 have h2:=EP FILE (if JR r=true then[]else mM true b.aO) r
 exact Dv hb _ (by omega)
theorem opq_len (m:Bool) (s:List UInt8):(PrsP.opq m s).length≤3*s.length+3:=by
 have h:=EscE.iW 0 s
 unfold PrsP.opq Lib.trimSuffix
 split
 ·rw[List.length_append]
  split
  ·rw[List.length_take];simp only[List.length_cons,List.length_nil];omega
  simp only[List.length_cons,List.length_nil];omega
 omega
theorem aie {p:Parts} {u:U} {N:Nat} (h:PrsP.plain p=some u) (hN:p.au.length+5*p.rest.length+300≤N):Fit u N:=by
 have hd:=List.length_drop (i:=2) (l:=p.rest)
 unfold PrsP.plain at h
 split at h
 ·exact qQ h (by omega)
 split at h
 ·injection h with h
  subst h
  have h1:=yV p.au p.rest
  refine⟨?_,?_,?_⟩<;>simp[U0]
  omega
 injection h with h
 subst h
 have h1:=opq_len (p.hq||p.hf) p.rest
 refine⟨?_,?_,?_⟩<;>simp[U0,Q5]
 omega
theorem abq {p:Parts} {base:Option U} {u:U} {N M:Nat} (h:PrsP.resolve p base=some u) (hb:∀b,base=some b→Fit b M) (hN:M+p.au.length+5*p.rest.length+300≤N):Fit u N:=by
 have hw:=(List.dropWhile_sublist (gB true) (l:=p.rest)).length_le
 unfold PrsP.resolve at h
 split at h
 ·refine aak h (fun b e=>hb b ?_) (by omega)
  cases base with
  |none=>cases e
  |some c=>
   simp only[Option.filter]at e
   split at e
   ·exact e
   cases e
 split at h
 ·split at h
  ·split at h
   ·exact Ju h (hb _ rfl) (by omega)
   exact qQ h (by omega)
  exact qQ h (by omega)
 split at h
 ·exact aie h (by omega)
 split at h
 ·cases h
 rename_i b
 have hb1:=hb b rfl
 split at h
 ·unfold rY at h
  obtain⟨_,h⟩:=jY h
  injection h with h
  subst h
  exact hb1.mono (by omega)
 split at h
 ·exact aak h (fun c e=>by injection e with e;subst e;exact hb1) (by omega)
 exact Ju h hb1 (by omega)
theorem ady {u:U} {p:Parts} {N M:Nat} (h:Fit u M) (hN:M+3*p.dY.length+3*p.fB.length≤N):Fit (finish u p) N:=by
 have h1:=EscE.iW (if special u.au=true then 3 else 2) p.dY
 have h2:=EscE.iW 1 p.fB
 obtain⟨a,b,c⟩:=h
 unfold finish
 cases p.hq<;>cases p.hf<;>refine⟨?_,?_,?_⟩<;>simp only[if_true,if_false,Bool.false_eq_true]<;>first|assumption|omega
theorem ag5 (C:List UInt8):(PrsP.apart C).au.length+(PrsP.apart C).rest.length+(PrsP.apart C).dY.length+(PrsP.apart C).fB.length≤C.length:=by
 have h1:=Ip 35 C
 have h2:=Ip 63 (fG 35 C).1
 have h3:=Ip 58 (fG 63 (fG 35 C).1).1
 unfold PrsP.apart
 simp only
 split
 ·simp only[lower,List.length_map];omega
 simp only[List.length_nil];omega
theorem AZ {s:List UInt8} {base:Option U} {u:U} {M:Nat} (h:PrsP.url s base=some u) (hb:∀b,base=some b→Fit b M):Fit u (M+15*s.length+300):=by
 have h1:=acr.yF s
 have h2:=ag5 (clean s)
 unfold PrsP.url at h
 obtain⟨v,hv,rfl⟩:=Option.map_eq_some_iff.1 h
 exact ady (abq (N:=M+(PrsP.apart (clean s)).au.length+5*(PrsP.apart (clean s)).rest.length+300) hv hb (Nat.le_refl _)) (by omega)
end Go.Proofs.YtmpeaoacaecgpaaGreatDoor.oN
namespace Go.Proofs.YtmpeaoacaecgpaaGreatDoor.NJ
open Go.RowKit Base dI cO PthP PthE WR PthG PthJ UrlA HstP J5 PrsP agU acK zD
theorem eP (L:List UInt8) (d c:UInt8):Lib.hasSuffix (L++[d]) [c]=decide (d=c):=by
 rw[Bool.eq_iff_iff]
 unfold Lib.hasSuffix
 rw[List.isSuffixOf_iff_suffix,decide_eq_true_iff]
 constructor
 ·rintro⟨t,e⟩
  exact(List.append_inj' e rfl).2|>fun h=>(List.cons.inj h).1.symm
 rintro rfl
 exact⟨L,rfl⟩
theorem jC (L:List UInt8):L=[]∨∃M d,L=M++[d]:=by
 rcases List.eq_nil_or_concat L with h|⟨M,d,h⟩
 ·exact .inl h
 exact .inr ⟨M,d,by simpa using h⟩
end Go.Proofs.YtmpeaoacaecgpaaGreatDoor.NJ
namespace Go.Proofs.YtmpeaoacaecgpaaGreatDoor.wo
open Go.RowKit Base dI cO oO wu WU akq PthP PthE WR PthG PthJ UrlA HstP WJ J5 PrsP agU acK NJ zD
def KU (u:U):List UInt8:=aZ.ug (strOf u.usr) (strOf u.pwd) (strOf u.hst) u.hh u.port u.opq u.aO
def Bl (u:U):List UInt8:=aZ.wH (strOf u.au) (strOf u.usr) (strOf u.pwd) (strOf u.hst) u.hh u.port u.opq (strOf u.txt) u.aO u.hq (strOf u.dY)
theorem yD (u:U):Bl u=u.au++[58]++KU u++aZ.pF u.opq (strOf u.txt) u.aO++(if u.hq then 63::u.dY else[]):=rfl
def HC (c:UInt8):Prop:=c≠47∧c≠92∧c≠64∧c≠63∧c≠35∧33≤c.toNat∧c.toNat≤126
instance (c:UInt8):Decidable (HC c):=by unfold HC;exact inferInstance
theorem Dc {T:List UInt8} (h:∀c ∈ T,32≤c.toNat∧c.toNat≤126) (h1:∃c t,T=c::t∧fO c=false) (h2:Lib.hasSuffix T [32]=false):clean T=T:=by
 have e:ED T=T:=oL T fun c hc=>by have:=(h c hc).2;omega
 have et:ru T=T:=by
  obtain⟨c,t,rfl,hc⟩:=h1
  unfold ru
  rw[List.dropWhile_cons_of_neg (by rw[hc];simp)]
  rcases jC (c::t)with hx|⟨M,d,hx⟩
  ·cases hx
  rw[hx]at h h2⊢
  rw[eP,decide_eq_false_iff_not]at h2
  have hd:fO d=false:=by
   have:=(h d (by simp)).1
   unfold fO
   rw[decide_eq_false_iff_not]
   intro h3
   exact h2 (UInt8.toNat_inj.1 (by show d.toNat=32;omega))
  rw[List.reverse_append]
  show((d::M.reverse).dropWhile fO).reverse=_
  rw[List.dropWhile_cons_of_neg (by rw[hd];simp)]
  simp
 rw[rG,e,et,List.filter_eq_self.2 fun c hc=>?_]
 have:=(h c hc).1
 unfold brk
 have h9:c≠9:=by rintro rfl;revert this;decide
 have h10:c≠10:=by rintro rfl;revert this;decide
 have h13:c≠13:=by rintro rfl;revert this;decide
 simp[h9,h10,h13]
end Go.Proofs.YtmpeaoacaecgpaaGreatDoor.wo
namespace Go.Proofs.YtmpeaoacaecgpaaGreatDoor.UrlB
open Go.RowKit Base Base2 aZ Wx
theorem qL (B b:Nat) (l:List UInt8) (w:World) (h:lq B b l w) (hBw:B≤w.heap.size):
  Calls Tryz.prog 155 #[.pointer (some ⟨b,0,none⟩)] w fun e w'=>e=.returned (.string (strOf l))∧Below B w w':=Tryz.Builder_String B b l w h hBw
theorem ak0 (s0:ByteArray) (s1:ByteArray) (s2:ByteArray) (s3:ByteArray) (b4:Bool) (z5:Int) (b6:Bool) (s7:ByteArray) (A:Option Addr) (n cap:Nat) (l:List ByteArray) (b9:Bool) (b10:Bool) (s11:ByteArray) (s12:ByteArray) (w:World) (h1:s1.size≤1073741824) (h2:s2.size≤1073741824):
  Calls Tryz.prog 162 #[.agg #[.string s0,.string s1,.string s2,.string s3,.bool b4,.int .i64 z5,.bool b6,.string s7,.slice A n cap,.bool b9,.bool b10,.string s11,.string s12]] w fun e w'=>e=.returned (.string (strOf (lD s1 s2)))∧Below w.heap.size w w':=by
 have hl1:s1.data.toList.length=s1.size:=Array.length_toList
 have hl2:s2.data.toList.length=s2.size:=Array.length_toList
 by_cases e2:s2.data.toList=[]
 ·have q2:s2.toList=[]:=by rw[tl];exact e2
  have HC:Hid (lD s1 s2=if s1.data.toList=[]then[]else s1.data.toList++[64]):=if_pos e2
  by_cases e1:s1.data.toList=[]
  ·have q1:s1.toList=[]:=by rw[tl];exact e1
   have HC2:Hid (lD s1 s2=[]):=HC.out.trans (if_pos e1)
   clear e1 e2 hl1 hl2
   go_enter Tryz.func162,Tryz.ntmps162
   go_wp2
   go_ret
   exact⟨by rw[HC2.out];rfl,(Below.refl _ _).alloc (Nat.le_refl _) _⟩
  ·have q1:(s1.toList==[])=false:=by rw[tl];simpa using e1
   have q1':s1.toList.isEmpty=false:=by rw[tl];simpa using e1
   have HC2:Hid (lD s1 s2=s1.data.toList++[64]):=HC.out.trans (if_neg e1)
   have a1:∀w:World,(Op.stringOp .add s1 ⟨#[64]⟩).run Tryz.prog w=.ok (.string (strOf (s1.data.toList++[64]))) w:=fun w=>dL s1 ⟨#[64]⟩ w (by show s1.size+1≤_;omega)
   clear e1 e2 hl1 hl2
   go_enter Tryz.func162,Tryz.ntmps162
   go_wp2
   go_ret
   exact⟨by rw[HC2.out];rfl,(Below.refl _ _).alloc (Nat.le_refl _) _⟩
 ·have q2:(s2.toList==[])=false:=by rw[tl];simpa using e2
  have q2':s2.toList.isEmpty=false:=by rw[tl];simpa using e2
  have HC:Hid (lD s1 s2=s1.data.toList++[58]++s2.data.toList++[64]):=if_neg e2
  obtain⟨X,hX⟩:∃X,X=strOf (s1.data.toList++[58]):=⟨_,rfl⟩
  obtain⟨Y,hY⟩:∃Y,Y=strOf (s1.data.toList++[58]++s2.data.toList):=⟨_,rfl⟩
  have a1:∀w:World,(Op.stringOp .add s1 ⟨#[58]⟩).run Tryz.prog w=.ok (.string X) w:=fun w=>by rw[hX];exact dL s1 ⟨#[58]⟩ w (by show s1.size+1≤_;omega)
  have a2:∀w:World,(Op.stringOp .add X s2).run Tryz.prog w=.ok (.string Y) w:=fun w=>by rw[hX,hY];exact dL _ s2 w (by rw[size_strOf,List.length_append];simp;omega)
  have a3:∀w:World,(Op.stringOp .add Y ⟨#[64]⟩).run Tryz.prog w=.ok (.string (strOf (lD s1 s2))) w:=fun w=>by rw[HC.out,hY];exact dL _ ⟨#[64]⟩ w (by rw[size_strOf];simp;show _+1≤_;omega)
  clear e2 hl1 hl2 hX hY
  go_enter Tryz.func162,Tryz.ntmps162
  go_wp2
  go_ret
  exact⟨rfl,(Below.refl _ _).alloc (Nat.le_refl _) _⟩
theorem DU (s0:ByteArray) (s1:ByteArray) (s2:ByteArray) (s3:ByteArray) (b4:Bool) (z5:Int) (b6:Bool) (s7:ByteArray) (A:Option Addr) (n cap:Nat) (l:List ByteArray) (b9:Bool) (b10:Bool) (s11:ByteArray) (s12:ByteArray) (w:World) (hR:aY w A n (l.map Value.string)) (hnc:n≤cap) (hcm:cap≤maxLen) (h7:s7.size≤1073741824) (hl:(aO l).length≤1073741824):
  Calls Tryz.prog 64 #[.agg #[.string s0,.string s1,.string s2,.string s3,.bool b4,.int .i64 z5,.bool b6,.string s7,.slice A n cap,.bool b9,.bool b10,.string s11,.string s12]] w fun e w'=>e=.returned (.string (strOf (pF b6 s7 l)))∧Below w.heap.size w w':=by
 have hn:l.length=n:=by rw[←hR.1,List.length_map]
 have hpl:=fM l
 unfold maxLen at hcm
 cases b6 with
 |true=>
  clear hn hpl
  have HR:=hid hR
  clear hR
  go_enter Tryz.func64,Tryz.ntmps64
  go_wp2
  go_ret
  exact⟨rfl,(Below.refl _ _).alloc (Nat.le_refl _) _⟩
 | false=>
  have HR:=hid hR
  have HN:=hid hn
  have vW:=hid hpl
  have Ci:=hid hl
  clear hR hn hpl hl
  go_enter Tryz.func64,Tryz.ntmps64
  go_wp2
  generalize hw1:w.alloc _=w1
  have hb1:Below w.heap.size w w1:=by rw[←hw1];exact(Below.refl _ _).alloc (Nat.le_refl _) _
  have hs1:w1.heap.size=w.heap.size+1:=by rw[←hw1];simp
  clear hw1
  have HB0:Hid (lq (w.heap.size+1) (w.heap.size+1) [] (w1.alloc (.cells #[.pointer none,.slice none 0 0] 147))):=by
   have h:=Lib.fresh_isBuilder 147 5 w1
   rw[hs1]at h
   exact h
  go_loopw [5,13] (fun _ vk wr=>∃k:Nat,k≤n∧vk=.int .i64 (k:Int)∧Hid (lq (w.heap.size+1) (w.heap.size+1) (aO (l.take k)) wr)∧Hid (Below (w.heap.size+1) w1 wr)) (fun _ vk _=>n - (intOf vk).toNat)
  case atStart=>exact⟨0,Nat.zero_le _,rfl,HB0.out,(Below.refl _ _).alloc (by rw[hs1];exact Nat.le_refl _) _⟩
  case round=>
   obtain⟨k,hk,rfl,HB,HBL⟩:=hrel
   have hsz:w.heap.size+1≤wr.heap.size:=by have:=HBL.out.size;rw[hs1]at this;exact this
   by_cases hlt:k<n
   ·have hkl:k<l.length:=by rw[HN.out];exact hlt
    have hRr:=HR.out.below (hb1.trans (HBL.out.mono (by omega)))
    obtain⟨g,off,rfl,hg,hcell⟩:=hRr.spot (by omega)
    have hc:=hcell k (by rw[List.length_map];exact hkl)
    rw[List.getElem_map]at hc
    obtain⟨s,hs⟩:∃s,s=l[k]:=⟨_,rfl⟩
    have HS:Hid (l.take (k+1)=l.take k++[s]):=by rw[hs];exact take_snoc l k hkl
    rw[←hs]at hc
    have hsum:=AV l k hkl
    have IY:=pK l (k+1)
    have hpk:=fM (l.take k)
    rw[List.length_take,Nat.min_eq_left (by omega)]at hpk
    have hpl:=vW.out
    have hll:=Ci.out
    rw[←hs]at hsum
    have hss:s.size≤1073741824:=by omega
    have a1:∀w:World,(Op.stringOp .add ⟨#[47]⟩ s).run Tryz.prog w=.ok (.string (strOf ([47]++s.data.toList))) w:=fun w=>dL ⟨#[47]⟩ s w (by show 1+s.size≤_;omega)
    have HLEN:Hid ((aO (l.take k)).length+(1+s.size)≤140737488355328):=by show _≤_;omega
    clear hs hsum IY hpk hpl hll hRr hcell hkl
    go_wp2_with (refine(write_any _ _ _ _ _ HB.out (by rw[size_strOf];have:=HLEN.out;simp at this⊢;omega) hsz).mono ?_;rintro e w3 ⟨rfl,HB3,hb3⟩)
    go_roundw
    case rel=>exact⟨k+1,by omega,by go_num,by
     rw[HS.out,abf]
     exact HB3,HBL.out.trans hb3⟩
    case measure=>simp[intOf];omega
   ·obtain rfl:k=n:=by omega
    have HT:Hid (l.take k=l):=List.take_of_length_le (by rw[HN.out];exact Nat.le_refl _)
    go_wp2_with (refine(qL _ _ _ _ HB.out hsz).mono ?_;rintro e w3 ⟨rfl,hb3⟩)
    go_ret
    exact⟨congrArg (fun X=>Ending.returned (.string (strOf (aO X)))) HT.out,hb1.trans ((HBL.out.trans hb3).mono (by omega))⟩
end Go.Proofs.YtmpeaoacaecgpaaGreatDoor.UrlB
namespace Go.Proofs.YtmpeaoacaecgpaaGreatDoor.Pg
open Go.RowKit Base Base2 aZ Wx UrlB Regs
def Box (w:World) (b:Nat) (c:Array Value):Prop:=w.heap[b]?=some (.cells c 25 (0,0))
theorem Box.cell {w:World} {b:Nat} {c:Array Value} (h:Box w b c) (i:Nat):w.cell? ⟨b,i,none⟩=c[i]?:=cell_of_row w b i _ _ _ h
theorem Box.below {w w':World} {B b:Nat} {c:Array Value} (h:Box w b c) (hb:Below B w w') (hB:b<B):Box w' b c:=(hb.block b hB).trans h
theorem kV {w:World} {b:Nat} {v0 v1 v2 v3 v4 v5 v6 v7 v8 v9 v10 v11 v12:Value} (h:Box w b #[v0,v1,v2,v3,v4,v5,v6,v7,v8,v9,v10,v11,v12]):
  w.cell? ⟨b,0,none⟩=some v0∧w.cell? ⟨b,1,none⟩=some v1∧w.cell? ⟨b,2,none⟩=some v2∧w.cell? ⟨b,3,none⟩=some v3∧w.cell? ⟨b,4,none⟩=some v4∧w.cell? ⟨b,5,none⟩=some v5∧w.cell? ⟨b,6,none⟩=some v6∧w.cell? ⟨b,7,none⟩=some v7∧w.cell? ⟨b,8,none⟩=some v8∧w.cell? ⟨b,9,none⟩=some v9∧w.cell? ⟨b,10,none⟩=some v10∧w.cell? ⟨b,11,none⟩=some v11∧w.cell? ⟨b,12,none⟩=some v12:=
 ⟨(h.cell 0).trans rfl,(h.cell 1).trans rfl,(h.cell 2).trans rfl,(h.cell 3).trans rfl,(h.cell 4).trans rfl,(h.cell 5).trans rfl,(h.cell 6).trans rfl,(h.cell 7).trans rfl,(h.cell 8).trans rfl,(h.cell 9).trans rfl,(h.cell 10).trans rfl,(h.cell 11).trans rfl,(h.cell 12).trans rfl⟩
theorem amh (z:Int) (h0: -9223372036854775808≤z) (h1:z≤9223372036854775807) (w:World) (hT:Tab.Pow w):
  Calls Tryz.prog 159 #[.int .i64 z] w fun e w'=>e=.returned (.string (strOf (Lib.itoa z)))∧Below w.heap.size w w':=
 (Tryz.strconv_Itoa z h0 h1 w hT).mono fun e w' ⟨he,k,os,hw⟩=>⟨he,by rw[hw];exact Tab.below_grow w k os⟩
theorem uX (k:Nat):∀n,n<10^(k+1)→(Lib.decDigits n).length≤k+1:=by
 induction k with
 |zero=>intro n h;rw[Lib.decDigits,dif_pos (by omega)];simp
 |succ k ih=>
  intro n h
  rw[Lib.decDigits]
  split
  ·simp
  have:=ih (n / 10) (by rw[Nat.pow_succ]at h;omega)
  rw[List.length_append]
  simp
  omega
theorem aaI (z:Int) (h0: -9223372036854775808≤z) (h1:z≤9223372036854775807):(Lib.itoa z).length≤20:=by
 unfold Lib.itoa
 split
 ·have:=uX 18 z.natAbs (by omega)
  simp
  omega
 have:=uX 18 z.toNat (by omega)
 omega
theorem ZV (s1 s2:ByteArray) (h1:s1.size≤1073741824) (h2:s2.size≤1073741824):(lD s1 s2).length≤2147483650:=by
 have hl1:s1.data.toList.length=s1.size:=Array.length_toList
 have hl2:s2.data.toList.length=s2.size:=Array.length_toList
 unfold lD
 split
 ·split
  ·simp
  rw[List.length_append];simp;omega
 rw[List.length_append,List.length_append,List.length_append];simp;omega
theorem Rf (z5:Int) (h0: -9223372036854775808≤z5) (h1:z5≤9223372036854775807):(kK z5).length≤21:=by
 have:=aaI z5 h0 h1
 unfold kK
 split<;>simp<;>omega
theorem afR (s1 s2 s3:ByteArray) (b4:Bool) (z5:Int) (b6:Bool) (l:List ByteArray) (h1:s1.size≤1073741824) (h2:s2.size≤1073741824) (h3:s3.size≤1073741824) (h0: -9223372036854775808≤z5) (h5:z5≤9223372036854775807):(ug s1 s2 s3 b4 z5 b6 l).length≤4294967296:=by
 have:=ZV s1 s2 h1 h2
 have:=Rf z5 h0 h5
 have hl3:s3.data.toList.length=s3.size:=Array.length_toList
 unfold ug
 split
 ·rw[List.length_append,List.length_append,List.length_append];simp;omega
 split<;>simp
theorem gZ {B b:Nat} {l:List UInt8} {w w':World} (h:lq B b l w) (hb:Below w.heap.size w w'):lq B b l w':=by
 rcases h with⟨h1,v,h2,h3,h4⟩|⟨h1,v,h2,h3,h4⟩
 ·exact Or.inl ⟨h1,v,(hb.block _ (Array.getElem?_eq_some_iff.1 h2).1).trans h2,aP h3 hb,h4⟩
 exact Or.inr ⟨h1,v,(hb.block _ (Array.getElem?_eq_some_iff.1 h2).1).trans h2,aP h3 hb,h4⟩
theorem ZQ (s0:ByteArray) (s1:ByteArray) (s2:ByteArray) (s3:ByteArray) (b4:Bool) (z5:Int) (b6:Bool) (s7:ByteArray) (A:Option Addr) (n cap:Nat) (l:List ByteArray) (b9:Bool) (b10:Bool) (s11:ByteArray) (s12:ByteArray) (w:World) (hR:aY w A n (l.map Value.string)) (hnc:n≤cap) (hcm:cap≤maxLen) (hs0:s0.size≤1073741824) (hs1:s1.size≤1073741824) (hs2:s2.size≤1073741824) (hs3:s3.size≤1073741824) (hs7:s7.size≤1073741824) (hs11:s11.size≤1073741824) (hz: -9223372036854775808≤z5) (hz':z5≤9223372036854775807) (hl:(aO l).length≤1073741824) (hT:Tab.Pow w):
  Calls Tryz.prog 70 #[.agg #[.string s0,.string s1,.string s2,.string s3,.bool b4,.int .i64 z5,.bool b6,.string s7,.slice A n cap,.bool b9,.bool b10,.string s11,.string s12]] w fun e w'=>e=.returned (.string (strOf (wH s0 s1 s2 s3 b4 z5 b6 s7 l b9 s11)))∧Below w.heap.size w w':=by
 have hl0:s0.data.toList.length=s0.size:=Array.length_toList
 have hl3:s3.data.toList.length=s3.size:=Array.length_toList
 have hl7:s7.data.toList.length=s7.size:=Array.length_toList
 have hl11:s11.data.toList.length=s11.size:=Array.length_toList
 have hn:l.length=n:=by rw[←hR.1,List.length_map]
 have HN:=hid hn
 have HCL:=hid (ZV s1 s2 hs1 hs2)
 have HIT:=hid (aaI z5 hz hz')
 have HML:=hid (afR s1 s2 s3 b4 z5 b6 l hs1 hs2 hs3 hz hz')
 have Uy:Hid ((s0.data.toList++[58]).length≤1073741825):=by show _≤_;rw[List.length_append];simp;omega
 obtain⟨CA,hCA⟩:∃X,X=[47,47]++lD s1 s2:=⟨_,rfl⟩
 obtain⟨CB,hCB⟩:∃X,X=CA++s3.data.toList:=⟨_,rfl⟩
 have hCAl:CA.length≤2147483652:=by rw[hCA,List.length_append];have:=HCL.out;simp;omega
 have WE:Hid (CB.length≤3221225476):=by show _≤_;rw[hCB,List.length_append];omega
 have a2:∀w:World,(Op.stringOp .add ⟨#[47,47]⟩ (strOf (lD s1 s2))).run Tryz.prog w=.ok (.string (strOf CA)) w:=fun w=>by rw[hCA];exact dL ⟨#[47,47]⟩ _ w (by rw[size_strOf];have:=HCL.out;show 2+_≤_;omega)
 have a3:∀w:World,(Op.stringOp .add (strOf CA) s3).run Tryz.prog w=.ok (.string (strOf CB)) w:=fun w=>by rw[hCB];exact dL _ s3 w (by rw[size_strOf];omega)
 have HCB:Hid (CB=[47,47]++lD s1 s2++s3.data.toList):=by show _=_;rw[hCB,hCA]
 clear hCA hCB hCAl
 have TB:Hid ((pF b6 s7 l).length≤1073741824):=by show _≤_;unfold pF;split<;>omega
 have a1:∀w:World,(Op.stringOp .add s0 ⟨#[58]⟩).run Tryz.prog w=.ok (.string (strOf (s0.data.toList++[58]))) w:=fun w=>dL s0 ⟨#[58]⟩ w (by show s0.size+1≤_;omega)
 obtain⟨QL,hQL⟩:∃X,X=[63]++s11.data.toList:=⟨_,rfl⟩
 have a5:∀w:World,(Op.stringOp .add ⟨#[63]⟩ s11).run Tryz.prog w=.ok (.string (strOf QL)) w:=fun w=>by rw[hQL];exact dL ⟨#[63]⟩ s11 w (by show 1+s11.size≤_;omega)
 have HQLL:Hid (QL.length≤1073741825):=by show _≤_;rw[hQL,List.length_append];simp;omega
 have HQL:=hid hQL
 clear hQL
 clear hl0 hl3 hl7 hl11 hn
 have HR:=hid hR
 have Ci:=hid hl
 have HT:=hid hT
 clear hR hl hT
 unfold maxLen at hcm
 go_enter Tryz.func70,Tryz.ntmps70
 go_upto_region 1 with(fail)
 generalize hw1:w.alloc _=w1
 have hb1:Below w.heap.size w w1:=by rw[←hw1];exact(Below.refl _ _).alloc (Nat.le_refl _) _
 have hs1':w1.heap.size=w.heap.size+1:=by rw[←hw1];simp
 have acy:Hid (Box w1 w.heap.size #[.string s0,.string s1,.string s2,.string s3,.bool b4,.int .i64 z5,.bool b6,.string s7,.slice A n cap,.bool b9,.bool b10,.string s11,.string s12]):=by
  show _=_
  rw[←hw1]
  exact heap_alloc_new w _
 clear hw1
 go_upto_region 2 with(fail)
 have HB2:Hid (lq (w.heap.size+1) (w.heap.size+1) [] (w1.alloc (.cells #[.pointer none,.slice none 0 0] 147))):=by
  have h:=Lib.fresh_isBuilder 147 5 w1
  rw[hs1']at h
  exact h
 have XO:Below (w.heap.size+1) w1 (w1.alloc (.cells #[.pointer none,.slice none 0 0] 147)):=(Below.refl _ _).alloc (by rw[hs1'];exact Nat.le_refl _) _
 have hs2':(w1.alloc (.cells #[.pointer none,.slice none 0 0] 147)).heap.size=w.heap.size+2:=by simp[hs1']
 generalize hw2:w1.alloc _=w2 at HB2 XO hs2'⊢
 clear hw2
 have alR:Below w.heap.size w w2:=hb1.trans (XO.mono (by omega))
 have hbx:=acy.out.below XO (by omega)
 have HBX2:=hid hbx
 obtain⟨c0,c1,c2,c3,c4,c5,c6,c7,c8,c9,c10,c11,c12⟩:=kV hbx
 clear hbx
 have hsz2:w.heap.size+1≤w2.heap.size:=by omega
 clear hs1' hs2'
 go_wp2_with fail
 refine(write_any _ _ _ _ _ HB2.out (by rw[size_strOf];have:=Uy.out;simp at this⊢;omega) hsz2).mono ?_
 rintro e w3 ⟨rfl,HB3',aau⟩
 have HB3:Hid (lq (w.heap.size+1) (w.heap.size+1) (s0.data.toList++[58]) w3):=HB3'
 have hsz3:w.heap.size+1≤w3.heap.size:=by have:=aau.size;omega
 have hbx:=HBX2.out.below aau (by omega:w.heap.size<w.heap.size+1)
 have HBX3:=hid hbx
 clear HB3' c0 c1 c2 c3 c4 c5 c6 c7 c8 c9 c10 c11 c12
 obtain⟨c0,c1,c2,c3,c4,c5,c6,c7,c8,c9,c10,c11,c12⟩:=kV hbx
 clear hbx
 go_upto_if 9 with(fail)
 go_cut [] (fun wx=>Hid (lq (w.heap.size+1) (w.heap.size+1) (s0.data.toList++[58]++ug s1 s2 s3 b4 z5 b6 l) wx)∧Hid (Below (w.heap.size+1) w2 wx))
 case first=>
  cases b4 with
  | true=>
   go_wp2_with fail
   clear c0 c1 c2 c3 c4 c5 c6 c7 c8 c9 c10 c11 c12
   refine bC (by kernel_rfl) 6 [is (.agg #[.string s0,.string s1,.string s2,.string s3,.bool true,.int .i64 z5,.bool b6,.string s7,.slice A n cap,.bool b9,.bool b10,.string s11,.string s12]),is (.string (strOf (lD s1 s2))),is (.string (strOf CA)),is (.pointer (some ⟨w.heap.size,3,none⟩)),is (.string s3),is (.string (strOf CB))] [[],[0],[0,1],[],[3],[0,1,2,3,4],[0,1,2,3,4,5]] (by kernel_rfl) ?_ ?_
   ·refine⟨?_,?_,?_,?_,?_,?_,trivial⟩
    all_goals(intro t wq hbq hh K hK;simp only[filled,aj,upd,Have,is,any,row,pick,Act.put,List.setIfInBounds_toArray,List.set_cons_zero,List.set_cons_succ,Nat.reduceAdd,Nat.reduceEqDiff,reduceIte,List.tail_cons,List.headD_cons]at hh hK⊢;(try simp only[hh]at hK⊢);try clear hh)
    ·have hbx:=HBX3.out.below hbq (by omega);obtain⟨c0,c1,c2,c3,c4,c5,c6,c7,c8,c9,c10,c11,c12⟩:=kV hbx;clear hbx;go_simp;exact hK _ _ (Below.refl _ _) rfl
    ·go_simp;refine(ak0 s0 s1 s2 s3 true z5 b6 s7 A n cap l b9 b10 s11 s12 _ hs1 hs2).mono ?_;rintro e w5 ⟨rfl,hb5⟩;exact hK _ _ hb5 rfl
    ·have hadd:=a2 wq;go_simp;exact hK _ _ (Below.refl _ _) rfl
    ·go_simp;exact hK _ _ (Below.refl _ _) rfl
    ·have hbx:=HBX3.out.below hbq (by omega);obtain⟨c0,c1,c2,c3,c4,c5,c6,c7,c8,c9,c10,c11,c12⟩:=kV hbx;clear hbx;go_simp;exact hK _ _ (Below.refl _ _) rfl
    ·have hadd:=a3 wq;go_simp;exact hK _ _ (Below.refl _ _) rfl
   ·intro t wq hbq hh
    have f5:=aB hh 5 (by decide)
    simp only[pick]at f5
    replace f5:t 5=(.string (strOf CB)):=f5
    clear hh
    simp only[filled,aj,upd,Have,is,any,row,pick,Act.put,List.setIfInBounds_toArray,List.set_cons_zero,List.set_cons_succ,Nat.reduceAdd,Nat.reduceEqDiff,reduceIte]
    simp only[f5]
    have HB4:=HB3.out
    go_wp2_with fail
    refine(write_any _ _ _ _ _ (gZ HB3.out hbq) (by rw[size_strOf];have:=Uy.out;have:=WE.out;omega) (by have:=hbq.size;omega)).mono ?_
    rintro e w5 ⟨rfl,iG,hb5⟩
    rw[kX]at iG
    have hb35:=aau.trans ((hbq.mono (by omega)).trans hb5)
    have hbx:=HBX3.out.below ((hbq.mono (by omega)).trans hb5) (by omega:w.heap.size<w.heap.size+1)
    have HBX5:=hid hbx
    obtain⟨c0,c1,c2,c3,c4,c5,c6,c7,c8,c9,c10,c11,c12⟩:=kV hbx
    clear hbx HB4
    have hsz5:w.heap.size+1≤w5.heap.size:=by have:=hb35.size;omega
    by_cases hp:z5= -1
    ·have q1:(z5== -1)=true:=by simpa using hp
     have q2:(z5 != -1)=false:=by simpa using hp
     have HP:Hid (kK z5=[]):=if_pos hp
     clear hp
     go_wp2
     go_meet
     refine⟨?_,hb35⟩
     have e:s0.data.toList++[58]++ug s1 s2 s3 true z5 b6 l=s0.data.toList++[58]++CB:=by unfold ug;rw[if_pos rfl,HP.out,List.append_nil,HCB.out]
     show lq _ _ _ _
     rw[e]
     exact iG
    ·have q1:(z5== -1)=false:=by simpa using hp
     have q2:(z5 != -1)=true:=by simpa using hp
     have HP:Hid (kK z5=58::Lib.itoa z5):=if_neg hp
     clear hp
     obtain⟨IT,hIT⟩:∃X,X=[58]++Lib.itoa z5:=⟨_,rfl⟩
     have a4:∀w:World,(Op.stringOp .add ⟨#[58]⟩ (strOf (Lib.itoa z5))).run Tryz.prog w=.ok (.string (strOf IT)) w:=fun w=>by rw[hIT];exact dL ⟨#[58]⟩ _ w (by rw[size_strOf];have:=HIT.out;show 1+_≤_;omega)
     have HITL:Hid (IT.length≤21):=by show _≤_;rw[hIT,List.length_append];have:=HIT.out;simp;omega
     have HITE:=hid hIT
     clear hIT
     go_wp2_with fail
     refine(amh z5 hz hz' _ (HT.out.below (alR.trans (hb35.mono (by omega))))).mono ?_
     rintro e w6 ⟨rfl,hb6⟩
     go_wp2_with fail
     refine(write_any _ _ _ _ _ (gZ iG hb6) (by rw[size_strOf,List.length_append];have:=HITL.out;have:=Uy.out;have:=WE.out;omega) (by have:=hb6.size;omega)).mono ?_
     rintro e w7 ⟨rfl,kZ,hb7⟩
     rw[kX]at kZ
     go_wp2
     go_meet
     refine⟨?_,hb35.trans ((hb6.mono hsz5).trans hb7)⟩
     have e:s0.data.toList++[58]++ug s1 s2 s3 true z5 b6 l=s0.data.toList++[58]++CB++IT:=by unfold ug;rw[if_pos rfl,HP.out,HCB.out,HITE.out];simp
     show lq _ _ _ _
     rw[e]
     exact kZ
  | false=>
   cases b6 with
   |true=>
    go_wp2
    go_meet
    refine⟨?_,aau⟩
    show lq _ _ (_++[]) _
    rw[List.append_nil]
    exact HB3.out
   | false=>
    by_cases h1n:1<n
    ·obtain⟨x,y,r,hlx⟩:∃x y r,l=x::y::r:=by
      have:=HN.out
      match l,this with
      |x::y::r,_=>exact⟨x,y,r,rfl⟩
      |[_],h=>simp at h;omega
      |[],h=>simp at h;omega
     have hRr:=HR.out.below (alR.trans (aau.mono (by omega)))
     obtain⟨g,off,rfl,hg,hcell⟩:=hRr.spot (by omega)
     have hc:=hcell 0 (by rw[List.length_map,HN.out];omega)
     have e0:(l.map Value.string)[0]'(by rw[List.length_map,HN.out];omega)=.string x:=by simp[hlx]
     rw[e0,Nat.add_zero]at hc
     have HD:Hid (dotted false l=decide (x.data.toList=[])):=by show _=_;rw[hlx];rfl
     clear hRr hcell e0 hlx
     by_cases hx:x.data.toList=[]
     ·have q1:x.toList=[]:=by rw[tl];exact hx
      have Td:Hid (dotted false l=true):=HD.out.trans (decide_eq_true hx)
      clear hx
      go_wp2_with fail
      refine(write_any _ _ _ _ _ HB3.out (by have:=Uy.out;show _+2≤_;omega) hsz3).mono ?_
      rintro e w5 ⟨rfl,iG,hb5⟩
      go_wp2
      go_meet
      refine⟨?_,aau.trans hb5⟩
      have e:s0.data.toList++[58]++ug s1 s2 s3 false z5 false l=s0.data.toList++[58]++[47,46]:=by unfold ug;rw[if_neg (by decide),if_pos Td.out]
      show lq _ _ _ _
      rw[e]
      exact iG
     ·have q1:(x.toList==[])=false:=by rw[tl];simpa using hx
      have q1':x.toList.isEmpty=false:=by rw[tl];simpa using hx
      have Td:Hid (¬dotted false l=true):=by show ¬_;rw[HD.out];simpa using hx
      clear hx
      go_wp2
      go_meet
      refine⟨?_,aau⟩
      have e:s0.data.toList++[58]++ug s1 s2 s3 false z5 false l=s0.data.toList++[58]:=by unfold ug;rw[if_neg (by decide),if_neg Td.out,List.append_nil]
      show lq _ _ _ _
      rw[e]
      exact HB3.out
    ·have Td:Hid (¬dotted false l=true):=by
      have:=HN.out
      match l,this with
      |x::y::r,h=>simp at h;omega
      |[_],h=>simp[dotted,Hid]
      |[],h=>simp[dotted,Hid]
     go_wp2
     go_meet
     refine⟨?_,aau⟩
     have e:s0.data.toList++[58]++ug s1 s2 s3 false z5 false l=s0.data.toList++[58]:=by unfold ug;rw[if_neg (by decide),if_neg Td.out,List.append_nil]
     show lq _ _ _ _
     rw[e]
     exact HB3.out
 case rest=>
 obtain⟨HB4,HB24⟩:=hcut
 clear c0 c1 c2 c3 c4 c5 c6 c7 c8 c9 c10 c11 c12
 have hbx:=HBX2.out.below HB24.out (by omega:w.heap.size<w.heap.size+1)
 have HBX4:=hid hbx
 obtain⟨c0,c1,c2,c3,c4,c5,c6,c7,c8,c9,c10,c11,c12⟩:=kV hbx
 clear hbx
 have Ae:w.heap.size+1≤wc.heap.size:=by have:=HB24.out.size;omega
 go_wp2_with fail
 refine(DU s0 s1 s2 s3 b4 z5 b6 s7 A n cap l b9 b10 s11 s12 _ (HR.out.below (alR.trans (HB24.out.mono (by omega)))) hnc (by unfold maxLen;omega) hs7 Ci.out).mono ?_
 rintro e w5 ⟨rfl,hb5⟩
 go_wp2_with fail
 have hml:=HML.out
 have hla:=Uy.out
 have hpa:=TB.out
 have HLC:Hid ((s0.data.toList++[58]++ug s1 s2 s3 b4 z5 b6 l).length≤5368709121):=by show _≤_;rw[List.length_append];omega
 have Fg:Hid ((s0.data.toList++[58]++ug s1 s2 s3 b4 z5 b6 l++pF b6 s7 l).length≤6442450945):=by show _≤_;rw[List.length_append];have:=HLC.out;omega
 clear hml hla hpa
 refine(write_any _ _ _ _ _ (gZ HB4.out hb5) (by rw[size_strOf];have:=HLC.out;have:=TB.out;omega) (by have:=hb5.size;omega)).mono ?_
 rintro e w6 ⟨rfl,nN,hb6⟩
 rw[kX]at nN
 have hb26:=HB24.out.trans ((hb5.mono Ae).trans hb6)
 have hsz6:w.heap.size+1≤w6.heap.size:=by have:=hb26.size;omega
 clear c0 c1 c2 c3 c4 c5 c6 c7 c8 c9 c10 c11 c12
 have hbx:=HBX2.out.below hb26 (by omega:w.heap.size<w.heap.size+1)
 obtain⟨c0,c1,c2,c3,c4,c5,c6,c7,c8,c9,c10,c11,c12⟩:=kV hbx
 clear hbx
 have HB6':=hid nN
 clear nN
 cases b9 with
 |false=>
  go_wp2_with fail
  refine(qL _ _ _ _ HB6'.out hsz6).mono ?_
  rintro e w7 ⟨rfl,hb7⟩
  go_wp2
  go_ret
  refine⟨?_,alR.trans ((hb26.trans hb7).mono (by omega))⟩
  have e:wH s0 s1 s2 s3 b4 z5 b6 s7 l false s11=s0.data.toList++[58]++ug s1 s2 s3 b4 z5 b6 l++pF b6 s7 l:=by unfold wH;rw[if_neg (by decide),List.append_nil]
  refine congrArg (fun X=>Ending.returned (.string (strOf X))) ?_
  rw[e]
  simp
 |true=>
  go_wp2_with fail
  refine(write_any _ _ _ _ _ HB6'.out (by rw[size_strOf];have:=Fg.out;have:=HQLL.out;omega) hsz6).mono ?_
  rintro e w7 ⟨rfl,kZ,hb7⟩
  rw[kX]at kZ
  go_wp2_with fail
  refine(qL _ _ _ _ kZ (by have:=hb7.size;omega)).mono ?_
  rintro e w8 ⟨rfl,hb8⟩
  go_wp2
  go_ret
  refine⟨?_,alR.trans (((hb26.trans hb7).trans hb8).mono (by omega))⟩
  have e:wH s0 s1 s2 s3 b4 z5 b6 s7 l true s11=s0.data.toList++[58]++ug s1 s2 s3 b4 z5 b6 l++pF b6 s7 l++QL:=by unfold wH;rw[if_pos rfl,HQL.out];rfl
  refine congrArg (fun X=>Ending.returned (.string (strOf X))) ?_
  rw[e]
  simp
end Go.Proofs.YtmpeaoacaecgpaaGreatDoor.Pg
namespace Go.Proofs.YtmpeaoacaecgpaaGreatDoor.UG
open Go.RowKit Base Base2 cO UrlA Pg sU PrsP mW tK yx jQ pO vZ WQ oN wo
structure Env (w:World):Prop where
 pow:Tab.Pow w
 lad:oI w
 max:Max w
 Hq:rD w
theorem Env.below {w w':World} (h:Env w) (hb:Below w.heap.size w w'):Env w':=⟨bY h.pow hb,h.lad.below hb,h.max.below hb,h.Hq.below hb⟩
structure Pt (w:World) (u:U) (A:Option Addr) (n c:Nat):Prop where
 aO:dR w u A n c
theorem Pt.below {w w':World} {u:U} {A:Option Addr} {n c:Nat} (h:Pt w u A n c) (hb:Below w.heap.size w w'):Pt w' u A n c:=⟨mW.dR.below h.aO hb⟩
theorem dl (s:ByteArray):s.data.toList.length=s.size:=Array.length_toList
theorem jB {T:ByteArray} {u:U} (ho:PrsP.url T.data.toList none=some u) (hs:T.size≤65536) (w:World) (E:Env w):Calls Tryz.prog 16 #[.string T,.pointer none] w fun e w'=>∃A' n' c',e=.returned (.tuple #[.agg #[.string (strOf u.au),.string (strOf u.usr),.string (strOf u.pwd),.string (strOf u.hst),.bool u.hh,.int .i64 u.port,.bool u.opq,.string (strOf u.txt),.slice A' n' c',.bool u.hq,.bool u.hf,.string (strOf u.dY),.string (strOf u.fB)],.int .i64 0])∧Pt w' u A' n' c'∧Below w.heap.size w w':=by
 have h:=GY T.data.toList w (by rw[dl];exact hs) E.lad E.pow E.max E.Hq
 rw[aG,ho]at h
 exact h.mono fun e w' ⟨h1,A,n,c,h2,h3⟩=>⟨A,n,c,h2,⟨h3.aO⟩,h1⟩
theorem GZ {T:ByteArray} {u:U} (hu:u=U0) (ho:PrsP.url T.data.toList none=none) (hs:T.size≤65536) (w:World) (E:Env w):Calls Tryz.prog 16 #[.string T,.pointer none] w fun e w'=>∃A' n' c',e=.returned (.tuple #[.agg #[.string (strOf u.au),.string (strOf u.usr),.string (strOf u.pwd),.string (strOf u.hst),.bool u.hh,.int .i64 u.port,.bool u.opq,.string (strOf u.txt),.slice A' n' c',.bool u.hq,.bool u.hf,.string (strOf u.dY),.string (strOf u.fB)],.int .i64 2])∧Pt w' u A' n' c'∧Below w.heap.size w w':=by
 subst hu
 have h:=GY T.data.toList w (by rw[dl];exact hs) E.lad E.pow E.max E.Hq
 rw[aG,ho]at h
 exact h.mono fun e w' ⟨h1,A,n,c,h2,h3⟩=>⟨A,n,c,h2,⟨h3.aO⟩,h1⟩
end Go.Proofs.YtmpeaoacaecgpaaGreatDoor.UG
namespace Go.Proofs.YtmpeaoacaecgpaaGreatDoor.J6
open Go.RowKit Base Base2 cO pU qg OW NG OX oG Zu sV BG NH rC CQ
theorem aaS (l:List (ByteArray×ByteArray)) (k:Nat) (h:k<l.length):yU (mQ l) k=(RG l[k].1.data.toList&&(!(GH l[k].1.data.toList ((mQ l).take k))&&CV.quotable l[k].2.data.toList)):=by
 unfold yU
 rw[List.getElem?_eq_getElem (by rw[qO];exact h)]
 simp[mQ]
theorem abt {l:List (ByteArray×ByteArray)} {k:Nat} (h:k<l.length) (ho:yU (mQ l) k=false) (T S:List UInt8):fD T S (mQ l)=false:=by
 unfold fD G7
 rw[aiz _ k ho _ (by rw[qO];exact h)]
 simp
def MidB (T S:ByteArray) (l:List (ByteArray×ByteArray)):Prop:=l.length≤1048576∧T.size≤1048576∧S.size≤1048576∧∀p ∈ l,p.1.size≤1048576∧p.2.size≤1048576
theorem vY.mid {T S:ByteArray} {l:List (ByteArray×ByteArray)} (h:vY T S l):MidB T S l:=⟨by have:=h.1;omega,by have:=h.2.1;omega,by have:=h.2.1;omega,fun p hp=>by have:=h.2.2 p hp;omega⟩
theorem zi (T S:ByteArray) (A:Option Addr) (n cap:Nat) (l:List (ByteArray×ByteArray)) (w:World) (hr:zH w A n l) (hc:n≤cap) (hm:cap≤maxLen) (hF:MidB T S l):
  Calls Tryz.prog 86 #[.agg #[.string T,.string S,.slice A n cap]] w fun e w'=>e=.returned (.bool (fD T.data.toList S.data.toList (mQ l)))∧Below w.heap.size w w':=by
 unfold maxLen at hm
 obtain⟨hf1,hf2,hf4,hf3⟩:=hF
 have hl:l.length=n:=hr.1
 have HL:=hid hl
 have HR:=hid hr
 have HF:=hid hf3
 have hmm:=@run_makeMap Tryz.prog
 have hTs:=fun w=>uJ T w (by omega)
 have XK:=fun w=>uJ S w (by omega)
 obtain⟨V,hV⟩:∃V,V=fD T.data.toList S.data.toList (mQ l):=⟨_,rfl⟩
 rw[←hV]
 obtain⟨tb,htb⟩:∃b,b=RG T.data.toList:=⟨_,rfl⟩
 obtain⟨sb,hsb⟩:∃b,b=RG S.data.toList:=⟨_,rfl⟩
 have hV2:=hV
 unfold fD at hV2
 rw[←htb,←hsb]at hV2
 rw[←htb]at hTs
 rw[←hsb]at XK
 have qc:Hid (∀k,(h:k<l.length)→yU (mQ l) k=false→V=false):=by
  intro k h ho
  rw[hV]
  exact abt h ho _ _
 have HV:=hid hV2
 have HTS:=hid hTs
 have F9:=hid XK
 have hn20:n≤1048576:=by omega
 clear hr hl hV hV2 htb hsb hTs XK hf1 hf3
 go_enter Tryz.func86,Tryz.ntmps86
 go_upto_region 1 with(fail)
 generalize hw1:w.alloc _=w1
 have HB1:Hid (Below w.heap.size w w1):=by show Below _ _ _;rw[←hw1];exact(Below.refl _ _).alloc (Nat.le_refl _) _
 have hx1:B3 44 w1 w.heap.size (.string T) (.string S) (.slice A n cap):=by
  rw[←hw1]
  exact heap_alloc_new w _
 have kP:=hid hx1
 obtain⟨c0,c1,c2⟩:=hx1.facts
 clear hw1 hx1
 go_wp2_with fail
 clear c0 c1 c2
 refine(HTS.out _).mono ?_
 rintro e w2 ⟨rfl,hb2⟩
 have HB2:=hid (bel HB1.out hb2)
 have hx2:=kP.out.below hb2
 have gY:=hid hx2
 obtain⟨c0,c1,c2⟩:=hx2.facts
 clear hb2 hx2
 cases tb with
 |false=>
  have HE:Hid (V=false):=by show _=_;rw[HV.out];rfl
  go_wp2
  go_ret
  exact⟨ak (by rw[HE.out]),HB2.out⟩
 | true =>
  go_wp2_with fail
  clear c0 c1 c2
  refine(F9.out _).mono ?_
  rintro e w3 ⟨rfl,hb3⟩
  have HB3:=hid (bel HB2.out hb3)
  have hx3:=gY.out.below hb3
  have jI:=hid hx3
  obtain⟨c0,c1,c2⟩:=hx3.facts
  clear hb3 hx3
  cases sb with
  |false=>
   have HE:Hid (V=false):=by show _=_;rw[HV.out];rfl
   go_wp2
   go_ret
   exact⟨ak (by rw[HE.out]),HB3.out⟩
  | true =>
   have Zj:Hid (V=qG (mQ l) n):=by show _=_;rw[HV.out,←HL.out,←qO l];rfl
   clear c0 c1 c2
   go_upto_region 4 with(fail)
   clear hmm
   generalize hw4:w3.alloc _=w4
   have HS4:Hid (Says w4 w3.heap.size 0 []):=by show Says _ _ _ _;rw[←hw4];exact Says.made w3
   have HB4:Hid (Below w.heap.size w w4):=by show Below _ _ _;rw[←hw4];exact HB3.out.alloc HB3.out.size _
   have hx4:B3 44 w4 w.heap.size (.string T) (.string S) (.slice A n cap):=by rw[←hw4];exact jI.out.below ((Below.refl _ _).alloc (Nat.le_refl _) _)
   obtain⟨c0,c1,c2⟩:=hx4.facts
   obtain⟨gm,hgm⟩:∃g,g=w3.heap.size:=⟨_,rfl⟩
   rw[←hgm]at HS4⊢
   have HGM:Hid (w.heap.size≤gm):=by show _≤_;rw[hgm];exact HB3.out.size
   clear hw4 hx4 hgm
   go_upto_region 5 with(fail)
   clear c0 c1 c2
   go_loopw [5,20] (fun _ vk wr=>∃(k:Nat) (names:List (List UInt8)),k≤n∧vk=.int .i64 (k:Int)∧Hid (Says wr gm k names)∧Hid (∀x,x ∈ names↔x ∈ ((mQ l).take k).map (·.1))∧Hid (Below w.heap.size w wr)∧Hid (qG (mQ l) k=true)) (fun _ vk _=>n - (intOf vk).toNat)
   case atStart=>exact⟨0,[],Nat.zero_le _,rfl,HS4.out,by show ∀x,_;simp,HB4.out,rfl⟩
   case round=>
    obtain⟨k,names,hk,rfl,HM,HN,HB,HK⟩:=hrel
    by_cases hlt:k<n
    ·have hkl : k < l.length := by rw [HL.out]; exact hlt
     obtain⟨b,off,rfl,hb,h1,h2⟩:=(HR.out.under HB.out (Nat.le_refl _)).2 k hkl
     have hz:=HF.out l[k] (List.getElem_mem hkl)
     have hTk:=OZ l k hkl
     have hok:=aaS l k hkl
     have hno:=qc.out k hkl
     obtain⟨s1,hs1⟩:∃s,s=l[k].1:=⟨_,rfl⟩
     obtain⟨s2,hs2⟩:∃s,s=l[k].2:=⟨_,rfl⟩
     rw[←hs1]at h1 hz hTk hok
     rw[←hs2]at h2 hz hTk hok
     rw[Qu _ _ _ HN.out]at hok
     have hsucc:=Nl (mQ l) k
     rw[HK.out,Bool.true_and]at hsucc
     have HTK:=hid hTk
     have hsm:=fun w=>uJ s1 w (by omega)
     have hqu:=fun w=>CV.Jo s2 w (by omega)
     obtain⟨m1,hm1⟩:∃b,b=RG s1.data.toList:=⟨_,rfl⟩
     obtain⟨q2,hq2⟩:∃b,b=CV.quotable s2.data.toList:=⟨_,rfl⟩
     rw[←hm1]at hok hsm
     rw[←hq2]at hok hqu
     have JO:=hid hsm
     have HQU:=hid hqu
     have hki:(k:Int)<(n:Int):=by omega
     have hs1z:s1.size≤1048576:=by omega
     have HOK:=hid hok
     have acC:=hid hno
     have HSU:=hid hsucc
     clear hs1 hs2 hkl hTk hok hno hsucc hm1 hq2 hsm hqu hz
     go_upto_region 7 with(fail)
     generalize bI:wr.alloc _=wa
     have hxa:B2 98 wa wr.heap.size (.string s1) (.string s2):=by show B2 _ _ _ _ _;rw[←bI];exact heap_alloc_new _ _
     have HXa:=hid hxa
     have HMa:Hid (Says wa gm k names):=by show Says _ _ _ _;rw[←bI];exact HM.out.below ((Below.refl _ _).alloc (Nat.le_refl _) _)
     have HBa:Hid (Below w.heap.size w wa):=by show Below _ _ _;rw[←bI];exact HB.out.alloc HB.out.size _
     have Za:Hid (gm≠wr.heap.size):=by show _≠_;have:=HM.out.lt;omega
     obtain⟨k0,k1⟩:=hxa.facts
     clear bI hxa h1 h2
     go_wp2_with fail
     clear k0 k1
     refine(JO.out _).mono ?_
     rintro e w5 ⟨rfl,hb5⟩
     have HM5:=hid (HMa.out.below hb5)
     have iG:=hid (bel HBa.out hb5)
     have hx5:=HXa.out.below hb5
     have Zk:=hid hx5
     obtain⟨k0,k1⟩:=hx5.facts
     clear hb5 hx5
     cases m1 with
     |false=>
      have HE:Hid (V=false):=acC.out (by rw[HOK.out];rfl)
      go_wp2
      go_ret
      exact⟨ak (by rw[HE.out]),iG.out⟩
     | true=>
      have hlk:=HM5.out.look s1 (by unfold maxLen;omega)
      by_cases hmem:s1.data.toList ∈ names
      ·have HE:Hid (V=false):=acC.out (by rw[HOK.out,decide_eq_true hmem];rfl)
       rw[if_pos hmem]at hlk
       clear hmem
       go_wp2
       go_ret
       exact⟨ak (by rw[HE.out]),iG.out⟩
      ·rw [if_neg hmem] at hlk
       have HOK2:Hid (yU (mQ l) k=q2):=by show _=_;rw[HOK.out,decide_eq_false hmem];rfl
       clear hmem
       go_wp2_with fail
       clear k0 k1 hlk
       refine(HQU.out _).mono ?_
       rintro e w6 ⟨rfl,hb6⟩
       have HM6:=hid (HM5.out.below hb6)
       have nN:=hid (bel iG.out hb6)
       have hx6:=Zk.out.below hb6
       obtain⟨k0,k1⟩:=hx6.facts
       clear hb6 hx6
       cases q2 with
       |false=>
        have HE:Hid (V=false):=acC.out HOK2.out
        go_wp2
        go_ret
        exact⟨ak (by rw[HE.out]),nN.out⟩
       |true=>
        obtain⟨w7,hput,hS7,hg7⟩:=HM6.out.put s1 (by unfold maxLen;omega) (by unfold maxLen;omega)
        have HS7:=hid hS7
        have kZ:Hid (Below w.heap.size w w7):=nN.out.grown hg7 nN.out.size (fun g hg=>by injection hg with hg;rw[←hg];exact HGM.out)
        have HK7:Hid (qG (mQ l) (k+1)=true):=by show _=_;rw[HSU.out,HOK2.out]
        have HN7:Hid (∀x,x ∈ s1.data.toList::names↔x ∈ ((mQ l).take (k+1)).map (·.1)):=by
         show ∀x,_
         intro x
         rw[HTK.out]
         have:=HN.out x
         simp only[List.mem_cons,List.map_append,List.mem_append,this]
         simp
         exact Or.comm
        clear hS7 hg7
        go_wp2
        go_roundw
        case rel=>exact⟨k+1,s1.data.toList::names,by omega,by go_num,HS7.out,HN7.out,kZ.out,HK7.out⟩
        case measure=>simp[intOf];omega
    ·obtain rfl:k=n:=by omega
     have HE:Hid (V=true):=by show _=_;rw[Zj.out,HK.out]
     go_wp2
     go_ret
     exact⟨ak (by rw[HE.out]),HB.out⟩
end Go.Proofs.YtmpeaoacaecgpaaGreatDoor.J6
namespace Go.Proofs.YtmpeaoacaecgpaaGreatDoor.J7
open Go.RowKit Base Base2 cO pU qg OW NG OX oG Zu sV BG NH J6 rC CQ
theorem ext_str {a b:ByteArray} (h:a.data.toList=b.data.toList):a=b:=by
 cases a;cases b;simp at h;subst h;rfl
theorem XH (a b:ByteArray):(a.toList==b.toList)=decide (a=b):=by
 rw[XG,Bool.eq_iff_iff,decide_eq_true_iff,decide_eq_true_iff]
 exact⟨ext_str,fun h=>by rw[h]⟩
theorem xU (a b:ByteArray):a.toList=b.toList↔a=b:=by
 rw[Lib.toList_data,Lib.toList_data]
 exact⟨ext_str,fun h=>by rw[h]⟩
theorem abM {l m:List (ByteArray×ByteArray)} {k:Nat} (h:k<l.length) (h2:k<m.length) (ht:l.take k=m.take k) (e:l[k]=m[k]):l.take (k+1)=m.take (k+1):=by
 rw[List.take_succ_eq_append_getElem h,List.take_succ_eq_append_getElem h2,ht,e]
theorem below_drewN' (w:World) (n:Nat):Below w.heap.size w (w.drewN n):=Base.below_drewN (Below.refl _ _) n
theorem EF (A A2:Option Addr) (n n2 cap cap2:Nat) (l m:List (ByteArray×ByteArray)) (w:World) (hR:zH w A n l) (hR2:zH w A2 n2 m) (hc:n≤cap) (hm:cap≤maxLen) (hc2:n2≤cap2) (hm2:cap2≤maxLen):
  Calls Tryz.prog 89 #[.slice A n cap,.slice A2 n2 cap2] w fun e w'=>e=.returned (.bool (decide (l=m)))∧Below w.heap.size w w':=by
 unfold maxLen at hm hm2
 have hn:l.length=n:=hR.1
 have hn2:m.length=n2:=hR2.1
 have HN:=hid hn
 have xE:=hid hn2
 have HR:=hid hR
 have HR2:=hid hR2
 clear hR hR2 hn hn2
 by_cases he:n=n2
 ·obtain rfl:=he
  have q1:((n:Int)==(n:Int))=true:=by simp
  have q2:((n:Int) !=(n:Int))=false:=by simp
  go_enter Tryz.func89,Tryz.ntmps89
  go_wp2
  go_loopw [5,13] (fun _ vk wr=>∃k:Nat,k≤n∧vk=.int .i64 (k:Int)∧Hid (l.take k=m.take k)∧Hid (Below w.heap.size w wr)) (fun _ vk _=>n - (intOf vk).toNat)
  case atStart=>exact⟨0,Nat.zero_le _,rfl,rfl,Below.refl _ _⟩
  case round =>
   obtain⟨k,hk,rfl,HT,HBL⟩:=hrel
   by_cases hlt:k<n
   ·have hkl:k<l.length:=by rw[HN.out];exact hlt
    have hkm:k<m.length:=by rw[xE.out];exact hlt
    obtain⟨b,off,rfl,hb,h1,h2⟩:=(HR.out.under HBL.out (Nat.le_refl _)).2 k hkl
    obtain⟨b2,off2,rfl,hb2,h3,h4⟩:=(HR2.out.under HBL.out (Nat.le_refl _)).2 k hkm
    have HTT:=hid (abM hkl hkm HT.out)
    have HX:Hid (l[k]≠m[k]→l≠m):=by
     intro e1 e2
     subst e2
     exact e1 rfl
    obtain⟨⟨s1,s2⟩,hs⟩:∃s,s=l[k]:=⟨_,rfl⟩
    obtain⟨⟨t1,t2⟩,ht⟩:∃s,s=m[k]:=⟨_,rfl⟩
    rw[←hs]at h1 h2 HX HTT
    rw[←ht]at h3 h4 HX HTT
    clear hs ht hkl hkm hb hb2
    have hki:(k:Int)<(n:Int):=by omega
    simp only[]at h1 h2 h3 h4
    by_cases e1:s1=t1
    ·by_cases e2:s2=t2
     ·have HY:Hid (l.take (k+1)=m.take (k+1)):=HTT.out (by rw[e1,e2])
      have p1:=(xU s1 t1).2 e1
      have p2:=(xU s2 t2).2 e2
      have HE1:=hid e1
      have HE2:=hid e2
      clear e1 e2
      go_wp2_with fail
      go_quiet (fail)
      have hbq:=HBL.out.trans ((below_drewN' wr nq).mono HBL.out.size)
      generalize wr.drewN nq=wq at hbq⊢
      go_wp2
      go_roundw
      case rel=>exact⟨k+1,by omega,by go_num,HY.out,hbq⟩
      case measure=>simp[intOf];omega
     ·have HE:Hid (decide (l=m)=false):=decide_eq_false (HX.out (fun h=>e2 (by injection h)))
      have p1:=(xU s1 t1).2 e1
      have p2:¬s2.toList=t2.toList:=fun h=>e2 ((xU s2 t2).1 h)
      have HE1:=hid e1
      have HE2:=hid e2
      clear e1 e2
      go_wp2_with fail
      go_quiet (fail)
      have hbq:=HBL.out.trans ((below_drewN' wr nq).mono HBL.out.size)
      generalize wr.drewN nq=wq at hbq⊢
      go_wp2
      go_ret
      exact⟨ak HE.out.symm,hbq⟩
    ·have HE:Hid (decide (l=m)=false):=decide_eq_false (HX.out (fun h=>e1 (by injection h)))
     have p1:¬s1.toList=t1.toList:=fun h=>e1 ((xU s1 t1).1 h)
     have HE1:=hid e1
     clear e1
     go_wp2_with fail
     go_quiet (fail)
     have hbq:=HBL.out.trans ((below_drewN' wr nq).mono HBL.out.size)
     generalize wr.drewN nq=wq at hbq⊢
     go_wp2
     go_ret
     exact⟨ak HE.out.symm,hbq⟩
   ·obtain rfl:k=n:=by omega
    have HE:Hid (decide (l=m)=true):=decide_eq_true (by
     have h:=HT.out
     rw[List.take_of_length_le (by rw[HN.out];exact Nat.le_refl _),List.take_of_length_le (by rw[xE.out];exact Nat.le_refl _)]at h
     exact h)
    go_wp2
    go_ret
    exact⟨ak HE.out.symm,HBL.out⟩
 ·have q1:((n:Int)==(n2:Int))=false:=by simp;omega
  have q2:((n:Int) !=(n2:Int))=true:=by simp;omega
  have HE:Hid (decide (l=m)=false):=decide_eq_false (fun h=>he (by rw[←HN.out,←xE.out,h]))
  clear he
  go_enter Tryz.func89,Tryz.ntmps89
  go_wp2
  go_ret
  exact⟨ak HE.out.symm,Below.refl _ _⟩
def Jz (T S:ByteArray) (l:List (ByteArray×ByteArray)) (T2 S2:ByteArray) (m:List (ByteArray×ByteArray)):Bool:=decide (T=T2)&&(decide (S=S2)&&decide (l=m))
theorem JA (T S:ByteArray) (A:Option Addr) (n cap:Nat) (l:List (ByteArray×ByteArray)) (T2 S2:ByteArray) (A2:Option Addr) (n2 cap2:Nat) (m:List (ByteArray×ByteArray)) (w:World) (hR:zH w A n l) (hR2:zH w A2 n2 m) (hc:n≤cap) (hm:cap≤maxLen) (hc2:n2≤cap2) (hm2:cap2≤maxLen):
  Calls Tryz.prog 36 #[.agg #[.string T,.string S,.slice A n cap],.agg #[.string T2,.string S2,.slice A2 n2 cap2]] w fun e w'=>e=.returned (.bool (Jz T S l T2 S2 m))∧Below w.heap.size w w':=by
 have q1:=XH T T2
 have q2:=XH S S2
 obtain⟨b1,hb1⟩:∃b,b=decide (T=T2):=⟨_,rfl⟩
 obtain⟨b2,hb2⟩:∃b,b=decide (S=S2):=⟨_,rfl⟩
 obtain⟨b3,hb3⟩:∃b,b=decide (l=m):=⟨_,rfl⟩
 have HV:Hid (Jz T S l T2 S2 m=(b1&&(b2&&b3))):=by show _=_;rw[hb1,hb2,hb3];rfl
 rw[←hb1]at q1
 rw[←hb2]at q2
 have Tz:=hid (fun(w':World) (h:Below w.heap.size w w')=>EF A A2 n n2 cap cap2 l m w' (hR.under h (Nat.le_refl _)) (hR2.under h (Nat.le_refl _)) hc hm hc2 hm2)
 rw[←hb3]at Tz
 clear hb1 hb2 hb3 hR hR2
 cases b1 with
 |false=>
  go_enter Tryz.func36,Tryz.ntmps36
  go_wp2
  go_ret
  exact⟨ak (by rw[HV.out];rfl),((Below.refl _ _).alloc (Nat.le_refl _) _).alloc (by simp) _⟩
 |true=>
  cases b2 with
  |false=>
   go_enter Tryz.func36,Tryz.ntmps36
   go_wp2
   go_ret
   exact⟨ak (by rw[HV.out];rfl),((Below.refl _ _).alloc (Nat.le_refl _) _).alloc (by simp) _⟩
  |true=>
   go_enter Tryz.func36,Tryz.ntmps36
   go_wp2_with fail
   refine(Tz.out _ (((Below.refl _ _).alloc (Nat.le_refl _) _).alloc (by simp) _)).mono ?_
   rintro e w2 ⟨rfl,hb2⟩
   go_wp2
   go_ret
   exact⟨ak (by rw[HV.out];first|rfl|simp),(((Below.refl _ _).alloc (Nat.le_refl _) _).alloc (by simp) _).trans (hb2.mono (by simp;omega))⟩
theorem jW (T S:ByteArray) (A:Option Addr) (n cap:Nat) (l:List (ByteArray×ByteArray)) (T2 S2:ByteArray) (A2:Option Addr) (n2 cap2:Nat) (m:List (ByteArray×ByteArray)) (w:World) (hR:zH w A n l) (hR2:zH w A2 n2 m) (hc:n≤cap) (hm:cap≤maxLen) (hc2:n2≤cap2) (hm2:cap2≤maxLen):
  Calls Tryz.prog 29 #[.agg #[.string T,.string S,.slice A n cap],.agg #[.string T2,.string S2,.slice A2 n2 cap2]] w fun e w'=>e=.returned (.bool (Jz T S l T2 S2 m))∧Below w.heap.size w w':=by
 unfold maxLen at hm hm2
 have hn:l.length=n:=hR.1
 have hn2:m.length=n2:=hR2.1
 have HN:=hid hn
 have xE:=hid hn2
 have HR:=hid hR
 have HR2:=hid hR2
 have q1:=XH T T2
 have q2:=XH S S2
 obtain⟨b1,hb1⟩:∃b,b=decide (T=T2):=⟨_,rfl⟩
 obtain⟨b2,hb2⟩:∃b,b=decide (S=S2):=⟨_,rfl⟩
 have HV0:Hid (Jz T S l T2 S2 m=(b1&&(b2&&decide (l=m)))):=by show _=_;rw[hb1,hb2];rfl
 rw[←hb1]at q1
 rw[←hb2]at q2
 clear hb1 hb2 hR hR2 hn hn2
 have start:Below w.heap.size w ((w.alloc (.cells #[.string T,.string S,.slice A n cap] 44)).alloc (.cells #[.string T2,.string S2,.slice A2 n2 cap2] 44)):=((Below.refl _ _).alloc (Nat.le_refl _) _).alloc (by simp) _
 cases b1 with
 |false=>
  go_enter Tryz.func29,Tryz.ntmps29
  go_wp2
  go_ret
  exact⟨ak (by rw[HV0.out];rfl),start⟩
 | true =>
  cases b2 with
  |false=>
   go_enter Tryz.func29,Tryz.ntmps29
   go_wp2
   go_ret
   exact⟨ak (by rw[HV0.out];rfl),start⟩
  | true =>
   have HV:Hid (Jz T S l T2 S2 m=decide (l=m)):=by show _=_;rw[HV0.out];simp
   by_cases he:n=n2
   ·obtain rfl:=he
    have q3:((n:Int)==(n:Int))=true:=by simp
    have q4:((n:Int) !=(n:Int))=false:=by simp
    go_enter Tryz.func29,Tryz.ntmps29
    go_upto_region 1 with(fail)
    have gY:Hid (B3 44 ((w.alloc (.cells #[.string T,.string S,.slice A n cap] 44)).alloc (.cells #[.string T2,.string S2,.slice A2 n cap2] 44)) (w.heap.size+1) (.string T2) (.string S2) (.slice A2 n cap2)):=by
     have h:=heap_alloc_new (w.alloc (.cells #[.string T,.string S,.slice A n cap] 44)) (.cells #[.string T2,.string S2,.slice A2 n cap2] 44)
     simp only[World.size_alloc]at h
     exact h
    have kP:Hid (B3 44 ((w.alloc (.cells #[.string T,.string S,.slice A n cap] 44)).alloc (.cells #[.string T2,.string S2,.slice A2 n cap2] 44)) w.heap.size (.string T) (.string S) (.slice A n cap)):=B3.below (heap_alloc_new w _) ((Below.refl _ _).alloc (Nat.le_refl _) _)
    generalize (w.alloc _).alloc _=w1 at start kP gY⊢
    have HB1:=hid start
    clear start
    obtain⟨c0,c1,c2⟩:=kP.out.facts
    obtain⟨d0,d1,d2⟩:=gY.out.facts
    go_upto_region 4 with(fail)
    clear c0 c1 c2 d0 d1 d2
    go_loopw [5,30] (fun _ vk wr=>∃k:Nat,k≤n∧vk=.int .i64 (k:Int)∧Hid (l.take k=m.take k)∧Hid (Below w.heap.size w wr)∧Hid (B3 44 wr w.heap.size (.string T) (.string S) (.slice A n cap))∧Hid (B3 44 wr (w.heap.size+1) (.string T2) (.string S2) (.slice A2 n cap2))) (fun _ vk _=>n - (intOf vk).toNat)
    case atStart=>exact⟨0,Nat.zero_le _,rfl,rfl,HB1.out,kP.out,gY.out⟩
    case round =>
     obtain⟨k,hk,rfl,HT,HBL,kP,gY⟩:=hrel
     by_cases hlt:k<n
     ·have hkl:k<l.length:=by rw[HN.out];exact hlt
      have hkm:k<m.length:=by rw[xE.out];exact hlt
      obtain⟨b,off,rfl,hb,h1,h2⟩:=(HR.out.under HBL.out (Nat.le_refl _)).2 k hkl
      obtain⟨b2,off2,rfl,hb2,h3,h4⟩:=(HR2.out.under HBL.out (Nat.le_refl _)).2 k hkm
      have HTT:=hid (abM hkl hkm HT.out)
      have HX:Hid (l[k]≠m[k]→l≠m):=by
       intro e1 e2
       subst e2
       exact e1 rfl
      obtain⟨⟨s1,s2⟩,hs⟩:∃s,s=l[k]:=⟨_,rfl⟩
      obtain⟨⟨t1,t2⟩,ht⟩:∃s,s=m[k]:=⟨_,rfl⟩
      rw[←hs]at h1 h2 HX HTT
      rw[←ht]at h3 h4 HX HTT
      clear hs ht hkl hkm hb hb2
      have hki:(k:Int)<(n:Int):=by omega
      simp only[]at h1 h2 h3 h4
      obtain⟨c0,c1,c2⟩:=kP.out.facts
      obtain⟨d0,d1,d2⟩:=gY.out.facts
      by_cases e1:s1=t1
      ·by_cases e2:s2=t2
       ·have HY:Hid (l.take (k+1)=m.take (k+1)):=HTT.out (by rw[e1,e2])
        have p1:=(xU s1 t1).2 e1
        have p2:=(xU s2 t2).2 e2
        have HE1:=hid e1
        have HE2:=hid e2
        clear e1 e2
        go_wp2_with fail
        go_quiet (fail)
        have hbq:=HBL.out.trans ((below_drewN' wr nq).mono HBL.out.size)
        have HXq:Hid (B3 44 (wr.drewN nq) w.heap.size (.string T) (.string S) (.slice (some ⟨b,off,none⟩) n cap)):=kP.out
        have HXq2:Hid (B3 44 (wr.drewN nq) (w.heap.size+1) (.string T2) (.string S2) (.slice (some ⟨b2,off2,none⟩) n cap2)):=gY.out
        generalize wr.drewN nq=wq at hbq HXq HXq2⊢
        go_wp2
        go_roundw
        case rel=>exact⟨k+1,by omega,by go_num,HY.out,hbq,HXq.out,HXq2.out⟩
        case measure=>simp[intOf];omega
       ·have HE:Hid (decide (l=m)=false):=decide_eq_false (HX.out (fun h=>e2 (by injection h)))
        have p1:=(xU s1 t1).2 e1
        have p2:¬s2.toList=t2.toList:=fun h=>e2 ((xU s2 t2).1 h)
        have HE1:=hid e1
        have HE2:=hid e2
        clear e1 e2
        go_wp2_with fail
        go_quiet (fail)
        have hbq:=HBL.out.trans ((below_drewN' wr nq).mono HBL.out.size)
        generalize wr.drewN nq=wq at hbq⊢
        go_wp2
        go_ret
        exact⟨ak (by rw[HV.out,HE.out]),hbq⟩
      ·have HE:Hid (decide (l=m)=false):=decide_eq_false (HX.out (fun h=>e1 (by injection h)))
       have p1:¬s1.toList=t1.toList:=fun h=>e1 ((xU s1 t1).1 h)
       have HE1:=hid e1
       clear e1
       go_wp2_with fail
       go_quiet (fail)
       have hbq:=HBL.out.trans ((below_drewN' wr nq).mono HBL.out.size)
       generalize wr.drewN nq=wq at hbq⊢
       go_wp2
       go_ret
       exact⟨ak (by rw[HV.out,HE.out]),hbq⟩
     ·obtain rfl:k=n:=by omega
      have HE:Hid (decide (l=m)=true):=decide_eq_true (by
       have h:=HT.out
       rw[List.take_of_length_le (by rw[HN.out];exact Nat.le_refl _),List.take_of_length_le (by rw[xE.out];exact Nat.le_refl _)]at h
       exact h)
      go_wp2
      go_ret
      exact⟨ak (by rw[HV.out,HE.out]),HBL.out⟩
   ·have q3:((n:Int)==(n2:Int))=false:=by simp;omega
    have q4:((n:Int) !=(n2:Int))=true:=by simp;omega
    have HE:Hid (decide (l=m)=false):=decide_eq_false (fun h=>he (by rw[←HN.out,←xE.out,h]))
    clear he
    go_enter Tryz.func29,Tryz.ntmps29
    go_wp2
    go_ret
    exact⟨ak (by rw[HV.out,HE.out]),start⟩
end Go.Proofs.YtmpeaoacaecgpaaGreatDoor.J7
namespace Go.Proofs.YtmpeaoacaecgpaaGreatDoor.OY
open Go.RowKit Base Base2 cO pU qg NG OX oG Zu sV BG NH J6 J7 rC CQ
theorem Ls (T S:ByteArray) (l:List (ByteArray×ByteArray)):Jz T S l T S l=true:=by unfold Jz;simp
end Go.Proofs.YtmpeaoacaecgpaaGreatDoor.OY
