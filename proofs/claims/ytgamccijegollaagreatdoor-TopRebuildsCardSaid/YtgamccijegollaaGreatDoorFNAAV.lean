/- Texts that belong together: TK, StkF, OpqA, OpqB, OpqC, aj3, StkH, xC, ajh, uN, akp, ScrB, ScrW, ScrE. -/
import Derived.Test.YtgamccijegollaaGreatDoorFNAAJ
import Derived.BigQuiet
import Derived.Deep.QuietTactic
import Derived.Test.YtgamccijegollaaGreatDoorFNAAA
import Derived.Test.YtgamccijegollaaGreatDoorFNAAO
import Derived.Test.YtgamccijegollaaGreatDoorFNAAP
import Derived.Test.YtgamccijegollaaGreatDoorFNAAS
import Derived.Test.YtgamccijegollaaGreatDoorFNAAH
import Derived.Test.YtgamccijegollaaGreatDoorFNAAF
import Derived.Test.YtgamccijegollaaGreatDoorFNAAT
import Derived.Test.YtgamccijegollaaGreatDoorFNAAK
import Derived.IntWalk
import Derived.Test.YtgamccijegollaaGreatDoorFNAAE
import Derived.Test.YtgamccijegollaaGreatDoorFNAAQ
import Derived.Laws.IdiomStrings
import Derived.Shelf.Strings.BuilderF
import Derived.Deep.DeepCutAuto
import Derived.Test.YtgamccijegollaaGreatDoorFNAAD
import Derived.Lib.SlTrimSet
import Derived.Lib.SlBytesConst
import Derived.Lib.SliceRun
import Derived.Laws.OwnMore
import Derived.Laws.BitsAllLaws
import Derived.Laws.StructEq
import Derived.Test.YtgamccijegollaaGreatDoorFNAAL
import Derived.Great.BuildSlice
import Derived.Deep.Cut
set_option linter.unusedSimpArgs false
set_option linter.unusedVariables false
set_option maxRecDepth 100000
set_option maxHeartbeats 64000000
namespace Go.Proofs.YtgamccijegollaaGreatDoor.TK
open Go.RowKit Base Dp acj L6 cO iH uw xH ajY TL
theorem ist_low {B B' g r n:Nat} {l:List (Nat×Nat)} {w:World} (h:Ny TT TE uw.nT B g r n l w) (hb:B'≤B):Ny TT TE uw.nT B' g r n l w:=by
 obtain⟨v,a,b,c⟩:=h
 exact⟨v,a,ay b hb,Nat.le_trans hb c⟩
theorem iss_low {B B' g r:Nat} {l:List (Bc Nat)} {w:World} (h:IsS ST SE uw.nT B g r l w) (hb:B'≤B):IsS ST SE uw.nT B' g r l w:=by
 obtain⟨v,a,b,c⟩:=h
 exact⟨v,a,ay b hb,Nat.le_trans hb c⟩
theorem ms_low {t:TypeId} {B B' g cap:Nat} {U P:List Value} {w:World} (h:MS t B w g cap U P) (hb:B'≤B):MS t B' w g cap U P:=by
 obtain⟨cu,cp,s,r,s',r',a,b,c,d,e,f,g⟩:=h
 exact⟨cu,cp,s,r,s',r',a,b,c,d,Nat.le_trans hb e,Nat.le_trans hb f,Nat.le_trans hb g⟩
def nil0 (n b u:Nat):SM:=⟨n,b,u,0,[],[],[],[],fun _=>([],[])⟩
theorem amy (b u n:Nat) (hb1:1≤b) (hb2:b≤64) (hu1:1≤u) (hu2:u≤64) (hn:n≤1048576) (w:World):Calls Tryz.prog 47 #[.agg #[.int .i64 (b:Int),.int .i64 (u:Int),.int .i64 (n:Int)]] w fun e w'=>∃gs gt gu gm,e=.returned (.tuple #[.pointer (some ⟨gs,0,none⟩),.int .i64 0])∧Bh w.heap.size gs gt gu gm (nil0 n b u) w'∧Below w.heap.size w w':=by
 have q1:¬(n:Int)<0:=by omega
 have q2:¬(1048576:Int)<(n:Int):=by omega
 go_enter Tryz.func47,Tryz.ntmps47
 go_upto_region 1 with(fail)
 generalize bI:World.alloc w _=v1
 have h1_:v1.heap[w.heap.size]?=some (.cells #[.int .i64 (b:Int),.int .i64 (u:Int),.int .i64 (n:Int)] 91 (0,0))∧Below w.heap.size w v1:=by
  subst bI
  exact⟨heap_alloc_new w _,(Below.refl _ _).alloc (Nat.le_refl _) _⟩
 clear bI
 have X1:=hid h1_.1
 have HB1:=hid h1_.2
 clear h1_
 obtain⟨c0,c1,c2⟩:=cells3 X1.out
 go_wp2_with fail
 refine(TbB.new_any b hb1 hb2 _).mono ?_
 rintro e w2 ⟨gt,rfl,hT,hb⟩
 have HT2:=hid hT
 have HB2:=hid (bel HB1.out hb)
 have X2:=hid ((hb.block _ (Array.getElem?_eq_some_iff.1 X1.out).1).trans X1.out)
 have HL2:Hid (w.heap.size≤v1.heap.size):=HB1.out.size
 clear hT hb c0 c1 c2 X1
 obtain⟨c0,c1,c2⟩:=cells3 X2.out
 go_wp2_with fail
 refine(WX.new_any u hu1 hu2 _).mono ?_
 rintro e w3 ⟨gu,rfl,hS,hb⟩
 have TD:=hid hS
 have HT3:=hid (HT2.out.below hb)
 have HB3:=hid (bel HB2.out hb)
 have X3:=hid ((hb.block _ (Array.getElem?_eq_some_iff.1 X2.out).1).trans X2.out)
 have HL3:Hid (w.heap.size≤w2.heap.size):=HB2.out.size
 clear hS hb c0 c1 c2 X2 HT2
 obtain⟨c0,c1,c2⟩:=cells3 X3.out
 go_wp2_with fail
 refine(newS u hu1 hu2 _).mono ?_
 rintro e w4 ⟨gm,rfl,hM,hb⟩
 have HM4:=hid hM
 have HS4:=hid (TD.out.below hb)
 have HT4:=hid (HT3.out.below hb)
 have HB4:=hid (bel HB3.out hb)
 have X4:=hid ((hb.block _ (Array.getElem?_eq_some_iff.1 X3.out).1).trans X3.out)
 have HL4:Hid (w.heap.size≤w3.heap.size):=HB3.out.size
 clear hM hb c0 c1 c2 X3 HT3 TD
 obtain⟨c0,c1,c2⟩:=cells3 X4.out
 go_wp2
 go_ret2
 have hb5:=(Below.refl w4.heap.size w4).alloc (Nat.le_refl _) (.cells #[.int .i64 (n:Int),.pointer (some ⟨gt,0,none⟩),.pointer (some ⟨gu,0,none⟩),.pointer (some ⟨gm,0,none⟩)] 165)
 exact⟨w4.heap.size,gt,gu,gm,rfl,⟨heap_alloc_new w4 _,ist_low (HT4.out.below hb5) HL2.out,iss_low (HS4.out.below hb5) HL3.out,ms_low (HM4.out.below hb5) HL4.out,fun g hg=>absurd hg (by rintro(⟨p,h,_⟩|⟨p,h,_⟩)<;>cases h),HB4.out.size,⟨Nat.zero_le _,hb2,Nat.zero_le _,hu2,Nat.zero_le _,hn,fun i j hi=>absurd hi (Nat.not_lt_zero _),fun p hp=>(by cases hp)⟩⟩,bel HB4.out hb5⟩
end Go.Proofs.YtgamccijegollaaGreatDoor.TK
namespace Go.Proofs.YtgamccijegollaaGreatDoor.StkF
open Go.RowKit Base Dp L6 Kq mW wS ES apv ajr akM TL TK
theorem aoD {w:World} (pv:Option Addr) (sp:Value) (T s h:ByteArray) (p n:Int) (Q:Array Value→World→Prop) (HQ:∀(cs:Array Value) (a:World) (g:Nat) (ds:Array Value),Q cs a→AB a g #[.int .i64 0,.int .i64 0,.int .i64 0,.int .i64 0,.string ⟨#[]⟩,.slice none 0 0]→w.heap.size≤g→g<w.heap.size+2→Q cs (a.setRow g ds))
  (HF:Hid (∀w',Below w.heap.size w w'→w.heap.size+2≤w'.heap.size→Calls Tryz.prog 45 #[.iface 87 (.pointer pv),.string T,.agg #[.string s,.string h,.int .i64 p,.int .i64 n],sp] w' fun e w''=>∃cs,e=.returned (.agg cs)∧cs.size=6∧cs.all (·.oneCell')=true∧Below w'.heap.size w' w''∧Q cs w'')):
  Calls Tryz.prog 48 #[.pointer pv,.string T,.agg #[.string s,.string h,.int .i64 p,.int .i64 n],sp] w fun e w'=>∃cs,e=.returned (.agg cs)∧cs.size=6∧Below w.heap.size w w'∧Q cs w':=by
 go_enter Tryz.func48,Tryz.ntmps48
 go_upto_region 1 with(fail)
 generalize bI:World.alloc (World.alloc w _) _=v1
 have h1_:OB v1 w.heap.size s h p n∧AB v1 (w.heap.size+1) #[.int .i64 0,.int .i64 0,.int .i64 0,.int .i64 0,.string ⟨#[]⟩,.slice none 0 0]∧Below w.heap.size w v1:=by
  subst bI
  exact laid2 w _ _ _ _
 clear bI
 have ZE:=hid h1_.1
 have Po:=hid h1_.2.1
 have HB1:=hid h1_.2.2
 have BD:Hid (w.heap.size+2≤v1.heap.size):=h1_.2.1.lt
 clear h1_
 have pY:=hid (nI ZE.out)
 go_wp2_with (refine fJ pY.out (.tmp 6) rfl rfl rfl ?_)
 refine(HF.out _ HB1.out BD.out).mono ?_
 rintro e v2 ⟨cs,rfl,hcs,hone,hb2,hq⟩
 have Pq:=hid (Po.out.below hb2)
 have HB2:=hid (bel HB1.out hb2)
 have HQ2:=hid hq
 have HC2:=hid hcs
 have xE:=hid hone
 clear hb2 hq hcs hone ZE Po HB1 pY
 go_wp2_with (refine sG Pq.out cs rfl HC2.out xE.out (.tmp 8) (.tmp 14) rfl rfl rfl rfl ?_)
 try simp only[Exit.inBlock,Exit.then]
 exact bodyPost_ret (w:=World.setRow v2 (w.heap.size+1) cs) (abo rfl (AB.row Pq.out _) HC2.out _ rfl) rfl ⟨cs,rfl,HC2.out,below_setRow HB2.out (Nat.le_succ w.heap.size) _,HQ _ _ _ _ HQ2.out Pq.out (Nat.le_succ _) (Nat.lt_succ_self _)⟩
theorem Yu {w:World} (pv:Option Addr) (sp:Value) (T s h:ByteArray) (p n:Int) (Q:Array Value→World→Prop) (HQ:∀(cs:Array Value) (a:World) (g:Nat) (ds:Array Value),Q cs a→w.heap.size≤g→g<w.heap.size+2→Q cs (a.setRow g ds))
  (HF:Hid (∀w',Below w.heap.size w w'→w.heap.size+2≤w'.heap.size→Calls Tryz.prog 45 #[.iface 87 (.pointer pv),.string T,.agg #[.string s,.string h,.int .i64 p,.int .i64 n],sp] w' fun e w''=>∃cs,e=.returned (.agg cs)∧cs.size=6∧cs.all (·.oneCell')=true∧Below w'.heap.size w' w''∧Q cs w'')):
  Calls Tryz.prog 48 #[.pointer pv,.string T,.agg #[.string s,.string h,.int .i64 p,.int .i64 n],sp] w fun e w'=>∃cs,e=.returned (.agg cs)∧cs.size=6∧Below w.heap.size w w'∧Q cs w':=
 aoD pv sp T s h p n Q (fun cs a g ds q _ h1 h2=>HQ cs a g ds q h1 h2) HF
end Go.Proofs.YtgamccijegollaaGreatDoor.StkF
namespace Go.Proofs.YtgamccijegollaaGreatDoor.OpqA
open Go.RowKit Base L6 Dp dI cO acv ac2 acD aco wS yw tN Fp mW Pbx tK yx jQ sU pO TI aj9
theorem aif (p:Parts) (w:World) (hs:p.rest.length≤900000) (h47:Lib.hasPrefix p.rest [47]=false) (h32:Lib.hasSuffix (FM.enc 0 p.rest) [32]=false):Calls Tryz.prog 121 #[.agg (bQ p)] w (mO w (some {U0 with au:=p.au,port:= -1,opq:=true,txt:=FM.enc 0 p.rest})):=by
 obtain⟨s,r,q,f,hq,hf⟩:=p
 simp only at hs h47 h32⊢
 obtain⟨E,hE⟩:∃E,E=FM.enc 0 r:=⟨_,rfl⟩
 rw[←hE]at h32⊢
 obtain⟨O,hO⟩:∃O,O=some ({U0 with au:=s,port:= -1,opq:=true,txt:=E}:U):=⟨_,rfl⟩
 rw[←hO]
 have h472:Lib.hasPrefix r [47,47]=false:=by
  unfold Lib.hasPrefix at h47⊢
  cases r with
  |nil=>rfl
  |cons c t=>simp only[List.isPrefixOf,Bool.and_true]at h47⊢;rw[h47];rfl
 have HP2:Hid (∀w:World,Calls Tryz.prog 116 #[.string (strOf r),.string ⟨#[47,47]⟩] w fun e w'=>e=.returned (.bool false)∧w'=w):=fun w=>by rw[←h472];exact Tryz.strings_HasPrefix (strOf r) ⟨#[47,47]⟩ w
 have yc:Hid (∀w:World,Calls Tryz.prog 116 #[.string (strOf r),.string ⟨#[47]⟩] w fun e w'=>e=.returned (.bool false)∧w'=w):=fun w=>by rw[←h47];exact Tryz.strings_HasPrefix (strOf r) ⟨#[47]⟩ w
 have hEl:E.length≤3000000:=by rw[hE];have:=FM.iW 0 r;omega
 have F6:Hid (∀(A:Option Addr) (n c:Nat) (w:World),aY w A n (ah r)→n≤1073741824→Calls Tryz.prog 123 #[.int .i64 0,.slice A n c] w fun e w'=>e=.returned (.string (strOf E))∧Below w.heap.size w w'):=fun A n c w h1 h2=>by rw[hE];exact FM.eF 0 A n c r w h1 h2
 obtain⟨TS,hTS⟩:∃x,x=Lib.trimSuffix E [32]:=⟨_,rfl⟩
 have Y5:Hid (∀w:World,Calls Tryz.prog 171 #[.string (strOf E),.string ⟨#[32]⟩] w fun e w'=>e=.returned (.tuple #[.string (strOf TS),.bool false])∧w'=w):=fun w=>by rw[hTS,←h32];exact Tryz.strings_CutSuffix (strOf E) ⟨#[32]⟩ w (by rw[o9];omega)
 have HO:=hid hO
 clear hO h47 h472 h32 hTS hE
 go_enter Tryz.func121,Tryz.ntmps121
 go_upto_region 1 with(fail)
 generalize hw:World.alloc (World.alloc w _) _=w1
 have h1:PB w1 (w.heap.size) (⟨s,r,q,f,hq,hf⟩)∧UB w1 ((w.heap.size+1)) (U0) (.slice none 0 0)∧Below w.heap.size w w1:=by
  subst hw
  exact laid2 w _ _ _ _
 clear hw
 have J8:Hid (w.heap.size≠(w.heap.size+1)):=by show _≠_;omega
 have J9:Hid ((w.heap.size+1)≠w.heap.size):=by show _≠_;omega
 have WL:Hid (w.heap.size≤w.heap.size):=Nat.le_refl _
 have bP:Hid (w.heap.size≤(w.heap.size+1)):=Nat.le_succ _
 have dF:=hid h1.1
 have aW:=hid h1.2.1
 have bM:=hid h1.2.2
 clear h1
 obtain⟨p0,p1,p2,p3,p4,p5⟩:=dF.out.facts
 go_upto_region 7 with(fail)
 generalize hw:World.alloc w1 _=w2
 have h1:UB w2 (w1.heap.size) ({U0 with au:=s,port:= -1}) (.slice none 0 0)∧Below w1.heap.size w1 w2:=by
  subst hw
  exact laid1 w1 _ _
 clear hw
 have hlp:=dF.out.lt
 have jf:Hid (w.heap.size≠w1.heap.size):=by show _≠_;omega
 have Ko:Hid (w1.heap.size≠w.heap.size):=by show _≠_;omega
 clear hlp
 have hlr:=aW.out.lt
 have aX:Hid ((w.heap.size+1)≠w1.heap.size):=by show _≠_;omega
 have nO:Hid (w1.heap.size≠(w.heap.size+1)):=by show _≠_;omega
 clear hlr
 have fK:Hid (w.heap.size≤w1.heap.size):=bM.out.size
 have jE:=hid (dF.out.below h1.2)
 have bK:=hid (aW.out.below h1.2)
 have eX:=hid (bel bM.out h1.2)
 have fZ:=hid h1.1
 clear dF aW bM
 clear h1
 clear p0 p1 p2 p3 p4 p5
 obtain⟨p0,p1,p2,p3,p4,p5⟩:=jE.out.facts
 go_wp2_with fail
 refine(HP2.out _).mono ?_
 rintro e wx ⟨rfl,hwx⟩
 obtain rfl:w2=wx:=by first|exact hwx|exact hwx.symm
 clear hwx
 go_wp2_with fail
 refine(yc.out _).mono ?_
 rintro e wx ⟨rfl,hwx⟩
 obtain rfl:w2=wx:=by first|exact hwx|exact hwx.symm
 clear hwx
 clear p0 p1 p2 p3 p4 p5
 have cx6:=fZ.out.facts.2.2.2.2.2.2.1
 have fx6:=fZ.out.thaw.2.2.2.2.2.2.1
 go_upto_region 3 with(fail)
 have hxp:=(jE.out.set (k:=w1.heap.size) (i:=6) (.bool true) jf.out)
 have hxr:=(bK.out.set (k:=w1.heap.size) (i:=6) (.bool true) aX.out)
 have hxu:=(fZ.out.opq true)
 have hb:=(eX.out.setCell (p:=⟨w1.heap.size,6,none⟩) fK.out (.bool true))
 clear jE bK fZ eX
 clear cx6 fx6
 generalize (World.setCell w2 ⟨w1.heap.size,6,none⟩ (.bool true))=w3 at hxp hxr hxu hb⊢
 have mY:Hid (PB w3 (w.heap.size) (⟨s,r,q,f,hq,hf⟩)):=hxp
 clear hxp
 have bD:Hid (UB w3 ((w.heap.size+1)) (U0) (.slice none 0 0)):=hxr
 clear hxr
 have eY:Hid (UB w3 (w1.heap.size) ({U0 with au:=s,port:= -1,opq:=true}) (.slice none 0 0)):=hxu
 clear hxu
 have cZ:=hid hb
 clear hb
 obtain⟨p0,p1,p2,p3,p4,p5⟩:=mY.out.facts
 have hcv:=fun(w:World) s=>run_bytes_of_string (P:=Tryz.prog) w 9 45 5 s Tryz.underlying9 Tryz.underlying45 Tryz.underlying5
 go_wp2_with fail
 clear hcv
 refine(F6.out _ _ _ _ (fV (strOf r) _ _ _) (dW (by omega))).mono ?_
 rintro e w4 ⟨rfl,hb0⟩
 have hbx:Below w3.heap.size w3 w4:=bel (((Below.refl w3.heap.size w3).alloc (Nat.le_refl _) _).drew) hb0
 clear hb0
 have kT:=hid (mY.out.below hbx)
 have bF:=hid (bD.out.below hbx)
 have bV:=hid (eY.out.below hbx)
 have dD:=hid (bel cZ.out hbx)
 clear mY bD eY cZ
 clear hbx
 clear p0 p1 p2 p3 p4 p5
 have SH:=bV.out.facts.2.2.2.2.2.2.2.1
 have fx7:=bV.out.thaw.2.2.2.2.2.2.2.1
 go_upto_region 4 with(fail)
 have hxp:=(kT.out.set (k:=w1.heap.size) (i:=7) (.string (strOf E)) jf.out)
 have hxr:=(bF.out.set (k:=w1.heap.size) (i:=7) (.string (strOf E)) aX.out)
 have hxu:=(bV.out.txt E)
 have hb:=(dD.out.setCell (p:=⟨w1.heap.size,7,none⟩) fK.out (.string (strOf E)))
 clear kT bF bV dD
 clear SH fx7
 generalize (World.setCell w4 ⟨w1.heap.size,7,none⟩ (.string (strOf E)))=w5 at hxp hxr hxu hb⊢
 have mF:Hid (PB w5 (w.heap.size) (⟨s,r,q,f,hq,hf⟩)):=hxp
 clear hxp
 have bH:Hid (UB w5 ((w.heap.size+1)) (U0) (.slice none 0 0)):=hxr
 clear hxr
 have bJ:Hid (UB w5 (w1.heap.size) ({U0 with au:=s,port:= -1,opq:=true,txt:=E}) (.slice none 0 0)):=hxu
 clear hxu
 have fC:=hid hb
 clear hb
 have SH:=bJ.out.facts.2.2.2.2.2.2.2.1
 go_wp2_with fail
 refine(Y5.out _).mono ?_
 rintro e wx ⟨rfl,hwx⟩
 obtain rfl:w5=wx:=by first|exact hwx|exact hwx.symm
 clear hwx
 go_upto_region 11 with(fail)
 clear SH
 have mX:Hid (O=some {U0 with au:=s,port:= -1,opq:=true,txt:=E}):=HO
 obtain⟨c0,c1,c2',c3,c4,c5,c6,c7,c8,c9,c10,c11,c12⟩:=bJ.out.facts
 go_wp2_with (refine aC bH.out {U0 with au:=s,port:= -1,opq:=true,txt:=E} none 0 0 (.tmp 2) (.tmp 56) rfl rfl rfl rfl ?_)
 try simp only[Exit.inBlock,Exit.then]
 exact bodyPost_ret (w:=World.setRow w5 (w.heap.size+1) (cells {U0 with au:=s,port:= -1,opq:=true,txt:=E} (.slice none 0 0))) (res2 (u:={U0 with au:=s,port:= -1,opq:=true,txt:=E}) (p:=.slice none 0 0) rfl (bH.out.row {U0 with au:=s,port:= -1,opq:=true,txt:=E} _) true _ rfl rfl) rfl (eH (u:={U0 with au:=s,port:= -1,opq:=true,txt:=E}) mX.out (below_setRow fC.out bP.out _) (wY _ _ rfl))
end Go.Proofs.YtgamccijegollaaGreatDoor.OpqA
namespace Go.Proofs.YtgamccijegollaaGreatDoor.OpqB
open Go.RowKit Base L6 Dp dI cO acv ac2 acD aco wS yw tN Fp mW Pbx tK yx WS jQ sU pO TI aj9 OpqA
theorem abr (p:Parts) (w:World) (hs:p.rest.length≤700000) (hs1:p.au≠FILE) (hsp:special p.au=false) (h0:p.au≠[]) (h47:Lib.hasPrefix p.rest [47]=false) (h32:Lib.hasSuffix (FM.enc 0 p.rest) [32]=false):Calls Tryz.prog 54 #[.agg (bQ p),.pointer none] w (mO w (some {U0 with au:=p.au,port:= -1,opq:=true,txt:=FM.enc 0 p.rest})):=by
 obtain⟨s,rt,q,f,hq,hf⟩:=p
 simp only at hs hs1 hsp h0 h47 h32⊢
 obtain⟨O,hO⟩:∃O,O=some ({U0 with au:=s,port:= -1,opq:=true,txt:=FM.enc 0 rt}:U):=⟨_,rfl⟩
 rw[←hO]
 have wC:Hid (∀w:World,Calls Tryz.prog 115 #[.string (strOf s)] w fun e w'=>e=.returned (.bool false)∧w'=w):=fun w=>by rw[←hsp];exact jv (strOf s) w
 have vW:Hid (∀w:World,Calls Tryz.prog 121 #[.agg (bQ ⟨s,rt,q,f,hq,hf⟩)] w (mO w O)):=fun w=>by rw[hO];exact aif ⟨s,rt,q,f,hq,hf⟩ w (by show rt.length≤_;omega) h47 h32
 clear hO hsp h47 h32
 go_enter Tryz.func54,Tryz.ntmps54
 go_upto_region 1 with(fail)
 generalize hw:World.alloc (World.alloc w _) _=w1
 have h1:PB w1 (w.heap.size) (⟨s,rt,q,f,hq,hf⟩)∧UB w1 ((w.heap.size+1)) (U0) (.slice none 0 0)∧Below w.heap.size w w1:=by
  subst hw
  exact laid2 w _ _ _ _
 clear hw
 have WL:Hid (w.heap.size≤w.heap.size):=Nat.le_refl _
 have bP:Hid (w.heap.size≤(w.heap.size+1)):=Nat.le_succ _
 have dF:=hid h1.1
 have aW:=hid h1.2.1
 have bM:=hid h1.2.2
 clear h1
 obtain⟨p0,p1,p2,p3,p4,p5⟩:=dF.out.facts
 have afn:((strOf s).toList==[102,105,108,101])=false:=by rw[aK,beq_eq_false_iff_ne];exact hs1
 have afo:¬(strOf s).toList=[102,105,108,101]:=by rw[aK];exact hs1
 go_wp2_with fail
 refine(wC.out _).mono ?_
 rintro e wx ⟨rfl,hwx⟩
 obtain rfl:w1=wx:=by first|exact hwx|exact hwx.symm
 clear hwx
 have Z9:((strOf s).toList==[])=false:=by rw[aK,beq_eq_false_iff_ne];exact h0
 have aac:¬(strOf s).toList=[]:=by rw[aK];exact h0
 have e2:(strOf s).toList.isEmpty=false:=by rw[aK];simpa using h0
 clear h0 hs1
 go_wp2_with fail
 refine(vW.out _).mono ?_
 rintro e w2 ⟨hbx,u',A',n',c',ok,rfl,hown,yK⟩
 have iy:Hid ((w.heap.size+1)<w1.heap.size):=aW.out.lt
 have HOW:=hid hown
 have F8:=hid yK
 clear hown yK
 have jE:=hid (dF.out.below hbx)
 have bK:=hid (aW.out.below hbx)
 have eX:=hid (bel bM.out hbx)
 have Ib:Hid (w.heap.size≤w1.heap.size):=bM.out.size
 clear dF aW bM
 clear hbx
 go_wp2_with (refine aC bK.out u' A' n' c' (.tmp 4) (.tmp 71) rfl rfl rfl rfl ?_)
 try simp only[Exit.inBlock,Exit.then]
 exact bodyPost_ret (w:=World.setRow w2 (w.heap.size+1) (cells u' (.slice A' n' c'))) (res2 (u:=u') (p:=.slice A' n' c') rfl (bK.out.row u' _) ok _ rfl rfl) rfl ⟨below_setRow eX.out bP.out _,u',A',n',c',ok,rfl,(HOW.out.row iy.out _).base Ib.out,F8.out⟩
end Go.Proofs.YtgamccijegollaaGreatDoor.OpqB
namespace Go.Proofs.YtgamccijegollaaGreatDoor.OpqC
open Go.RowKit Base L6 Dp dI cO acv ac2 acD aco wS yw tN Fp mW Pbx tK yx jQ sU pO acr vZ TI akb WQ OpqB
theorem VJ (T:List UInt8) (p:Parts) (w:World) (hp:p=wS.apart (clean T)) (hs:T.length≤65536) (hs1:p.au≠FILE) (hsp:special p.au=false) (h0:p.au≠[]) (h47:Lib.hasPrefix p.rest [47]=false) (h32:Lib.hasSuffix (FM.enc 0 p.rest) [32]=false) (hM:Max w) (hU:rD w):Calls Tryz.prog 16 #[.string (strOf T),.pointer none] w (xC w (some (wS.finish {U0 with au:=p.au,port:= -1,opq:=true,txt:=FM.enc 0 p.rest} p))):=by
 have hcl:=yF T
 obtain⟨C,hC⟩:∃x,x=clean T:=⟨_,rfl⟩
 rw[←hC]at hcl hp
 have hpl:=Kv C
 rw[←hp]at hpl
 obtain⟨UV,hUV⟩:∃x,x=({U0 with au:=p.au,port:= -1,opq:=true,txt:=FM.enc 0 p.rest}:U):=⟨_,rfl⟩
 rw[←hUV]
 obtain⟨OU,hOU⟩:∃x,x=some (wS.finish UV p):=⟨_,rfl⟩
 rw[←hOU]
 have HCL:Hid (∀w:World,rD w→Calls Tryz.prog 19 #[.string (strOf T)] w fun e w'=>e=.returned (.string (strOf C))∧Below w.heap.size w w'):=fun w h=>by rw[hC];exact clean_any T w (by omega) h
 have HAP:Hid (∀w:World,Max w→Calls Tryz.prog 53 #[.string (strOf C)] w fun e w'=>e=.returned (.agg (bQ p))∧Below w.heap.size w w'):=fun w h=>by rw[hp];exact qm C w (by omega) h
 have HRS:Hid (∀w:World,Calls Tryz.prog 54 #[.agg (bQ p),.pointer none] w (mO w (some UV))):=fun w=>by rw[hUV];exact abr p w (by omega) hs1 hsp h0 h47 h32
 have WC:Hid (∀(u:U) (A:Option Addr) (n c:Nat) (w:World),Calls Tryz.prog 55 #[.agg (cells u (.slice A n c)),.agg (bQ p)] w fun e w'=>e=.returned (.agg (cells (wS.finish u p) (.slice A n c)))∧Below w.heap.size w w'):=fun u A n c w=>Gx u p A n c w (by omega) (by omega)
 have hTI:¬((strOf T).size:Int)>65536:=by rw[o9];omega
 have atU:((strOf T).size:Int)≤65536:=by omega
 have HOU:=hid hOU
 have HM:=hid hM
 have HUT:=hid hU
 clear hOU hp hC hM hU hpl hcl hs1 hsp h0 h47 h32 hUV
 obtain⟨s,rt,q,f,hq,hf⟩:=p
 go_enter Tryz.func16,Tryz.ntmps16
 go_upto_region 1 with(fail)
 generalize hw:World.alloc w _=w1
 have h1:UB w1 (w.heap.size) (U0) (.slice none 0 0)∧Below w.heap.size w w1:=by
  subst hw
  exact laid1 w _ _
 clear hw
 have bP:Hid (w.heap.size≤w.heap.size):=(Below.refl w.heap.size w).size
 have bM:=hid (bel (Below.refl w.heap.size w) h1.2)
 have aW:=hid h1.1
 clear h1
 go_wp2_with fail
 refine(HCL.out _ (HUT.out.below bM.out)).mono ?_
 rintro e w2 ⟨rfl,hbx⟩
 have bK:=hid (aW.out.below hbx)
 have eX:=hid (bel bM.out hbx)
 clear aW bM
 clear hbx
 go_wp2_with fail
 refine(HAP.out _ (HM.out.below eX.out)).mono ?_
 rintro e w3 ⟨rfl,hbx⟩
 have bD:=hid (bK.out.below hbx)
 have cZ:=hid (bel eX.out hbx)
 clear bK eX
 clear hbx
 rw[show Value.agg (bQ ⟨s,rt,q,f,hq,hf⟩)=.agg #[.string (strOf s),.string (strOf rt),.string (strOf q),.string (strOf f),.bool hq,.bool hf]from rfl]
 go_upto_region 4 with(fail)
 generalize hw:World.alloc w3 _=w4
 have h1:PB w4 (w3.heap.size) (⟨s,rt,q,f,hq,hf⟩)∧Below w3.heap.size w3 w4:=by
  subst hw
  exact laid1 w3 _ _
 clear hw
 have hlr:=bD.out.lt
 have J9:Hid (w.heap.size≠w3.heap.size):=by show _≠_;omega
 have J8:Hid (w3.heap.size≠w.heap.size):=by show _≠_;omega
 clear hlr
 have WL:Hid (w.heap.size≤w3.heap.size):=cZ.out.size
 have bF:=hid (bD.out.below h1.2)
 have dD:=hid (bel cZ.out h1.2)
 have kT:=hid h1.1
 clear bD cZ
 clear h1
 obtain⟨p0,p1,p2,p3,p4,p5⟩:=kT.out.facts
 go_wp2_with fail
 clear p0 p1 p2 p3 p4 p5
 refine(HRS.out _).mono ?_
 rintro e w5 ⟨hbx,u',A',n',c',ok,rfl,hown,yK⟩
 have iy:Hid (w.heap.size<w4.heap.size):=bF.out.lt
 have Ib:Hid (w.heap.size≤w4.heap.size):=dD.out.size
 have bH:=hid (bF.out.below hbx)
 have mF:=hid (kT.out.below hbx)
 have fC:=hid (bel dD.out hbx)
 have F8:=hid yK
 have ajR:=hid (show Own w4 w5 u' A' n' c' from hown)
 clear yK hown
 clear bF kT dD
 clear hbx
 rw[show Value.agg (cells u' (.slice A' n' c'))=.agg #[.string (strOf u'.au),.string (strOf u'.usr),.string (strOf u'.MX),.string (strOf u'.hst),.bool u'.hh,.int .i64 u'.port,.bool u'.opq,.string (strOf u'.txt),.slice A' n' c',.bool u'.hq,.bool u'.hf,.string (strOf u'.dY),.string (strOf u'.fB)]from rfl]
 go_upto_region 5 with(fail)
 generalize hw:World.alloc w5 _=w6
 have h1:UB w6 (w5.heap.size) (u') (.slice A' n' c')∧Below w5.heap.size w5 w6:=by
  subst hw
  exact laid1 w5 _ _
 clear hw
 have hlr:=bH.out.lt
 have aX:Hid (w.heap.size≠w5.heap.size):=by show _≠_;omega
 have nO:Hid (w5.heap.size≠w.heap.size):=by show _≠_;omega
 clear hlr
 have hlp:=mF.out.lt
 have jf:Hid (w3.heap.size≠w5.heap.size):=by show _≠_;omega
 have Ko:Hid (w5.heap.size≠w3.heap.size):=by show _≠_;omega
 clear hlp
 have fK:Hid (w.heap.size≤w5.heap.size):=fC.out.size
 have bT:=hid (bH.out.below h1.2)
 have yg:=hid (mF.out.below h1.2)
 have gq:=hid (bel fC.out h1.2)
 have bG:=hid h1.1
 have HBU:=hid h1.2
 clear bH mF fC
 clear h1
 obtain⟨rfl,rfl⟩:ok=true∧u'=UV:=by
  rcases F8.out with⟨h1,h⟩|⟨h1,_⟩
  ·injection h1 with h1;exact⟨h,h1.symm⟩
  cases h1
 have HSO:=HOU
 have hfp:(wS.finish u' ⟨s,rt,q,f,hq,hf⟩).aO=u'.aO:=Gy _ _
 obtain⟨d0,d1,d2,d3,d4,d5,d6,d7,d8,d9,d10,d11,d12⟩:=bG.out.facts
 obtain⟨p0,p1,p2,p3,p4,p5⟩:=yg.out.facts
 go_wp2_with fail
 clear d0 d1 d2 d3 d4 d5 d6 d7 d8 d9 d10 d11 d12
 clear p0 p1 p2 p3 p4 p5
 have Tf:Hid (Below w5.heap.size w5 w6):=HBU.out
 refine(WC.out u' A' n' c' _).mono ?_
 rintro e w7 ⟨rfl,hbx⟩
 have dQ:=hid (bT.out.below hbx)
 have HXpw7:=hid (yg.out.below hbx)
 have dO:=hid (bG.out.below hbx)
 have iU:=hid (bel gq.out hbx)
 clear bT yg bG gq
 have ajv:=hid hbx
 clear hbx
 have hwn:=(ajR.out.below Tf.out).below ajv.out
 go_wp2_with (refine aC dQ.out (wS.finish u' ⟨s,rt,q,f,hq,hf⟩) A' n' c' (.tmp 4) (.tmp 27) rfl rfl rfl rfl ?_)
 try simp only[Exit.inBlock,Exit.then]
 have ho:=(hwn.row iy.out (cells (wS.finish u' ⟨s,rt,q,f,hq,hf⟩) (.slice A' n' c'))).base Ib.out
 refine bodyPost_ret (w:=World.setRow w7 w.heap.size (cells (wS.finish u' ⟨s,rt,q,f,hq,hf⟩) (.slice A' n' c'))) (aiw (u:=wS.finish u' ⟨s,rt,q,f,hq,hf⟩) (p:=.slice A' n' c') rfl (dQ.out.row _ _) 0 _ rfl rfl) rfl ?_
 rw[HSO.out]
 exact⟨below_setRow iU.out bP.out _,A',n',c',rfl,by show Own _ _ (wS.finish u' ⟨s,rt,q,f,hq,hf⟩) _ _ _;unfold Own;rw[hfp];exact ho⟩
end Go.Proofs.YtgamccijegollaaGreatDoor.OpqC
namespace Go.Proofs.YtgamccijegollaaGreatDoor.aj3
open Go.RowKit Base Dp dI cO aco wS mW Pbx tK yx sU pO vZ WQ acK NJ wo aj6 OpqC
def uZ (c:UInt8):Bool:=decide (c≠63)&&(decide (c≠35)&&(decide (33≤c.toNat)&&decide (c.toNat≤126)))
theorem nC {c:UInt8} (h:uZ c=true):c≠63∧c≠35∧33≤c.toNat∧c.toNat≤126:=by simpa[uZ]using h
structure Fine (S R:List UInt8):Prop where
 au:S.all NT=true
 let0:lI S=true
 low:cO.lower S=S
 fs:S.all uZ=true
 amA:∀c ∈ S,c≠58
 file:S≠FILE
 spc:special S=false
 r:R.all uZ=true
 r0:R≠[]
 r47:Lib.hasPrefix R [47]=false
theorem Ns {R:List UInt8} (h:R.all uZ=true):Lib.hasSuffix R [32]=false:=by
 rcases jC R with e|⟨M,d,e⟩
 ·rw[e];rfl
 rw[e,eP]
 rw[e,List.all_append,Bool.and_eq_true]at h
 have:=nC (by simpa using h.2:uZ d=true)
 rw[decide_eq_false_iff_not]
 rintro rfl
 exact absurd this.2.2.1 (by decide)
theorem ZK {S R F:List UInt8} (h:Fine S R) (hf:F.all uZ=true):(∀c ∈ S++58::R++F,33≤c.toNat∧c.toNat≤126):=by
 intro c hc
 simp only[List.mem_append,List.mem_cons]at hc
 rcases hc with(hc|rfl|hc)|hc
 ·have:=nC (List.all_eq_true.1 h.fs c hc);exact this.2.2
 ·decide
 ·have:=nC (List.all_eq_true.1 h.r c hc);exact this.2.2
 have:=nC (List.all_eq_true.1 hf c hc);exact this.2.2
theorem PZ {T:List UInt8} (h0:T≠[]) (h:∀c ∈ T,33≤c.toNat∧c.toNat≤126):clean T=T:=by
 refine Dc (fun c hc=>⟨by have:=h c hc;omega,(h c hc).2⟩) ?_ ?_
 ·match T,h0,h with
  |c::t,_,h=>
   refine⟨c,t,rfl,?_⟩
   have:=h c (List.mem_cons_self ..)
   simp only[fO,decide_eq_false_iff_not];omega
 rcases jC T with e|⟨M,d,e⟩
 ·rw[e];rfl
 rw[e,eP,decide_eq_false_iff_not]
 rintro rfl
 have:=h 32 (by rw[e];simp)
 exact absurd this.1 (by decide)
theorem ZO {S R:List UInt8} (h:Fine S R):wS.apart (S++58::R)=⟨S,R,[],[],false,false⟩:=by
 have hall:∀d ∈ S++58::R,d≠63∧d≠35:=by
  intro d hd
  simp only[List.mem_append,List.mem_cons]at hd
  rcases hd with hd|rfl|hd
  ·have:=nC (List.all_eq_true.1 h.fs d hd);exact⟨this.1,this.2.1⟩
  ·decide
  have:=nC (List.all_eq_true.1 h.r d hd);exact⟨this.1,this.2.1⟩
 unfold wS.apart
 simp only
 rw[iP 35 _ fun d hd=>(hall d hd).2]
 simp only
 rw[iP 63 _ fun d hd=>(hall d hd).1]
 simp only
 rw[kW 58 S R h.amA]
 simp only
 rw[if_pos (by rw[h.let0];rfl),h.low]
theorem EC {R:List UInt8} (h:R.all uZ=true):FM.enc 0 R=R:=Hz.lV 0 _ fun d hd=>by
 have:=nC (List.all_eq_true.1 h d hd)
 exact in0 d (by omega) this.2.2.2
def opU (S R:List UInt8):U:={U0 with au:=S,port:= -1,opq:=true,txt:=R}
structure Hy (w:World):Prop where
 pow:Tab.Pow w
 max:Max w
 Hq:rD w
theorem Hy.below {w w':World} (h:Hy w) (hb:Below w.heap.size w w'):Hy w':=⟨bY h.pow hb,h.max.below hb,h.Hq.below hb⟩
theorem X8 {S R:List UInt8} (h:Fine S R) (hl:(S++58::R).length≤65536) (w:World) (E:Hy w):Calls Tryz.prog 16 #[.string (strOf (S++58::R)),.pointer none] w (xC w (some (opU S R))):=by
 have hp:wS.apart (clean (S++58::R))=⟨S,R,[],[],false,false⟩:=by
  rw[PZ (by simp) fun c hc=>ZK (F:=[]) h rfl c (by simpa using hc),ZO h]
 have hS:S≠[]:=by rintro rfl;exact absurd h.let0 (by decide)
 have:=VJ (S++58::R) ⟨S,R,[],[],false,false⟩ w hp.symm hl h.file h.spc hS h.r47 (by show Lib.hasSuffix (FM.enc 0 R) [32]=false;rw[EC h.r];exact Ns h.r) E.max E.Hq
 have e:wS.finish {U0 with au:=S,port:= -1,opq:=true,txt:=FM.enc 0 R} ⟨S,R,[],[],false,false⟩=opU S R:=by unfold wS.finish opU;simp[EC h.r]
 simp only at this
 rw[e]at this
 exact this
theorem Om {T:List UInt8} {u:U} {w:World} (h:Calls Tryz.prog 16 #[.string (strOf T),.pointer none] w (xC w (some u))):Calls Tryz.prog 16 #[.string (strOf T),.pointer none] w fun e w'=>∃A n c,e=.returned (.tuple #[.agg (cells u (.slice A n c)),.int .i64 0])∧dR w' u A n c∧Below w.heap.size w w':=
 h.mono fun e w' ⟨h1,A,n,c,h2,h3⟩=>⟨A,n,c,h2,h3.aO,h1⟩
end Go.Proofs.YtgamccijegollaaGreatDoor.aj3
namespace Go.Proofs.YtgamccijegollaaGreatDoor.StkH
open Go.RowKit Base Dp L6 Kq aj6 mW wS tK vZ WQ sU pO ES xH aj3 iH akL ajr akM TL TK StkF
theorem adx:Fine [97,98,111,117,116] [98,108,97,110,107] where
 au:=by decide+kernel
 let0:=by decide+kernel
 low:=by decide+kernel
 fs:=by decide+kernel
 amA:=by decide
 file:=by decide
 spc:=by decide+kernel
 r:=by decide+kernel
 r0:=by decide
 r47:=rfl
theorem anA (pv:Option Addr) (sp:Value) (s h:ByteArray) (p n:Int) (w:World) (E:Hy w):Calls Tryz.prog 48 #[.pointer pv,.string ⟨#[97,98,111,117,116,58,98,108,97,110,107]⟩,.agg #[.string s,.string h,.int .i64 p,.int .i64 n],sp] w fun e w'=>e=.returned (.agg #[.int .i64 3,.int .i64 200,.int .i64 0,.int .i64 0,.string ⟨#[116,101,120,116,47,104,116,109,108,59,99,104,97,114,115,101,116,61,117,116,102,45,56]⟩,.slice none 0 0])∧Below w.heap.size w w':=by
 have hT:(⟨#[97,98,111,117,116,58,98,108,97,110,107]⟩:ByteArray)=strOf ([97,98,111,117,116]++58::[98,108,97,110,107]):=rfl
 rw[hT]
 refine(Yu pv sp _ s h p n (fun cs _=>cs=#[.int .i64 3,.int .i64 200,.int .i64 0,.int .i64 0,.string ⟨#[116,101,120,116,47,104,116,109,108,59,99,104,97,114,115,101,116,61,117,116,102,45,56]⟩,.slice none 0 0]) (fun _ _ _ _ h _ _=>h) (hid fun w1 hb1 _=>(aaj _ sp _ (opU [97,98,111,117,116] [98,108,97,110,107]) s h p n w1 (hid fun w2 hb2=>Om (X8 adx (by decide) w2 (E.below (bel hb1 hb2)))) (by decide+kernel)).mono fun e w2 ⟨h1,h2⟩=>⟨_,h1,rfl,by simp[Value.oneCell'],h2,rfl⟩)).mono ?_
 rintro e w' ⟨cs,rfl,_,hb,rfl⟩
 exact⟨rfl,hb⟩
end Go.Proofs.YtgamccijegollaaGreatDoor.StkH
namespace Go.Proofs.YtgamccijegollaaGreatDoor.xC
open Go.RowKit Base
def be (n:Nat):Nat→List UInt8
 |0=>[]
 |m+1=>UInt8.ofNat (n / 256^m)::be n m
theorem eU (n m:Nat):(be n m).length=m:=by
 induction m with
 |zero=>rfl
 |succ m ih=>simp[be,ih]
def str (L:List UInt8):List UInt8:=be L.length 4++L
end Go.Proofs.YtgamccijegollaaGreatDoor.xC
namespace Go.Proofs.YtgamccijegollaaGreatDoor.ajh
open Go.RowKit Base Dp acj
theorem clone_any (A:Option Addr) (n cap:Nat) (L:List UInt8) (w:World) (h:aY w A n (ah L)) (hm:n≤1073741824):
  Calls Tryz.prog 194 #[.slice A n cap] w fun e w'=>∃v,e=.returned v∧w'.ownsRow w.heap.size 5 1 v n (ah L)∧Below w.heap.size w w':=by
 have hl:L.length=n:=by rw[←aI];exact h.1
 have HH:=hid h
 clear h
 obtain⟨i0,hi,hz0,hz1,hz2⟩:=info_parts iR
 have hnil:=fun(W:World)=>Lib.run_eql_slice_nil (P:=Tryz.prog) W 45 5 A n cap 0 0 Tryz.underlying45
 cases A with
 | none=>
  have h0:n=0:=by
   rcases Nat.eq_zero_or_pos n with h0|h0
   ·exact h0
   ·obtain⟨_,_,e,_⟩:=HH.out.spot h0
    cases e
  subst h0
  obtain rfl:L=[]:=List.eq_nil_of_length_eq_zero hl
  go_enter Tryz.func194,Tryz.ntmps194
  go_wp2
  go_ret
  exact⟨_,rfl,World.ownsRow_nil _ _ _ _,Below.refl _ _⟩
 |some ad=>
  have hownA:(w.alloc (.cells #[] 5)).ownsRow w.heap.size 5 1 (.slice (some ⟨w.heap.size,0,none⟩) 0 0) 0 []:=World.ownsRow_made w #[] 0 (Nat.le_refl _) (by decide) rfl
  have jm:Below w.heap.size w (w.alloc (.cells #[] 5)):=(Below.refl _ _).alloc (Nat.le_refl _) _
  have Zf:Hid (aY (w.alloc (.cells #[] 5)) (some ad) n (ah L)):=HH.out.below jm
  clear hl
  go_enter Tryz.func194,Tryz.ntmps194
  go_wp2_with (at_builtin;refine dH rfl _ _ 45 rfl w.heap.size 5 i0 (.int .u8 0) 1 Tryz.underlying45 hi hz0 hz1 hz2 rfl _ 0 [] rfl hownA jm jm.size (some ad) n cap (ah L) rfl Zf.out (nR _) (by unfold maxLen;omega) (by omega) ?_)
  intro v3 w3 hown3 dG
  clear hownA jm Zf
  go_wp2
  go_ret
  exact⟨_,rfl,hown3,dG⟩
end Go.Proofs.YtgamccijegollaaGreatDoor.ajh
namespace Go.Proofs.YtgamccijegollaaGreatDoor.uN
open Go.RowKit Base Dp acj L6 xC
def BF (B g:Nat) (L:List UInt8) (w:World):Prop:=∃v,w.heap[g]?=some (.cells #[v] 246 (0,0))∧w.ownsRow B 5 1 v L.length (ah L)∧B≤g
theorem N7 (g o j:Nat):(⟨g,o,none⟩:Addr).add j=⟨g,o+j,none⟩:=by unfold Addr.add;split<;>simp_all
theorem own_ne {w:World} {B g:Nat} {v:Value} {n:Nat} {xs:List Value} {C:Array Value} {mk:Nat×Nat} (h:w.heap[g]?=some (.cells C 246 mk)) (ho:w.ownsRow B 5 1 v n xs):v.ownBlock≠some g:=by
 rcases ho.2 with⟨rfl,_⟩|⟨b,cap,cur,rfl,_,hb,_⟩
 ·intro h;cases h
 intro e
 injection e with e
 have e:b=g:=e
 subst e
 rw[h]at hb
 injection hb with hb
 injection hb with _ hb
 cases hb
theorem BF.lt {B g:Nat} {L:List UInt8} {w:World} (h:BF B g L w):g<w.heap.size:=by obtain⟨v,h,_⟩:=h;exact(Array.getElem?_eq_some_iff.1 h).1
theorem BF.below {B g:Nat} {L:List UInt8} {w w':World} (h:BF B g L w) (hb:Below w.heap.size w w'):BF B g L w':=by
 have hl:=h.lt
 obtain⟨v,h1,h2,h3⟩:=h
 exact⟨v,(hb.block g hl).trans h1,aP h2 hb,h3⟩
theorem uh {w:World} {B g:Nat} {v x:Value} {n:Nat} {xs:List Value} (ho:w.ownsRow B 5 1 v n xs) (hne:v.ownBlock≠some g):(w.setCell ⟨g,0,none⟩ x).ownsRow B 5 1 v n xs:=by
 refine⟨ho.1,?_⟩
 rcases ho.2 with h|⟨b,cap,cur,rfl,hB,hb,r⟩
 ·exact .inl h
 exact .inr ⟨b,cap,cur,rfl,hB,(heap_setCell_other w _ _ _ (fun e=>hne (congrArg some e))).trans hb,r⟩
theorem BF.put {B g:Nat} {w1 w2:World} {v v':Value} {L M:List UInt8} (h:w1.heap[g]?=some (.cells #[v] 246 (0,0))) (hown:w1.ownsRow B 5 1 v L.length (ah L)) (hB:B≤g)
  (hg:w1.grownBy w2 v.ownBlock) (hown':w2.ownsRow B 5 1 v' (L.length+M.length) (ah L++ah M)):
  BF B g (L++M) (w2.setCell ⟨g,0,none⟩ v')∧Below B w1 (w2.setCell ⟨g,0,none⟩ v'):=by
 have hl:=(Array.getElem?_eq_some_iff.1 h).1
 have h2:w2.heap[g]?=some (.cells #[v] 246 (0,0)):=(hg.block g hl (fun e=>own_ne h hown e.symm)).trans h
 refine⟨⟨v',heap_setCell_same w2 g 0 _ _ v' h2,?_,hB⟩,((Below.refl B w1).grown hg (by omega) (fun k hk=>(hown.lt k hk).1)).setCell (p:=⟨g,0,none⟩) hB _⟩
 have:=uh (g:=g) (x:=v') hown' (own_ne h2 hown')
 simpa[ah]using this
def jU (w w':World):Prop:=∀(k:Nat) (C:Array Value) (T:TypeId) (m:Nat×Nat),T≠5→T≠246→w.heap[k]?=some (.cells C T m)→w'.heap[k]?=some (.cells C T m)
theorem jU.refl (w:World):jU w w:=fun _ _ _ _ _ _ h=>h
theorem jU.trans {w w1 w2:World} (h:jU w w1) (h2:jU w1 w2):jU w w2:=fun k C T m a b e=>h2 k C T m a b (h k C T m a b e)
theorem jU.below {w w':World} (h:Below w.heap.size w w'):jU w w':=fun k _ _ _ _ _ e=>(h.block k (Array.getElem?_eq_some_iff.1 e).1).trans e
theorem jU.put {B g:Nat} {w1 w2:World} {v v':Value} {n:Nat} {xs:List Value} {C0:Array Value} (h:w1.heap[g]?=some (.cells C0 246 (0,0))) (hown:w1.ownsRow B 5 1 v n xs) (hg:w1.grownBy w2 v.ownBlock):jU w1 (w2.setCell ⟨g,0,none⟩ v'):=by
 intro k C T m h1 h2 e
 have hk:k≠g:=by
  rintro rfl
  rw[h]at e
  injection e with e
  injection e with _ e
  exact h2 e.symm
 have hb:some k≠v.ownBlock:=by
  rcases hown.2 with⟨rfl,_⟩|⟨b,cap,cur,rfl,_,hb,_⟩
  ·intro h;cases h
  intro e2
  injection e2 with e2
  have e2:k=b:=e2
  subst e2
  rw[hb]at e
  injection e with e
  injection e with _ e
  exact h1 e.symm
 exact(heap_setCell_other w2 ⟨g,0,none⟩ k v' hk).trans ((hg.block k (Array.getElem?_eq_some_iff.1 e).1 hb).trans e)
theorem wX (B g n m:Nat) (L:List UInt8) (w:World) (h:BF B g L w) (hn:n<18446744073709551616) (hm:m≤8) (hl:L.length≤1073741824):
  Calls Tryz.prog 298 #[.pointer (some ⟨g,0,none⟩),.int .u64 (n:Int),.int .i64 (m:Int)] w fun e w'=>e=.returned (.tuple #[])∧BF B g (L++be n m) w'∧Below B w w'∧jU w w':=by
 obtain⟨i0,hi,hz0,hz1,hz2⟩:=info_parts iR
 have HL:=hid hl
 have HH:=hid h
 clear h hl
 go_enter Tryz.func298,Tryz.ntmps298
 go_wp2
 go_loopw [6] (fun vk wr=>∃(z:Int) (k:Nat) (X:List UInt8),vk=.int .i64 z∧k≤m∧Hid (z=8*(k:Int) - 8)∧Hid (X++be n k=L++be n m)∧Hid (BF B g X wr)∧Hid (Below B w wr)∧Hid (jU w wr)) (fun vk _=>(intOf vk+8).toNat)
 case atStart=>exact⟨_,m,L,rfl,Nat.le_refl _,by show _=_;omega,rfl,HH.out,Below.refl _ _,jU.refl _⟩
 case round=>
  obtain⟨z,k,X,rfl,hkm,HZ,HX,HW,HB,HKE⟩:=hrel
  cases k with
  |zero=>
   have hz:z= -8:=by have:=HZ.out;omega
   subst hz
   have gY:Hid (X=L++be n m):=by have:=HX.out;rwa[be,List.append_nil]at this
   go_wp2
   go_end0
   exact⟨rfl,gY.out▸HW.out,HB.out,HKE.out⟩
  | succ k=>
   have hz:z=((8*k:Nat):Int):=by have:=HZ.out;omega
   have hzn:0≤z:=by omega
   have hz9:z≤9223372036854775807:=by omega
   obtain⟨c,hc⟩:∃c,c=UInt8.ofNat (n / 256^k):=⟨_,rfl⟩
   have HC:=hid hc
   clear hc
   have HXL:Hid (X.length+1≤1073741840):=by
    have:=congrArg List.length HX.out
    rw[List.length_append,List.length_append,eU,eU]at this
    have:=HL.out
    show _≤_
    omega
   have gY:Hid ((X++[c])++be n k=L++be n m):=by show _=_;rw[←HX.out,HC.out,be,List.append_assoc];rfl
   have HCW:Hid (IntKind.u8.wrap ((n:Int) / 2^min z.toNat 64)=(c.toNat:Int)):=by
    show _=_
    have e1:min z.toNat 64=8*k:=by omega
    have e2:(n:Int) / 2^(8*k)=((n / 256^k:Nat):Int):=by
     have e0:(2:Int)^(8*k)=((256^k:Nat):Int):=by rw[show(256:Nat)=2^8 from rfl,←Nat.pow_mul];simp
     rw[e0,Int.natCast_ediv]
    rw[e1,e2,IntKind.wrap_u8',HC.out]
    simp
   have HKZ:=hid hz
   clear hz
   obtain⟨v,hv,hown,hBg⟩:=HW.out
   have HV:=hid hv
   have HO:=hid hown
   have sQ:Hid (g<wr.heap.size):=(Array.getElem?_eq_some_iff.1 hv).1
   have c0:wr.drew.cell? ⟨g,0,none⟩=some v:=(cell_of_row wr g 0 _ _ _ hv).trans rfl
   clear hv hown
   go_wp2_with fail
   refine wp_region_any (by kernel_rfl) ?_
   change wpAny _ _ _ _ _ _ _ (World.drew _)
   refine wpAny_take (i:=0) (v:=(.pointer (some ⟨g,0,none⟩))) rfl (by kernel_rfl) (by kernel_rfl) (by kernel_rfl) (fun _ _ _ h=>h) (Or.inl ⟨by rfl,?yy0⟩) ?_
   case yy0=>(intro w;go_simp;try with_reducible rfl)
   simp only[List.getElem_toArray,List.getElem_cons_zero,List.getElem_cons_succ,Act.put,List.setIfInBounds_toArray,List.set_cons_zero,List.set_cons_succ]
   refine ab7 10 [is (.pointer (some ⟨g,0,none⟩)),is (.pointer (some ⟨g,0,none⟩)),is (.pointer (some ⟨g,0,none⟩)),is (.pointer (some ⟨g,0,none⟩)),is (v),is (.int .u64 (n:Int)),is (.int .i64 z),is (.int .u64 ((n:Int) / 2^min z.toNat 64)),is (.int .u8 (c.toNat:Int)),row 1 [.int .u8 (c.toNat:Int)]] [[],[],[1],[1,2],[1,2,3],[],[],[5,6],[5,6,7],[5,6,7,8],[1,2,3,4,5,6,7,8,9]] [0] (by kernel_rfl) (by kernel_rfl) (by kernel_rfl) ?_ ?_ ?_
   ·intro k hk;simp only[List.mem_cons,List.not_mem_nil,or_false]at hk;subst hk;rfl
   ·refine ⟨?_,?_,?_,?_,?_,?_,?_,?_,?_,?_,trivial⟩
    all_goals(intro t wq hbq hh K hK;simp only[filled,aj,upd,Have,is,any,row,pick,Act.put,List.setIfInBounds_toArray,List.set_cons_zero,List.set_cons_succ,Nat.reduceAdd,Nat.reduceEqDiff,reduceIte,List.tail_cons,List.headD_cons]at hh hK⊢)
    iterate 4
     ·try simp only[hh]at hK⊢
      clear hh
      go_simp
      exact hK _ _ (Below.refl _ _) rfl
    ·have e3:=hh.2.2.1
     clear hh
     simp only[e3]at hK⊢
     have hq:=(hbq.cell (p:=⟨g,0,none⟩) sQ.out).trans c0
     go_simp
     exact hK _ _ (Below.refl _ _) rfl
    iterate 3
     ·try simp only[hh]at hK⊢
      clear hh
      go_simp
      exact hK _ _ (Below.refl _ _) rfl
    ·try simp only[hh]at hK⊢
     clear hh
     go_simp
     exact hK _ _ (Below.refl _ _) (int_eq HCW.out)
    ·try simp only[hh]at hK⊢
     clear hh
     go_simp
     exact hK _ _ ((Below.refl _ _).alloc (Nat.le_refl _) _) ⟨_,_,rfl,by omega,by decide,aY.jF rfl (by simp) (fun j hj=>by have h0:j=0:=(by simpa using hj);subst h0;rw[Nat.zero_add,World.cell?_alloc_mark];simp)⟩
   ·intro t wq hbq hh
    have f0:=aB hh 0 (by decide)
    simp only[pick]at f0
    replace f0:t 0=(.pointer (some ⟨g,0,none⟩)):=f0
    have f4:=aB hh 4 (by decide)
    simp only[pick]at f4
    replace f4:t 4=(v):=f4
    have f9:=aB hh 9 (by decide)
    simp only[pick]at f9
    clear hh
    simp only[filled,aj,upd,Have,is,any,row,pick,Act.put,List.setIfInBounds_toArray,List.set_cons_zero,List.set_cons_succ,Nat.reduceAdd,Nat.reduceEqDiff,reduceIte]
    obtain⟨A9,c9,f9,hc9,hm9,hr9⟩:=f9
    simp only[f0,f4,f9]
    have hvq:wq.heap[g]?=some (.cells #[v] 246 (0,0)):=(hbq.block g sQ.out).trans HV.out
    have hoq:wq.ownsRow B 5 1 v X.length (ah X):=aP (w:=wr.drew) HO.out hbq
    have hlq:g<wq.heap.size:=Nat.lt_of_lt_of_le sQ.out hbq.size
    have HVQ:=hid hvq
    have HLQ:=hid hlq
    obtain⟨b9,o9,rfl,_,hc9'⟩:=hr9.spot (by omega)
    have HC9:=hid hc9'
    clear hvq hlq hc9' hr9
    show wpList _ _ _ [_,_,_,_] _ _
    refine wpList_append_own _ rfl _ _ 45 rfl B 5 i0 (.int .u8 0) 1 1 Tryz.underlying45 hi hz0 hz1 hz2 rfl (by decide) v X.length (ah X) rfl hoq ⟨b9,o9,none⟩ 1 c9 [.int .u8 (c.toNat:Int)] rfl rfl ?d1 (by intro u hu;simp at hu;subst hu;rfl) ?d2 ?d3 ?d4 ?_
    case d1=>intro j u hj;obtain⟨hj',e⟩:=List.getElem?_eq_some_iff.1 hj;rw[N7,HC9.out j hj',e]
    case d2=>have:=HXL.out;unfold maxLen;omega
    case d3=>have:=HXL.out;omega
    case d4=>have:=HLQ.out;omega
    intro v' w2 hown' hgrow _
    have hput:=BF.put (M:=[c]) HVQ.out hoq hBg hgrow hown'
    have HKP:Hid (jU w (w2.setCell ⟨g,0,none⟩ v')):=HKE.out.trans ((jU.below (w:=wr) (w':=wq) ⟨hbq.os,hbq.tape,hbq.output,hbq.size,hbq.block⟩).trans (jU.put HVQ.out hoq hgrow))
    have yc:=hid hput.1
    have HP2:=hid hput.2
    have hv2:w2.heap[g]?=some (.cells #[v] 246 (0,0)):=(hgrow.block g HLQ.out (fun e=>own_ne HVQ.out hoq e.symm)).trans HVQ.out
    have d0:w2.cell? ⟨g,0,none⟩=some v:=(cell_of_row w2 g 0 _ _ _ hv2).trans rfl
    have f0:w2.frozen? ⟨g,0,none⟩=false:=frozen_of_row w2 g 0 _ _ hv2
    obtain⟨vA,vc,rfl,_,_,_⟩:=aJ hown'
    have hBq:=HB.out.drew.trans (hbq.mono (by have:=sQ.out;show B≤wr.heap.size;omega))
    clear hoq hown' hput hgrow hv2
    have HBQ:=hid hBq
    clear hBq
    go_wp2
    go_roundw
    case rel=>exact⟨_,k,X++[c],rfl,by omega,by have:=HKZ.out;show _=_;omega,gY.out,yc.out,HBQ.out.trans HP2.out,HKP.out⟩
    case measure=>simp[intOf];omega
theorem JH (B g n:Nat) (L:List UInt8) (w:World) (h:BF B g L w) (hn:n<256) (hl:L.length≤1073741824):
  Calls Tryz.prog 273 #[.pointer (some ⟨g,0,none⟩),.int .u8 (n:Int)] w fun e w'=>e=.returned (.tuple #[])∧BF B g (L++be n 1) w'∧Below B w w'∧jU w w':=by
 have HH:=hid h
 have HL:=hid hl
 clear h hl
 go_enter Tryz.func273,Tryz.ntmps273
 go_wp2_with fail
 refine(wX B g n 1 L _ HH.out (by omega) (by omega) HL.out).mono ?_
 rintro e w1 ⟨rfl,h1,hb1,hk1⟩
 have H1:=hid h1
 have HB1:=hid hb1
 have Ux:=hid hk1
 clear h1 hb1 hk1
 go_wp2
 go_end0
 exact⟨rfl,H1.out,HB1.out,Ux.out⟩
theorem Wq (B g n:Nat) (L:List UInt8) (w:World) (h:BF B g L w) (hn:n<4294967296) (hl:L.length≤1073741824):
  Calls Tryz.prog 299 #[.pointer (some ⟨g,0,none⟩),.int .u32 (n:Int)] w fun e w'=>e=.returned (.tuple #[])∧BF B g (L++be n 4) w'∧Below B w w'∧jU w w':=by
 have HH:=hid h
 have HL:=hid hl
 clear h hl
 go_enter Tryz.func299,Tryz.ntmps299
 go_wp2_with fail
 refine(wX B g n 4 L _ HH.out (by omega) (by omega) HL.out).mono ?_
 rintro e w1 ⟨rfl,h1,hb1,hk1⟩
 have H1:=hid h1
 have HB1:=hid hb1
 have Ux:=hid hk1
 clear h1 hb1 hk1
 go_wp2
 go_end0
 exact⟨rfl,H1.out,HB1.out,Ux.out⟩
def sg (n:Nat):Int:=if n<9223372036854775808 then n else(n:Int) - 18446744073709551616
theorem wrap_sg (n:Nat) (h:n<18446744073709551616):IntKind.u64.wrap (sg n)=(n:Int):=by
 rw[IntKind.wrap_u64]
 unfold sg
 split<;>omega
theorem uz (B g n:Nat) (L:List UInt8) (w:World) (h:BF B g L w) (hn:n<18446744073709551616) (hl:L.length≤1073741824):
  Calls Tryz.prog 274 #[.pointer (some ⟨g,0,none⟩),.int .i64 (sg n)] w fun e w'=>e=.returned (.tuple #[])∧BF B g (L++be n 8) w'∧Below B w w'∧jU w w':=by
 have HH:=hid h
 have HL:=hid hl
 have hw:=wrap_sg n hn
 generalize sg n=z at hw⊢
 clear h hl
 go_enter Tryz.func274,Tryz.ntmps274
 go_wp2_with fail
 refine(wX B g n 8 L _ HH.out hn (by omega) HL.out).mono ?_
 rintro e w1 ⟨rfl,h1,hb1,hk1⟩
 have H1:=hid h1
 have HB1:=hid hb1
 have Ux:=hid hk1
 clear h1 hb1 hk1
 go_wp2
 go_end0
 exact⟨rfl,H1.out,HB1.out,Ux.out⟩
theorem zx (B g:Nat) (L:List UInt8) (s:ByteArray) (w:World) (h:BF B g L w) (hl:L.length≤1000000000) (hs:s.size≤1000000):
  Calls Tryz.prog 275 #[.pointer (some ⟨g,0,none⟩),.string s] w fun e w'=>e=.returned (.tuple #[])∧BF B g (L++str s.data.toList) w'∧Below B w w'∧jU w w':=by
 obtain⟨i0,hi,hz0,hz1,hz2⟩:=info_parts iR
 have hsl:s.data.toList.length=s.size:=Array.length_toList
 have HSL:=hid hsl
 have HH:=hid h
 have HL:=hid hl
 have hs32:(s.size:Int)≤4294967295:=by omega
 clear h hl hsl
 go_enter Tryz.func275,Tryz.ntmps275
 go_wp2_with fail
 refine(Wq B g s.size L _ HH.out (by omega) (by have:=HL.out;omega)).mono ?_
 rintro e w1 ⟨rfl,h1,hb1,hk1⟩
 have hlt:=h1.lt
 have sQ:=hid hlt
 obtain⟨v,hv,hown,hBg⟩:=h1
 have HV:=hid hv
 have HB1:=hid hb1
 have Ux:=hid hk1
 have c0:w1.cell? ⟨g,0,none⟩=some v:=(cell_of_row w1 g 0 _ _ _ hv).trans rfl
 have Ci:Hid ((L++be s.size 4).length=L.length+4):=by show _=_;rw[List.length_append,eU]
 clear hv hb1 hlt hk1
 go_wp2_with (at_builtin;refine Lib.wpList_append_own_string _ rfl _ _ 45 9 rfl B 5 i0 Tryz.underlying45 Tryz.underlying9 hi hz0 hz1 hz2 v _ _ rfl hown s rfl ?c3 ?c4 ?c5 ?_)
 case c3=>have:=Ci.out;have:=HL.out;unfold maxLen;omega
 case c4=>have:=Ci.out;have:=HL.out;omega
 case c5=>have:=sQ.out;omega
 intro v' w2 hown' hgrow _
 have HG:=hid hgrow
 have hE:Lib.strCells s=ah s.data.toList:=by simp[Lib.strCells,ah]
 rw[hE]at hown'
 have hput:=BF.put (M:=s.data.toList) HV.out hown hBg hgrow (by rw[HSL.out,List.length_append];exact hown')
 have HKP:Hid (jU w (w2.setCell ⟨g,0,none⟩ v')):=Ux.out.trans (jU.put HV.out hown hgrow)
 have yc:=hid hput.1
 have HP2:=hid hput.2
 have hv2:w2.heap[g]?=some (.cells #[v] 246 (0,0)):=(hgrow.block g sQ.out (fun e=>own_ne HV.out hown e.symm)).trans HV.out
 have d0:w2.cell? ⟨g,0,none⟩=some v:=(cell_of_row w2 g 0 _ _ _ hv2).trans rfl
 have f0:w2.frozen? ⟨g,0,none⟩=false:=frozen_of_row w2 g 0 _ _ hv2
 have HPE:Hid ((L++be s.size 4)++s.data.toList=L++str s.data.toList):=by show _=_;unfold str;rw[HSL.out,List.append_assoc]
 obtain⟨vA,vc,rfl,_,_,_⟩:=aJ hown'
 clear hown' hown hput hgrow hv2 c0 hE
 go_wp2
 go_end0
 exact⟨rfl,HPE.out▸yc.out,HB1.out.trans HP2.out,HKP.out⟩
theorem ac8 (B g:Nat) (L:List UInt8) (w:World) (h:BF B g L w) (hl:L.length≤1073741824):
  Calls Tryz.prog 208 #[.pointer (some ⟨g,0,none⟩)] w fun e w'=>∃v,e=.returned v∧w'.ownsRow w.heap.size 5 1 v L.length (ah L)∧Below w.heap.size w w':=by
 obtain⟨v,hv,hown,hBg⟩:=h
 have c0:w.cell? ⟨g,0,none⟩=some v:=(cell_of_row w g 0 _ _ _ hv).trans rfl
 obtain⟨A,c,rfl,hnc,hcm,hrd⟩:=aJ hown
 have uq:=hid hrd
 clear hrd hown hv
 go_enter Tryz.func208,Tryz.ntmps208
 go_wp2_with fail
 refine(ajh.clone_any A _ c L _ uq.out hl).mono ?_
 rintro e w1 ⟨v,rfl,hown1,hb1⟩
 go_wp2
 go_ret
 exact⟨_,rfl,hown1,hb1⟩
end Go.Proofs.YtgamccijegollaaGreatDoor.uN
namespace Go.Proofs.YtgamccijegollaaGreatDoor.akp
open Go.RowKit Base xC
structure O where
 k:Nat
 f:Nat
 h:Nat
 a:Nat
 b:Nat
 s:List UInt8
 t:List UInt8
 c:List UInt8
 d:List UInt8
 p:Nat
 n:Nat
 r:List UInt8
structure Fits (o:O):Prop where
 k:o.k<256
 f:o.f<256
 h:o.h<18446744073709551616
 a:o.a<18446744073709551616
 b:o.b<18446744073709551616
 s:o.s.length<4294967296
 t:o.t.length<4294967296
 c:o.c.length<4294967296
 d:o.d.length<4294967296
 p:o.p<18446744073709551616
 n:o.n<18446744073709551616
 r:o.r.length=16
def rO (o:O):List UInt8:=be o.k 1++(be o.f 1++(be o.h 8++(be o.a 8++(be o.b 8++(str o.s++(str o.t++(str o.c++(str o.d++(be o.p 8++(be o.n 8++o.r))))))))))
theorem Dy (o:O) (h:Fits o):(rO o).length=74+(o.s.length+o.t.length+o.c.length+o.d.length):=by
 unfold rO str
 simp only[List.length_append,eU,h.r]
 omega
def encs (l:List O):List UInt8:=l.flatMap rO
theorem MO (a b:List O):encs (a++b)=encs a++encs b:=by unfold encs;rw[List.flatMap_append]
end Go.Proofs.YtgamccijegollaaGreatDoor.akp
namespace Go.Proofs.YtgamccijegollaaGreatDoor.ScrB
open Go.RowKit Base Dp xC akp
def cells (o:O):List Value:=.int .u8 (o.k:Int)::.int .u8 (o.f:Int)::.int .i64 (uN.sg o.h)::.int .i64 (uN.sg o.a)::.int .i64 (uN.sg o.b)::.string (strOf o.s)::.string (strOf o.t)::.string (strOf o.c)::.string (strOf o.d)::.int .i64 (uN.sg o.p)::.int .i64 (uN.sg o.n)::ah o.r
def val (o:O):Value:=.agg (cells o).toArray
theorem tZ {o:O} (h:o.r.length=16):(cells o).length=27:=by simp[cells,aI,h]
theorem cells_one (o:O):∀u ∈ cells o,u.oneCell'=true:=by
 intro u hu
 simp only[cells,List.mem_cons]at hu
 rcases hu with rfl|rfl|rfl|rfl|rfl|rfl|rfl|rfl|rfl|rfl|rfl|hu
 all_goals first|rfl|exact nR _ u hu
def OB (T:TypeId) (w:World) (g:Nat) (o:O):Prop:=w.heap[g]?=some (.cells (cells o).toArray T (0,0))
variable {T:TypeId} {w w':World} {g:Nat} {o o':O}
theorem OB.cell (h:OB T w g o) (i:Nat) {v:Value} (e:(cells o)[i]?=some v):w.cell? ⟨g,i,none⟩=some v:=(cell_of_row w g i _ _ _ h).trans (by rw[List.getElem?_toArray];exact e)
theorem OB.new (T:TypeId) (w:World) (o:O):OB T (w.alloc (.cells (cells o).toArray T)) w.heap.size o:=heap_alloc_new w _
theorem He (h:o.r.length=16):(cells o).toArray.size=27:=by rw[List.size_toArray];exact tZ h
theorem OB.load {fs:Array Field} (h:OB T w g o) (hr:o.r.length=16) (hu:Tryz.prog.underlying T=some (.struct fs)) (hi:(Tryz.prog.info? T).map (·.size)=some 27):(loadVar T ⟨g,0,none⟩).run Tryz.prog w=.ok (val o) w:=
 run_loadVar_row w g T T _ (0,0) _ h hu rfl (by rw[He hr];exact hi)
theorem qp {w0:World} {B:Nat} (h:Below B w0 w) (hg:B≤g) (c:Array Value):Below B w0 (w.setRow g c):=
 ⟨h.os,h.tape,h.output,by simpa using h.size,fun b hb=>(setRow_other w g b c (by omega)).trans (h.block b hb)⟩
theorem acZ {S:TypeId} {fs:Array Field} (hu:Tryz.prog.underlying S=some (.struct fs)) (w:World):(isAgg S).run Tryz.prog w=.ok true w:=by
 unfold isAgg
 rw[Sem.run_bind,run_underlying hu w]
 rfl
theorem ag4 {S e:TypeId} {n:Nat} (hu:Tryz.prog.underlying S=some (.array n e)) (w:World):(isAgg S).run Tryz.prog w=.ok true w:=by
 unfold isAgg
 rw[Sem.run_bind,run_underlying hu w]
 rfl
theorem I7 {S:TypeId} {ad:Addr} {cs:List Value} (h:∀(j:Nat) (v:Value),cs[j]?=some v→w.cell? (ad.add j)=some v) (hagg:(isAgg S).run Tryz.prog w=.ok true w) (hi:(Tryz.prog.info? S).map (·.size)=some cs.length):(loadVar S ad).run Tryz.prog w=.ok (.agg cs.toArray) w:=by
 have hl:=run_loadCells_list (P:=Tryz.prog) w ad cs h
 cases hq:Tryz.prog.info? S with
 |none=>simp[hq]at hi
 |some i=>
  have hs:i.size=cs.length:=by simpa[hq]using hi
  simp[loadVar,Sem.run_bind,hagg,sizeOf,typeInfo,hq,hs,hl]
theorem OB.bytes {S e:TypeId} {n:Nat} (h:OB T w g o) (hr:o.r.length=16) (hu:Tryz.prog.underlying S=some (.array n e)) (hi:(Tryz.prog.info? S).map (·.size)=some 16):(loadVar S ⟨g,11,none⟩).run Tryz.prog w=.ok (.agg (ah o.r).toArray) w:=
 I7 (fun j v hv=>by
  rw[uN.N7,cell_of_row w g (11+j) _ _ _ h,List.getElem?_toArray,Nat.add_comm 11 j]
  exact hv) (ag4 hu w) (by rw[aI,hr];exact hi)
theorem akQ {L:List UInt8} {S e:TypeId} {n:Nat} (k:Nat) (hk:k<L.length) (hn:n=L.length) (hu:Tryz.prog.underlying S=some (.array n e)) (he:Tryz.prog.underlying e=some (.int .u8)) (hi:(Tryz.prog.info? e).map (·.size)=some 1) (w:World):(Instr.index S (.agg (ah L).toArray) (.int .i64 (k:Int))).run Tryz.prog w=.ok (.int .u8 (L[k].toNat:Int)) w:=by
 have h1:(sizeOf e).run Tryz.prog w=.ok 1 w:=by
  cases hq:Tryz.prog.info? e with
  |none=>simp[hq]at hi
  |some i=>
   have hs:i.size=1:=by simpa[hq]using hi
   simp[sizeOf,typeInfo,hq,hs]
 have h2:(isAgg e).run Tryz.prog w=.ok false w:=by
  unfold isAgg
  rw[Sem.run_bind,run_underlying he w]
  rfl
 have h3:(ah L)[k]?=some (.int .u8 (L[k].toNat:Int)):=by simp[ah,hk]
 have h4:0≤(k:Int)∧(k:Int)<(n:Int):=by omega
 have h5:(k:Int).toNat=k:=by simp
 have h6:k<n:=by omega
 simp[Instr.index,run_underlying hu,asIntOf,h6,h1,part,h2,h3,Sem.run_bind]
def Ops (w:World) (A:Option Addr) (n:Nat) (l:List O):Prop:=l.length=n∧aY w A (n*27) (l.flatMap cells)∧∀o ∈ l,o.r.length=16
theorem Ops.below {A:Option Addr} {n:Nat} {l:List O} (h:Ops w A n l) (hb:Below w.heap.size w w'):Ops w' A n l:=⟨h.1,h.2.1.below hb,h.2.2⟩
theorem EH (l:List O) (h:∀o ∈ l,o.r.length=16) (j:Nat) (hj:j<l.length) (i:Nat) (hi:i<27):(l.flatMap cells)[j*27+i]?=(cells l[j])[i]?:=by
 induction l generalizing j with
 |nil=>simp at hj
 |cons o l ih=>
  have hc:=tZ (h o (by simp))
  rw[List.flatMap_cons]
  cases j with
  |zero=>
   rw[List.getElem?_append_left (by omega)]
   simp
  |succ j=>
   rw[List.getElem?_append_right (by omega),hc,show(j+1)*27+i - 27=j*27+i by omega,ih (fun x hx=>h x (by simp[hx])) j (by simpa using hj)]
   simp
theorem Ops.load {S:TypeId} {fs:Array Field} {b off n:Nat} {l:List O} (h:Ops w (some ⟨b,off,none⟩) n l) (j:Nat) (hj:j<l.length) (hu:Tryz.prog.underlying S=some (.struct fs)) (hi:(Tryz.prog.info? S).map (·.size)=some 27):(loadVar S ⟨b,off+j*27,none⟩).run Tryz.prog w=.ok (val l[j]) w:=
 have hc:=tZ (h.2.2 l[j] (List.getElem_mem hj))
 I7 (cs:=cells l[j]) (fun i v hv=>by
  have hi:i<27:=by rw[←hc];exact(List.getElem?_eq_some_iff.1 hv).1
  have hf:=EH l h.2.2 j hj i hi
  rw[hv]at hf
  obtain⟨h5,h6⟩:=List.getElem?_eq_some_iff.1 hf
  obtain⟨b',off',e,_,hcell⟩:=h.2.1.2 (j*27+i) h5
  injection e with e
  injection e with e1 e2
  subst e1 e2
  rw[uN.N7,Nat.add_assoc,hcell,h6]) (acZ hu w) (by rw[hc];exact hi)
theorem Ops.spot {A:Option Addr} {n:Nat} {l:List O} (h:Ops w A n l) (hn:0<n):∃b off,A=some ⟨b,off,none⟩∧b<w.heap.size:=by
 obtain⟨b,off,e,hb,_⟩:=h.2.1.spot (by omega)
 exact⟨b,off,e,hb⟩
theorem anJ {ops:Array Oper} {rest:List Oper} {p:Oper} {a:Act} {Q:Exit→Act→World→Prop} {C:Array Value} (hU:w.heap[g]?=some (.cells C T (0,0))) (hC:C.size=27) (o:O) (hr:o.r.length=16) (x y:Operand) (ho:p.op=.store T x y) (hgd:p.guard=none)
  (hx:a.eval x=.pointer (some ⟨g,0,none⟩)) (hy:a.eval y=val o) (hi:(Tryz.prog.info? T).map (·.size)=some 27)
  (h:wpList Tryz.prog ops Q rest (a.put p.dst undef) (w.setRow g (cells o).toArray)):wpList Tryz.prog ops Q (p::rest) a w:=
 wpList_store_row hgd T x y ho g (cells o).toArray hx hy T C hU (by rw[He hr];exact hi) (by rw[He hr,hC]) (by rw[List.all_toArray];exact List.all_eq_true.2 (cells_one o)) h
theorem fresh (T:TypeId) (w:World) (C:Array Value) (o:O):OB T ((w.alloc (.cells C T)).setRow w.heap.size (cells o).toArray) w.heap.size o∧Below w.heap.size w ((w.alloc (.cells C T)).setRow w.heap.size (cells o).toArray):=
 ⟨setRow_heap _ _ _ _ _ (0,0) (heap_alloc_new w _),qp ((Below.refl _ _).alloc (Nat.le_refl _) _) (Nat.le_refl _) _⟩
theorem fJ {ops:Array Oper} {rest:List Oper} {p:Oper} {a:Act} {Q:Exit→Act→World→Prop} {ty:TypeId} {ad:Addr} {v:Value} (hl:(loadVar ty ad).run Tryz.prog w=.ok v w) (x:Operand) (ho:p.op=.load ty x) (hgd:p.guard=none) (hx:a.eval x=.pointer (some ad))
  (h:wpList Tryz.prog ops Q rest (a.put p.dst v) w):wpList Tryz.prog ops Q (p::rest) a w:=
 wpList_plain hgd fun _ hK=>by
  unfold Oper.wp execOp
  simp only[ho,hx,Instr.loadAt,Instr.sureAddr,Sem.run_bind,Sem.run_pure,Result.andThen_ok,hl]
  exact hK _ _ h
end Go.Proofs.YtgamccijegollaaGreatDoor.ScrB
namespace Go.Proofs.YtgamccijegollaaGreatDoor.ScrW
open Go.RowKit Base Dp xC uN akp ScrB
theorem OB.keep {w w':World} {g:Nat} {o:O} (h:OB 157 w g o) (hk:jU w w'):OB 157 w' g o:=hk g _ _ _ (by decide) (by decide) h
structure Small (o:O):Prop where
 fits:Fits o
 s:o.s.length≤1000000
 t:o.t.length≤1000000
 c:o.c.length≤1000000
 d:o.d.length≤1000000
theorem write_any (B gw:Nat) (L:List UInt8) (o:O) (w:World) (h:BF B gw L w) (hs:Small o) (hl:L.length≤500000000):
  Calls Tryz.prog 207 #[.pointer (some ⟨gw,0,none⟩),val o] w fun e w'=>e=.returned (.tuple #[])∧BF B gw (L++rO o) w'∧Below B w w'∧jU w w':=by
 have hB:B≤w.heap.size:=by have:=h.lt;obtain⟨_,_,_,h3⟩:=h;omega
 have HH:=hid h
 have Bd:=hid hB
 have HS:=hid hs
 have HL0:Hid (L.length≤500000000):=hl
 clear h hs hl hB
 go_enter Tryz.func207,Tryz.ntmps207
 go_upto_region 1 with(fail)
 generalize hw:World.alloc w _=W0
 have h1:OB 157 W0 w.heap.size o∧Below w.heap.size w W0:=by
  subst hw
  exact⟨OB.new _ w o,(Below.refl _ _).alloc (Nat.le_refl _) _⟩
 have HO0:=hid h1.1
 have HW0:=hid (HH.out.below h1.2)
 have HB0:=hid (h1.2.mono Bd.out)
 have TA:=hid (jU.below h1.2)
 clear h1 hw HH Bd
 have c0:=HO0.out.cell 0 (v:=.int .u8 (o.k:Int)) rfl
 go_wp2_with fail
 clear c0
 refine(JH B gw o.k L _ HW0.out HS.out.fits.k (by have:=HL0.out;omega)).mono ?_
 rintro e w1 ⟨rfl,hw,hb,hk⟩
 obtain⟨M1,hM⟩:∃M,M=L++be o.k 1:=⟨_,rfl⟩
 rw[←hM]at hw
 have NW:Hid (M1.length≤500000001):=by have h1:=HL0.out;show _≤_;rw[hM,List.length_append,eU];omega
 have MS:Hid (L++rO o=M1++(be o.f 1++(be o.h 8++(be o.a 8++(be o.b 8++(str o.s++(str o.t++(str o.c++(str o.d++(be o.p 8++(be o.n 8++(o.r)))))))))))):=by show _=_;rw[hM];unfold rO;rw[List.append_assoc]
 have HW1:=hid hw
 have HO1:=hid (OB.keep HO0.out hk)
 have HB1:=hid (HB0.out.trans hb)
 have Ux:=hid (TA.out.trans hk)
 clear hM hw hb hk HW0 HO0 HB0 TA HL0
 have c1:=HO1.out.cell 1 (v:=.int .u8 (o.f:Int)) rfl
 go_wp2_with fail
 clear c1
 refine(JH B gw o.f M1 _ HW1.out HS.out.fits.f (by have:=NW.out;omega)).mono ?_
 rintro e w2 ⟨rfl,hw,hb,hk⟩
 obtain⟨M2,hM⟩:∃M,M=M1++be o.f 1:=⟨_,rfl⟩
 rw[←hM]at hw
 have HL2:Hid (M2.length≤500000002):=by have h1:=NW.out;show _≤_;rw[hM,List.length_append,eU];omega
 have cu:Hid (L++rO o=M2++(be o.h 8++(be o.a 8++(be o.b 8++(str o.s++(str o.t++(str o.c++(str o.d++(be o.p 8++(be o.n 8++(o.r))))))))))):=by show _=_;rw[MS.out,hM];rw[List.append_assoc]
 have HW2:=hid hw
 have jy:=hid (OB.keep HO1.out hk)
 have HB2:=hid (HB1.out.trans hb)
 have X6:=hid (Ux.out.trans hk)
 clear hM hw hb hk HW1 HO1 HB1 Ux NW MS
 have c2:=jy.out.cell 2 (v:=.int .i64 (uN.sg o.h)) rfl
 go_wp2_with fail
 clear c2
 refine(uz B gw o.h M2 _ HW2.out HS.out.fits.h (by have:=HL2.out;omega)).mono ?_
 rintro e w3 ⟨rfl,hw,hb,hk⟩
 obtain⟨M3,hM⟩:∃M,M=M2++be o.h 8:=⟨_,rfl⟩
 rw[←hM]at hw
 have HL3:Hid (M3.length≤500000010):=by have h1:=HL2.out;show _≤_;rw[hM,List.length_append,eU];omega
 have AB:Hid (L++rO o=M3++(be o.a 8++(be o.b 8++(str o.s++(str o.t++(str o.c++(str o.d++(be o.p 8++(be o.n 8++(o.r)))))))))):=by show _=_;rw[cu.out,hM];rw[List.append_assoc]
 have HW3:=hid hw
 have iV:=hid (OB.keep jy.out hk)
 have HB3:=hid (HB2.out.trans hb)
 have NV:=hid (X6.out.trans hk)
 clear hM hw hb hk HW2 jy HB2 X6 HL2 cu
 have c3:=iV.out.cell 3 (v:=.int .i64 (uN.sg o.a)) rfl
 go_wp2_with fail
 clear c3
 refine(uz B gw o.a M3 _ HW3.out HS.out.fits.a (by have:=HL3.out;omega)).mono ?_
 rintro e w4 ⟨rfl,hw,hb,hk⟩
 obtain⟨M4,hM⟩:∃M,M=M3++be o.a 8:=⟨_,rfl⟩
 rw[←hM]at hw
 have HL4:Hid (M4.length≤500000018):=by have h1:=HL3.out;show _≤_;rw[hM,List.length_append,eU];omega
 have HM4:Hid (L++rO o=M4++(be o.b 8++(str o.s++(str o.t++(str o.c++(str o.d++(be o.p 8++(be o.n 8++(o.r))))))))):=by show _=_;rw[AB.out,hM];rw[List.append_assoc]
 have HW4:=hid hw
 have Ti:=hid (OB.keep iV.out hk)
 have HB4:=hid (HB3.out.trans hb)
 have HK4:=hid (NV.out.trans hk)
 clear hM hw hb hk HW3 iV HB3 NV HL3 AB
 have c4:=Ti.out.cell 4 (v:=.int .i64 (uN.sg o.b)) rfl
 go_wp2_with fail
 clear c4
 refine(uz B gw o.b M4 _ HW4.out HS.out.fits.b (by have:=HL4.out;omega)).mono ?_
 rintro e w5 ⟨rfl,hw,hb,hk⟩
 obtain⟨M5,hM⟩:∃M,M=M4++be o.b 8:=⟨_,rfl⟩
 rw[←hM]at hw
 have HL5:Hid (M5.length≤500000026):=by have h1:=HL4.out;show _≤_;rw[hM,List.length_append,eU];omega
 have HM5:Hid (L++rO o=M5++(str o.s++(str o.t++(str o.c++(str o.d++(be o.p 8++(be o.n 8++(o.r)))))))):=by show _=_;rw[HM4.out,hM];rw[List.append_assoc]
 have HW5:=hid hw
 have mX:=hid (OB.keep Ti.out hk)
 have iG:=hid (HB4.out.trans hb)
 have HK5:=hid (HK4.out.trans hk)
 clear hM hw hb hk HW4 Ti HB4 HK4 HL4 HM4
 have c5:=mX.out.cell 5 (v:=.string (strOf o.s)) rfl
 go_wp2_with fail
 clear c5
 refine(zx B gw M5 (strOf o.s) _ HW5.out (by have:=HL5.out;omega) (by rw[o9];exact HS.out.s)).mono ?_
 rintro e w6 ⟨rfl,hw,hb,hk⟩
 rw[show(strOf o.s).data.toList=o.s from rfl]at hw
 obtain⟨M6,hM⟩:∃M,M=M5++str o.s:=⟨_,rfl⟩
 rw[←hM]at hw
 have HL6:Hid (M6.length≤501000030):=by have h1:=HL5.out;show _≤_;rw[hM,List.length_append,str,List.length_append,eU];have:=HS.out.s;omega
 have HM6:Hid (L++rO o=M6++(str o.t++(str o.c++(str o.d++(be o.p 8++(be o.n 8++(o.r))))))):=by show _=_;rw[HM5.out,hM];rw[List.append_assoc]
 have HW6:=hid hw
 have HO6:=hid (OB.keep mX.out hk)
 have nN:=hid (iG.out.trans hb)
 have HK6:=hid (HK5.out.trans hk)
 clear hM hw hb hk HW5 mX iG HK5 HL5 HM5
 have c6:=HO6.out.cell 6 (v:=.string (strOf o.t)) rfl
 go_wp2_with fail
 clear c6
 refine(zx B gw M6 (strOf o.t) _ HW6.out (by have:=HL6.out;omega) (by rw[o9];exact HS.out.t)).mono ?_
 rintro e w7 ⟨rfl,hw,hb,hk⟩
 rw[show(strOf o.t).data.toList=o.t from rfl]at hw
 obtain⟨M7,hM⟩:∃M,M=M6++str o.t:=⟨_,rfl⟩
 rw[←hM]at hw
 have HL7:Hid (M7.length≤502000034):=by have h1:=HL6.out;show _≤_;rw[hM,List.length_append,str,List.length_append,eU];have:=HS.out.t;omega
 have HM7:Hid (L++rO o=M7++(str o.c++(str o.d++(be o.p 8++(be o.n 8++(o.r)))))):=by show _=_;rw[HM6.out,hM];rw[List.append_assoc]
 have HW7:=hid hw
 have Ia:=hid (OB.keep HO6.out hk)
 have kZ:=hid (nN.out.trans hb)
 have HK7:=hid (HK6.out.trans hk)
 clear hM hw hb hk HW6 HO6 nN HK6 HL6 HM6
 have c7:=Ia.out.cell 7 (v:=.string (strOf o.c)) rfl
 go_wp2_with fail
 clear c7
 refine(zx B gw M7 (strOf o.c) _ HW7.out (by have:=HL7.out;omega) (by rw[o9];exact HS.out.c)).mono ?_
 rintro e w8 ⟨rfl,hw,hb,hk⟩
 rw[show(strOf o.c).data.toList=o.c from rfl]at hw
 obtain⟨M8,hM⟩:∃M,M=M7++str o.c:=⟨_,rfl⟩
 rw[←hM]at hw
 have Me:Hid (M8.length≤503000038):=by have h1:=HL7.out;show _≤_;rw[hM,List.length_append,str,List.length_append,eU];have:=HS.out.c;omega
 have HM8:Hid (L++rO o=M8++(str o.d++(be o.p 8++(be o.n 8++(o.r))))):=by show _=_;rw[HM7.out,hM];rw[List.append_assoc]
 have HW8:=hid hw
 have HO8:=hid (OB.keep Ia.out hk)
 have H7:=hid (kZ.out.trans hb)
 have HK8:=hid (HK7.out.trans hk)
 clear hM hw hb hk HW7 Ia kZ HK7 HL7 HM7
 have c8:=HO8.out.cell 8 (v:=.string (strOf o.d)) rfl
 go_wp2_with fail
 clear c8
 refine(zx B gw M8 (strOf o.d) _ HW8.out (by have:=Me.out;omega) (by rw[o9];exact HS.out.d)).mono ?_
 rintro e w9 ⟨rfl,hw,hb,hk⟩
 rw[show(strOf o.d).data.toList=o.d from rfl]at hw
 obtain⟨M9,hM⟩:∃M,M=M8++str o.d:=⟨_,rfl⟩
 rw[←hM]at hw
 have HL9:Hid (M9.length≤504000042):=by have h1:=Me.out;show _≤_;rw[hM,List.length_append,str,List.length_append,eU];have:=HS.out.d;omega
 have HM9:Hid (L++rO o=M9++(be o.p 8++(be o.n 8++(o.r)))):=by show _=_;rw[HM8.out,hM];rw[List.append_assoc]
 have HW9:=hid hw
 have HO9:=hid (OB.keep HO8.out hk)
 have Y0:=hid (H7.out.trans hb)
 have HK9:=hid (HK8.out.trans hk)
 clear hM hw hb hk HW8 HO8 H7 HK8 Me HM8
 have c9:=HO9.out.cell 9 (v:=.int .i64 (uN.sg o.p)) rfl
 go_wp2_with fail
 clear c9
 refine(uz B gw o.p M9 _ HW9.out HS.out.fits.p (by have:=HL9.out;omega)).mono ?_
 rintro e w10 ⟨rfl,hw,hb,hk⟩
 obtain⟨M10,hM⟩:∃M,M=M9++be o.p 8:=⟨_,rfl⟩
 rw[←hM]at hw
 have HL10:Hid (M10.length≤504000050):=by have h1:=HL9.out;show _≤_;rw[hM,List.length_append,eU];omega
 have asi:Hid (L++rO o=M10++(be o.n 8++(o.r))):=by show _=_;rw[HM9.out,hM];rw[List.append_assoc]
 have HW10:=hid hw
 have HO10:=hid (OB.keep HO9.out hk)
 have JZ:=hid (Y0.out.trans hb)
 have ajB:=hid (HK9.out.trans hk)
 clear hM hw hb hk HW9 HO9 Y0 HK9 HL9 HM9
 have c10:=HO10.out.cell 10 (v:=.int .i64 (uN.sg o.n)) rfl
 go_wp2_with fail
 clear c10
 refine(uz B gw o.n M10 _ HW10.out HS.out.fits.n (by have:=HL10.out;omega)).mono ?_
 rintro e w11 ⟨rfl,hw,hb,hk⟩
 obtain⟨M11,hM⟩:∃M,M=M10++be o.n 8:=⟨_,rfl⟩
 rw[←hM]at hw
 have HL11:Hid (M11.length≤504000058):=by have h1:=HL10.out;show _≤_;rw[hM,List.length_append,eU];omega
 have arO:Hid (L++rO o=M11++(o.r)):=by show _=_;rw[asi.out,hM];rw[List.append_assoc]
 have HW11:=hid hw
 have HO11:=hid (OB.keep HO10.out hk)
 have YZ:=hid (JZ.out.trans hb)
 have HK11:=hid (ajB.out.trans hk)
 clear hM hw hb hk HW10 HO10 JZ ajB HL10 asi
 have hld:=HO11.out.bytes HS.out.fits.r Tryz.underlying61 (by kernel_rfl)
 have hr:=HS.out.fits.r
 obtain⟨R,hR⟩:∃R,R=o.r:=⟨_,rfl⟩
 rw[←hR]at hld hr
 have HM:=arO
 rw[←hR]at HM
 have HRL:=hid hr
 have Fg:=hid hld
 clear hr hR arO hld
 go_wp2_with (refine fJ Fg.out (.tmp 54) rfl rfl rfl ?_)
 go_loopw [56] (fun vk wr=>∃(k:Nat) (X:List UInt8),k≤16∧vk=.int .i64 (k:Int)∧Hid (X=M11++R.take k)∧Hid (BF B gw X wr)∧Hid (Below B w wr)∧Hid (jU w wr)) (fun vk _=>16 - (intOf vk).toNat)
 case atStart=>exact⟨0,M11,by omega,rfl,by show _=_;simp,HW11.out,YZ.out,HK11.out⟩
 case round=>
  obtain⟨k,X,hk,rfl,HX,HW,HB,HK⟩:=hrel
  by_cases hlt:k<16
  ·have hkl:k<R.length:=by rw[HRL.out];exact hlt
   have hix:=fun W=>akQ (S:=61) (e:=5) (n:=16) k hkl HRL.out.symm Tryz.underlying61 Tryz.underlying5 (by kernel_rfl) W
   have HXL:Hid (X.length≤600000000):=by
    have h1:=HL11.out
    show _≤_
    rw[HX.out,List.length_append,List.length_take]
    omega
   obtain⟨d,hd⟩:∃d,d=R[k]:=⟨_,rfl⟩
   rw[←hd]at hix
   have gY:Hid (X++be d.toNat 1=M11++R.take (k+1)):=by
    show _=_
    rw[HX.out,List.take_succ_eq_append_getElem hkl,hd,List.append_assoc]
    congr 2
    simp[be]
   have hdn:=d.toNat_lt
   clear hd hkl
   go_wp2_with fail
   clear hix
   refine(JH B gw d.toNat X _ HW.out hdn (by have:=HXL.out;omega)).mono ?_
   rintro e w2 ⟨rfl,hw,hb,hk2⟩
   have HW2:=hid hw
   have HB2:=hid (HB.out.trans hb)
   have X6:=hid (HK.out.trans hk2)
   clear hw hb hk2 hdn
   go_wp2
   go_roundw
   case rel=>exact⟨k+1,_,by omega,by go_num,gY.out,HW2.out,HB2.out,X6.out⟩
   case measure=>simp[intOf];omega
  ·obtain rfl:k=16:=by omega
   have gY:Hid (X=L++rO o):=by show _=_;rw[HX.out,HM.out,←HRL.out,List.take_length]
   go_wp2
   go_end0
   exact⟨rfl,gY.out▸HW.out,HB.out,HK.out⟩
end Go.Proofs.YtgamccijegollaaGreatDoor.ScrW
namespace Go.Proofs.YtgamccijegollaaGreatDoor.ScrE
open Go.RowKit Base Dp xC uN akp ScrB ScrW
theorem adq (l:List O) (h:∀o ∈ l,Small o):(encs l).length≤4000100*l.length:=by
 induction l with
 |nil=>simp[encs]
 |cons o l ih=>
  have e:encs (o::l)=rO o++encs l:=rfl
  have h1:=h o (by simp)
  have:=Dy o h1.fits
  have:=ih fun x hx=>h x (by simp[hx])
  have:=h1.s;have:=h1.t;have:=h1.c;have:=h1.d
  rw[e,List.length_append,List.length_cons]
  omega
theorem ad2 (w:World):BF w.heap.size w.heap.size [] (w.alloc (.cells #[.slice none 0 0] 246)):=⟨_,heap_alloc_new w _,World.ownsRow_nil _ _ _ _,Nat.le_refl _⟩
theorem eF (A:Option Addr) (n c:Nat) (l:List O) (w:World) (h:Ops w A n l) (hs:∀o ∈ l,Small o) (hn:n≤100):
  Calls Tryz.prog 103 #[.slice A n c] w fun e w'=>∃v,e=.returned v∧w'.ownsRow w.heap.size 5 1 v (encs l).length (ah (encs l))∧Below w.heap.size w w':=by
 have hln:=h.1
 have HLN:=hid hln
 have HH:=hid h
 have HS:=hid hs
 have pY:Hid ((encs l).length≤400010000):=by have:=adq l hs;rw[hln]at this;show _≤_;omega
 clear h hs hln
 go_enter Tryz.func103,Tryz.ntmps103
 go_upto_region 3 with(fail)
 generalize hw:World.alloc w _=W0
 have h1:BF w.heap.size w.heap.size [] W0∧Below w.heap.size w W0:=by
  subst hw
  exact⟨ad2 w,(Below.refl _ _).alloc (Nat.le_refl _) _⟩
 have HW0:=hid h1.1
 have HB0:=hid h1.2
 clear h1 hw
 go_loopw [5,8] (fun _ vk wr=>∃(k:Nat) (X:List UInt8),k≤n∧vk=.int .i64 (k:Int)∧Hid (X=encs (l.take k))∧Hid (BF w.heap.size w.heap.size X wr)∧Hid (Below w.heap.size w wr)) (fun _ vk _=>n - (intOf vk).toNat)
 case atStart=>exact⟨0,[],Nat.zero_le _,rfl,by show _=_;rfl,HW0.out,HB0.out⟩
 case round=>
  obtain⟨k,X,hk,rfl,HX,HW,HB⟩:=hrel
  by_cases hlt:k<n
  ·have hkl:k<l.length:=by rw[HLN.out];exact hlt
   have HO:=hid (HH.out.below HB.out)
   obtain⟨b,off,rfl,hbl⟩:=HO.out.spot (by omega)
   have hld:=HO.out.load k hkl (S:=157) Tryz.underlying157 (by kernel_rfl)
   obtain⟨o,ho⟩:∃o,o=l[k]:=⟨_,rfl⟩
   rw[←ho]at hld
   have HSO:Hid (Small o):=HS.out o (by rw[ho];exact List.getElem_mem hkl)
   have gY:Hid (X++rO o=encs (l.take (k+1))):=by show _=_;rw[HX.out,ho,List.take_succ_eq_append_getElem hkl,MO];simp[encs]
   have HXL:Hid (X.length≤400010000):=by
    have h1:encs l=encs (l.take k)++encs (l.drop k):=by rw[←MO,List.take_append_drop]
    have:=congrArg List.length h1
    have:=pY.out
    rw[List.length_append,←HX.out]at*
    show _≤_
    omega
   have Fg:=hid hld
   clear ho hkl hld
   go_upto_region 5 with(first|refine fJ Fg.out (.tmp 10) rfl rfl rfl ?_|refine anJ (heap_alloc_new _ _) rfl o HSO.out.fits.r (.tmp 5) (.tmp 11) rfl rfl rfl rfl (by kernel_rfl) ?_)
   generalize hW:World.setRow _ _ _=W1
   have h1:OB 157 W1 wr.heap.size o∧Below wr.heap.size wr W1:=by
    subst hW
    exact fresh _ _ _ _
   have HO1:=hid h1.1
   have HW1:=hid (HW.out.below h1.2)
   have HB1:=hid (HB.out.trans (h1.2.mono HB.out.size))
   have HLD1:=hid (h1.1.load HSO.out.fits.r Tryz.underlying157 (by kernel_rfl))
   clear h1 hW Fg HW HB HO hbl
   go_wp2_with (first|refine fJ HLD1.out (.tmp 5) rfl rfl rfl ?_|fail)
   refine(write_any w.heap.size w.heap.size X o _ HW1.out HSO.out (by have:=HXL.out;omega)).mono ?_
   rintro e w2 ⟨rfl,hw,hb,hk2⟩
   have HW2:=hid hw
   have HB2:=hid (HB1.out.trans hb)
   clear hw hb hk2 HW1 HB1 HO1
   go_wp2
   go_roundw
   case rel=>exact⟨k+1,_,by omega,by go_num,gY.out,HW2.out,HB2.out⟩
   case measure=>simp[intOf];omega
  ·obtain rfl:k=n:=by omega
   have gY:Hid (X=encs l):=by show _=_;rw[HX.out,←HLN.out,List.take_length]
   go_wp2_with fail
   refine(ac8 w.heap.size w.heap.size X _ HW.out (by have:=pY.out;rw[gY.out];omega)).mono ?_
   rintro e w2 ⟨v,rfl,hown,hb⟩
   rw[gY.out]at hown
   have HOW:=hid (ay hown HB.out.size)
   have HB2:=hid (HB.out.trans (hb.mono HB.out.size))
   clear hown hb
   go_wp2
   go_ret
   exact⟨_,rfl,HOW.out,HB2.out⟩
end Go.Proofs.YtgamccijegollaaGreatDoor.ScrE
