/- Texts that belong together: FetF, FetG, apO. -/
import Derived.Test.YtgamccijegollaaGreatDoorFNAAR
import Derived.Test.YtgamccijegollaaGreatDoorFNAAN
import Derived.Test.YtgamccijegollaaGreatDoorFNAAS
import Derived.Test.YtgamccijegollaaGreatDoorFNAAJ
set_option linter.unusedSimpArgs false
set_option linter.unusedVariables false
set_option maxRecDepth 100000
set_option maxHeartbeats 64000000
namespace Go.Proofs.YtgamccijegollaaGreatDoor.FetF
open Go.RowKit Base Dp mW wS Kq ES ajr akM aoa
open Go.Proofs.YtgamccijegollaaGreatDoor.acs (Bp)
theorem adG (li sp:Value) (T:List UInt8) (u:U) (s h:ByteArray) (p n:Int) (w:World)
  (HP:Hid (∀w',Below w.heap.size w w'→Calls Tryz.prog 16 #[.string (strOf T),.pointer none] w' fun e w''=>∃A n' c,e=.returned (.tuple #[.agg (cells u (.slice A n' c)),.int .i64 0])∧dR w'' u A n' c∧Below w'.heap.size w' w''))
  (hz:WV.qI u=0) (st tt:Int) (K:ByteArray) (B:List UInt8) (HD:Hid (∀(A:Option Addr) (n' c:Nat) (w':World),Below w.heap.size w w'→dR w' u A n' c→Calls Tryz.prog 100 #[.agg #[.int .i64 0,.int .i64 0,.int .i64 0,.int .i64 0,.string ⟨#[]⟩,.slice none 0 0],.agg (cells u (.slice A n' c))] w' fun e w''=>∃A2 c2,e=.returned (.agg #[.int .i64 0,.int .i64 st,.int .i64 0,.int .i64 tt,.string K,.slice A2 B.length c2])∧Bp w'' B A2 c2∧Below w'.heap.size w' w'')):
  Calls Tryz.prog 45 #[li,.string (strOf T),.agg #[.string s,.string h,.int .i64 p,.int .i64 n],sp] w fun e w'=>∃A2 c2,e=.returned (.agg #[.int .i64 0,.int .i64 st,.int .i64 0,.int .i64 tt,.string K,.slice A2 B.length c2])∧Bp w' B A2 c2∧Below w.heap.size w w':=by
 have HZ:=hid hz
 clear hz
 go_enter Tryz.func45,Tryz.ntmps45
 go_upto_region 1 with(fail)
 generalize bI:World.alloc (World.alloc w _) _=v1
 have h1_:OB v1 w.heap.size s h p n∧AB v1 (w.heap.size+1) #[.int .i64 0,.int .i64 0,.int .i64 0,.int .i64 0,.string ⟨#[]⟩,.slice none 0 0]∧Below w.heap.size w v1:=by
  subst bI
  exact laid2 w _ _ _ _
 clear bI
 have ZE:=hid h1_.1
 have Po:=hid h1_.2.1
 have HB1:=hid h1_.2.2
 clear h1_
 go_wp2_with fail
 refine(HP.out _ HB1.out).mono ?_
 rintro e v2 ⟨A,n',c,rfl,hpt,hb2⟩
 have XO2:=hid (ZE.out.below hb2)
 have Pq:=hid (Po.out.below hb2)
 have HB2:=hid (bel HB1.out hb2)
 have Zc:=hid hpt
 clear ZE Po HB1 hb2 hpt
 rw[show Value.agg (cells u (.slice A n' c))=.agg #[.string (strOf u.au),.string (strOf u.usr),.string (strOf u.MX),.string (strOf u.hst),.bool u.hh,.int .i64 u.port,.bool u.opq,.string (strOf u.txt),.slice A n' c,.bool u.hq,.bool u.hf,.string (strOf u.dY),.string (strOf u.fB)]from rfl]
 go_upto_region 4 with(fail)
 generalize bI:World.alloc v2 _=v3
 have h3_:UB v3 v2.heap.size u (.slice A n' c)∧Below v2.heap.size v2 v3:=by
  subst bI
  exact laid1 v2 _ _
 clear bI
 have XO3:=hid (XO2.out.below h3_.2)
 have NZ:=hid (Pq.out.below h3_.2)
 have HB3:=hid (bel HB2.out h3_.2)
 have Zd:=hid (dR.below Zc.out h3_.2)
 have ZG:=hid h3_.1
 clear h3_ XO2 Pq HB2 Zc
 have SA:=hid ZG.out.load
 go_wp2_with (refine fJ SA.out (.tmp 9) rfl rfl rfl ?_)
 refine(WV.KY u A n' c _).mono ?_
 rw[HZ.out]
 rintro e v4 ⟨rfl,hb4⟩
 have XO4:=hid (XO3.out.below hb4)
 have Pv:=hid (NZ.out.below hb4)
 have HB4:=hid (bel HB3.out hb4)
 have Ze:=hid (dR.below Zd.out hb4)
 have XU4:=hid (ZG.out.below hb4)
 clear XO3 NZ HB3 Zd ZG SA hb4
 go_upto_region 5 with(fail)
 generalize bI:World.alloc v4 _=v5
 have h5_:AB v5 v4.heap.size #[.int .i64 0,.int .i64 0,.int .i64 0,.int .i64 0,.string ⟨#[]⟩,.slice none 0 0]∧Below v4.heap.size v4 v5:=by
  subst bI
  exact laid1 v4 _ _
 clear bI
 have XO5:=hid (XO4.out.below h5_.2)
 have ZF:=hid (Pv.out.below h5_.2)
 have iG:=hid (bel HB4.out h5_.2)
 have acF:=hid (dR.below Ze.out h5_.2)
 have XU5:=hid (XU4.out.below h5_.2)
 have Xc:=hid h5_.1
 have X7:Hid (w.heap.size+1<v4.heap.size):=Pv.out.lt
 clear h5_ XO4 Pv HB4 Ze XU4
 obtain⟨a0,a1,a2,a3,a4,a5⟩:=Xc.out.facts
 have SA:=hid XU5.out.load
 have Uy:=hid (Xc.out.load rfl)
 go_wp2_with (first|refine fJ Uy.out (.tmp 11) rfl rfl rfl ?_|refine fJ SA.out (.tmp 9) rfl rfl rfl ?_)
 refine(HD.out A n' c _ iG.out acF.out).mono ?_
 rintro e v6 ⟨A2,c2,rfl,hbp,hb6⟩
 have dB:=hid (ZF.out.below hb6)
 have nN:=hid (bel iG.out hb6)
 have HBP6:=hid hbp
 clear Xc ZF iG XO5 XU5 acF SA Uy hbp hb6 a0 a1 a2 a3 a4 a5
 go_wp2_with (refine sG dB.out #[.int .i64 0,.int .i64 st,.int .i64 0,.int .i64 tt,.string K,.slice A2 B.length c2] rfl rfl (by simp[Value.oneCell']) (.tmp 8) (.tmp 31) rfl rfl rfl rfl ?_)
 try simp only[Exit.inBlock,Exit.then]
 exact bodyPost_ret (w:=World.setRow v6 (w.heap.size+1) #[.int .i64 0,.int .i64 st,.int .i64 0,.int .i64 tt,.string K,.slice A2 B.length c2]) (abo rfl (AB.row dB.out _) rfl _ rfl) rfl ⟨A2,c2,rfl,⟨HBP6.out.nc,HBP6.out.cm,Jp dB.out HBP6.out.zB⟩,below_setRow nN.out (Nat.le_succ w.heap.size) _⟩
end Go.Proofs.YtgamccijegollaaGreatDoor.FetF
namespace Go.Proofs.YtgamccijegollaaGreatDoor.FetG
open Go.RowKit Base cO wS acK agU
open Go.Proofs.YtgamccijegollaaGreatDoor.aj6 (zC)
theorem ajx (p:UInt8→Bool) (A:List UInt8) (c:UInt8) (B:List UInt8) (hc:p c=false):∃N,(A++c::B).dropWhile p=N++c::B:=by
 induction A with
 |nil=>exact⟨[],by simp[hc]⟩
 |cons a A ih=>
  by_cases ha:p a=true
  ·obtain⟨N,hN⟩:=ih
   exact⟨N,by simp[ha,hN]⟩
  exact⟨a::A,by simp[ha]⟩
theorem aoz (M:List UInt8):∃N,ru (zC++58::M)=zC++58::N:=by
 have h1:(zC++58::M).dropWhile fO=zC++58::M:=rfl
 obtain⟨N,hN⟩:=ajx fO M.reverse 58 zC.reverse rfl
 refine⟨N.reverse,?_⟩
 unfold ru
 rw[h1,show(zC++58::M).reverse=M.reverse++58::zC.reverse by simp,hN]
 simp
theorem aiO (s:List UInt8):∃N,clean (zC++58::s)=zC++58::N:=by
 rw[rG,xX zC 58 s (by decide),oL zC (by decide)]
 obtain⟨N,hN⟩:=aoz (ED s)
 exact⟨N.filter fun c=> !brk c,by rw[hN];rfl⟩
theorem aii (N:List UInt8):(apart (zC++58::N)).au=zC:=by
 have e1:(fG 35 (zC++58::N)).1=zC++58::(fG 35 N).1:=by simp[fG,zC]
 have e2:(fG 63 (zC++58::(fG 35 N).1)).1=zC++58::(fG 63 (fG 35 N).1).1:=by simp[fG,zC]
 have e3:fG 58 (zC++58::(fG 63 (fG 35 N).1).1)=(zC,(fG 63 (fG 35 N).1).1,true):=by simp[fG,zC]
 unfold apart
 simp only[e1,e2,e3]
 rw[if_pos (by decide)]
 show lower zC=zC
 decide
theorem ajE {p:Parts} {u:U} (h:wS.plain p=some u):u.au=p.au:=by
 unfold wS.plain at h
 split at h
 ·exact akR h
 split at h
 ·cases h;rfl
 cases h;rfl
theorem aoi {s:List UInt8} {u:U} (h:wS.url (zC++58::s) none=some u):u.au=zC:=by
 obtain⟨N,hN⟩:=aiO s
 unfold wS.url at h
 rw[hN]at h
 obtain⟨v,hv,rfl⟩:=Option.map_eq_some_iff.1 h
 rw[adz]
 have hs:=aii N
 rw[Ul (by rw[hs];decide) (by rw[hs];decide) (by rw[hs];decide)]at hv
 rw[ajE hv,hs]
end Go.Proofs.YtgamccijegollaaGreatDoor.FetG
namespace Go.Proofs.YtgamccijegollaaGreatDoor.apO
open Go.RowKit Base Dp mW wS tK UG acs akM FetD aoa FetF Kq
open Go.Proofs.YtgamccijegollaaGreatDoor.aj6 (zC)
def SB (w:World) (g:Nat) (s:ByteArray):Prop:=w.heap[g]?=some (.cells #[.string s] 9 (0,0))
theorem SB.below {w w':World} {g:Nat} {s:ByteArray} (x:SB w g s) (hb:Below w.heap.size w w'):SB w' g s:=(hb.block g (Array.getElem?_eq_some_iff.1 x).1).trans x
theorem SB.cell {w:World} {g:Nat} {s:ByteArray} (x:SB w g s):w.cell? ⟨g,0,none⟩=some (.string s):=cell_of_row w g 0 _ _ _ x
theorem aeU (w:World) (s h:ByteArray) (p n:Int) (s1:ByteArray):OB ((w.alloc (.cells #[.string s,.string h,.int .i64 p,.int .i64 n] 38)).alloc (.cells #[.string s1] 9)) w.heap.size s h p n∧SB ((w.alloc (.cells #[.string s,.string h,.int .i64 p,.int .i64 n] 38)).alloc (.cells #[.string s1] 9)) (w.heap.size+1) s1∧Below w.heap.size w ((w.alloc (.cells #[.string s,.string h,.int .i64 p,.int .i64 n] 38)).alloc (.cells #[.string s1] 9)):=by
 obtain⟨v,hv⟩:∃v,v=w.alloc (.cells #[.string s,.string h,.int .i64 p,.int .i64 n] 38):=⟨_,rfl⟩
 rw[←hv]
 have hz:v.heap.size=w.heap.size+1:=by rw[hv];simp
 have hb:Below w.heap.size w v:=by rw[hv];exact(Below.refl _ _).alloc (Nat.le_refl _) _
 have ho:OB v w.heap.size s h p n:=by rw[hv];exact heap_alloc_new _ _
 refine⟨ho.below ((Below.refl _ _).alloc (Nat.le_refl _) _),?_,hb.alloc (by omega) _⟩
 rw[←hz]
 exact heap_alloc_new _ _
theorem ac7 {T:List UInt8} {u:U} (ho:wS.url T none=some u) (hl:T.length≤65536) (w:World) (E:Env w):Hid (∀w',Below w.heap.size w w'→Calls Tryz.prog 16 #[.string (strOf T),.pointer none] w' fun e w''=>∃A n' c,e=.returned (.tuple #[.agg (cells u (.slice A n' c)),.int .i64 0])∧dR w'' u A n' c∧Below w'.heap.size w' w''):=
 hid fun w' hb=>(jB (T:=strOf T) ho (by rw[o9];exact hl) w' (E.below hb)).mono fun e w2 ⟨A,n,c,he,hP,hb2⟩=>⟨A,n,c,he,hP.aO,hb2⟩
theorem aeT {T:List UInt8} {u:U} (hu:u=U0) (ho:wS.url T none=none) (hl:T.length≤65536) (w:World) (E:Env w):Hid (∀w',Below w.heap.size w w'→Calls Tryz.prog 16 #[.string (strOf T),.pointer none] w' fun e w''=>∃A n' c,e=.returned (.tuple #[.agg (cells u (.slice A n' c)),.int .i64 2])∧dR w'' u A n' c∧Below w'.heap.size w' w''):=
 hid fun w' hb=>(GZ (T:=strOf T) hu ho (by rw[o9];exact hl) w' (E.below hb)).mono fun e w2 ⟨A,n,c,he,hP,hb2⟩=>⟨A,n,c,he,hP.aO,hb2⟩
theorem aox {T:List UInt8} {u:U} (ho:wS.url T none=some u) (hl:T.length≤20000) {w:World} {A:Option Addr} {n c:Nat} (h:dR w u A n c):Sh u n c:=
 agl (oN.AZ (M:=0) ho (fun _ e=>by cases e)) (by omega) ⟨h⟩
theorem aok {T:List UInt8} {u:U} (ho:wS.url T none=some u) (hl:T.length≤20000) (hs:WV.qI u=0) (M:qg.MT) (B:List UInt8) (ha:Ig u=(M,B)) (her:aai u=0) (li sp:Value) (s h:ByteArray) (p n:Int) (w:World) (E:Env w):
  Calls Tryz.prog 45 #[li,.string (strOf T),.agg #[.string s,.string h,.int .i64 p,.int .i64 n],sp] w fun e w'=>∃A2 c2,e=.returned (.agg #[.int .i64 0,.int .i64 200,.int .i64 0,.int .i64 (B.length:Int),.string (strOf (sV.dS M.ty M.sub M.ps)),.slice A2 B.length c2])∧Bp w' B A2 c2∧Below w.heap.size w w':=
 adG li sp T u s h p n w (ac7 ho (by omega) w E) hs 200 (B.length:Int) (strOf (sV.dS M.ty M.sub M.ps)) B (hid fun A n' c w' hb hp=>ai5 0 u A n' c (aox ho hl hp) M B ha her w' ⟨hp.1⟩ (E.below hb))
theorem apn {T:List UInt8} {u:U} (ho:wS.url T none=some u) (hl:T.length≤20000) (hs:WV.qI u=0) (M:qg.MT) (B:List UInt8) (ha:Ig u=(M,B)) (er:Int) (her:aai u=er) (h0:(er==0)=false) (li sp:Value) (s h:ByteArray) (p n:Int) (w:World) (E:Env w):
  Calls Tryz.prog 45 #[li,.string (strOf T),.agg #[.string s,.string h,.int .i64 p,.int .i64 n],sp] w fun e w'=>∃A2 c2,e=.returned (.agg #[.int .i64 0,.int .i64 0,.int .i64 0,.int .i64 0,.string ⟨#[]⟩,.slice A2 0 c2])∧Bp w' [] A2 c2∧Below w.heap.size w w':=
 adG li sp T u s h p n w (ac7 ho (by omega) w E) hs 0 0 ⟨#[]⟩ [] (hid fun A n' c w' hb hp=>(ajD 0 u A n' c (aox ho hl hp) M B ha er her h0 w' ⟨hp.1⟩ (E.below hb)).mono fun e w2 ⟨h1,h2⟩=>⟨none,0,h1,⟨Nat.le_refl _,Nat.zero_le _,rfl,fun j hj=>absurd hj (Nat.not_lt_zero _)⟩,h2⟩)
theorem nil_any (T:List UInt8) (hl:T.length≤20000) (sp:Value) (s h:ByteArray) (p n:Int) (w:World) (E:Env w):
  Calls Tryz.prog 45 #[.nilIface,.string (strOf T),.agg #[.string s,.string h,.int .i64 p,.int .i64 n],sp] w fun e w'=>(∃z st fi tt K A n c,e=.returned (.agg #[.int .i64 z,.int .i64 st,.int .i64 fi,.int .i64 tt,.string K,.slice A n c]))∧Below w.heap.size w w':=by
 cases ho:wS.url T none with
 |none=>exact(adE _ sp T U0 s h p n w (aeT rfl ho (by omega) w E)).mono fun e w2 ⟨h1,h2⟩=>⟨⟨_,_,_,_,_,_,_,_,h1⟩,h2⟩
 | some u=>
  have hp:=ac7 ho (by omega) w E
  by_cases h0:WV.qI u=0
  ·obtain⟨⟨M,B⟩,ha⟩:∃v,Ig u=v:=⟨_,rfl⟩
   by_cases her:aai u=0
   ·exact(aok ho hl h0 M B ha her _ sp s h p n w E).mono fun e w2 ⟨A,c,h1,_,h2⟩=>⟨⟨_,_,_,_,_,_,_,_,h1⟩,h2⟩
   ·exact(apn ho hl h0 M B ha _ rfl (beq_false_of_ne her) _ sp s h p n w E).mono fun e w2 ⟨A,c,h1,_,h2⟩=>⟨⟨_,_,_,_,_,_,_,_,h1⟩,h2⟩
  ·by_cases h1:WV.qI u=1
   ·exact(Qh _ sp T u s h p n w hp h1 (hid fun A n' c w' _ _=>akL.ae1 _ s h p n w')).mono fun e w2 ⟨h1,h2⟩=>⟨⟨_,_,_,_,_,_,_,_,h1⟩,h2⟩
   ·by_cases h3:WV.qI u=3
    ·exact(aaj _ sp T u s h p n w hp h3).mono fun e w2 ⟨h1,h2⟩=>⟨⟨_,_,_,_,_,_,_,_,h1⟩,h2⟩
    ·exact(ai1 _ sp T u s h p n w hp _ rfl (beq_false_of_ne h0) (beq_false_of_ne h1) (beq_false_of_ne h3)).mono fun e w2 ⟨h1,h2⟩=>⟨⟨_,_,_,_,_,_,_,_,h1⟩,h2⟩
theorem aow (T:List UInt8) (hl:T.length≤20000) (sp:Value) (s h:ByteArray) (p n:Int) (w:World) (E:Env w):
  Calls Tryz.prog 45 #[.nilIface,.string (strOf (zC++58::T)),.agg #[.string s,.string h,.int .i64 p,.int .i64 n],sp] w fun e w'=>(∃z,e=.returned (.agg #[.int .i64 z,.int .i64 0,.int .i64 0,.int .i64 0,.string ⟨#[]⟩,.slice none 0 0]))∧Below w.heap.size w w':=by
 have hl2:(zC++58::T).length≤65536:=by rw[List.length_append,List.length_cons];show 4+_≤_;omega
 cases ho:wS.url (zC++58::T) none with
 |none=>exact(adE _ sp _ U0 s h p n w (aeT rfl ho hl2 w E)).mono fun e w2 ⟨h1,h2⟩=>⟨⟨_,h1⟩,h2⟩
 |some u=>
  have hz:WV.qI u=1:=by
   unfold WV.qI
   rw[FetG.aoi ho,if_neg (by decide)]
   exact if_pos rfl
  exact(Qh _ sp _ u s h p n w (ac7 ho hl2 w E) hz (hid fun A n' c w' _ _=>akL.ae1 _ s h p n w')).mono fun e w2 ⟨h1,h2⟩=>⟨⟨_,h1⟩,h2⟩
theorem nil_not {T:List UInt8} (ho:wS.url T none=none) (hl:T.length≤20000) (sp:Value) (s h:ByteArray) (p n:Int) (w:World) (E:Env w):
  Calls Tryz.prog 45 #[.nilIface,.string (strOf T),.agg #[.string s,.string h,.int .i64 p,.int .i64 n],sp] w fun e w'=>e=.returned (.agg #[.int .i64 7,.int .i64 0,.int .i64 0,.int .i64 0,.string ⟨#[]⟩,.slice none 0 0])∧Below w.heap.size w w':=
 adE _ sp T U0 s h p n w (aeT rfl ho (by omega) w E)
theorem ajM:∃u,wS.url [97,98,111,117,116,58,98,108,97,110,107] none=some u∧WV.qI u=3:=by
 have h:(wS.url [97,98,111,117,116,58,98,108,97,110,107] none).map WV.qI=some 3:=by decide+kernel
 cases ho:wS.url [97,98,111,117,116,58,98,108,97,110,107] none with
 |none=>rw[ho]at h;cases h
 |some u=>rw[ho]at h;exact⟨u,rfl,Option.some.inj h⟩
theorem ajA (li sp:Value) (s h:ByteArray) (p n:Int) (w:World) (E:Env w):
  Calls Tryz.prog 45 #[li,.string ⟨#[97,98,111,117,116,58,98,108,97,110,107]⟩,.agg #[.string s,.string h,.int .i64 p,.int .i64 n],sp] w fun e w'=>e=.returned (.agg #[.int .i64 3,.int .i64 200,.int .i64 0,.int .i64 0,.string ⟨#[116,101,120,116,47,104,116,109,108,59,99,104,97,114,115,101,116,61,117,116,102,45,56]⟩,.slice none 0 0])∧Below w.heap.size w w':=by
 obtain⟨u,h1,h2⟩:=ajM
 exact aaj li sp [97,98,111,117,116,58,98,108,97,110,107] u s h p n w (ac7 h1 (by decide) w E) h2
end Go.Proofs.YtgamccijegollaaGreatDoor.apO
