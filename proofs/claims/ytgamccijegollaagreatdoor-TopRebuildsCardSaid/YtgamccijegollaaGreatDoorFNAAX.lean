/- Texts that belong together: ajj, BuiQ. -/
import Derived.Test.YtgamccijegollaaGreatDoorFNAAR
import Derived.Lib.SlBytesConst
set_option linter.unusedSimpArgs false
set_option linter.unusedVariables false
set_option maxRecDepth 100000
set_option maxHeartbeats 64000000
namespace Go.Proofs.YtgamccijegollaaGreatDoor.ajj
open Go.RowKit Base Dp cO wS mW wo UG rC qg oG JY Ce YX J7 OY jQ pO vZ acs ND sV BG NH J6 agJ aji
open Go.Proofs.YtgamccijegollaaGreatDoor.aZ (adw)
theorem bare_uM (R:List UInt8):Bl (uM R)=vX++R:=by
 rw[yD]
 show DATA++[58]++KU (uM R)++R++[]=_
 rw[show KU (uM R)=[]from rfl]
 simp[DATA,vX]
theorem rest_uM (R:List UInt8):Jv (uM R)=R:=by
 have h:=aix (u:=uM R) rfl
 rw[bare_uM]at h
 exact(List.append_cancel_left h).symm
theorem ans_uM {R B:List UInt8} {M:MT} (h:proc R=some (M,B)):Ig (uM R)=(M,B)∧aai (uM R)=0:=by
 have hs:(uM R).au=DATA:=rfl
 unfold Ig aai ans err
 rw[rest_uM,h,if_pos hs,if_pos hs]
 exact⟨rfl,rfl⟩
theorem aey (M:MT):same2 M M=true:=OY.Ls _ _ _
theorem qH (letters:Bool) {M:MT} (B:List UInt8) (h:kR M.ty M.sub M.ps=true):Eb (mk letters M B) M B=true:=by
 have h1:=ab1 letters B h
 obtain⟨h2,h3⟩:=ans_uM (M:=⟨M.ty,M.sub,M.ps⟩) (aij letters B h)
 unfold Eb mk
 rw[h1]
 simp only
 rw[h2,h3]
 have h4:same2 M M=true:=aey M
 simpa using h4
theorem EU {M:MT} (hF:vY (strOf M.ty) (strOf M.sub) (nY M.ps)) {A:Option Addr} {c:Nat} (w:World) (h:Mp w M A c):Calls Tryz.prog 49 #[.agg #[.string (strOf M.ty),.string (strOf M.sub),.slice A M.ps.length c]] w fun e w'=>e=.returned (.string (strOf (dS M.ty M.sub M.ps)))∧Below w.heap.size w w':=by
 have k:=NH.print_any (strOf M.ty) (strOf M.sub) A M.ps.length c (nY M.ps) w h.prm h.nc h.cm hF
 rw[Rj]at k
 exact k
def TP:MT:=⟨[116,101,120,116],[112,108,97,105,110],[]⟩
def AB:MT:=⟨[97],[98],[]⟩
theorem anR:vY (strOf TP.ty) (strOf TP.sub) (nY TP.ps):=⟨by decide,by decide,by intro p hp;cases hp⟩
theorem ab_few:vY (strOf AB.ty) (strOf AB.sub) (nY AB.ps):=⟨by decide,by decide,by intro p hp;cases hp⟩
theorem mp_nil (w:World) (ty sub:List UInt8):Mp w ⟨ty,sub,[]⟩ none 0:=⟨Nat.le_refl _,by decide,rfl,fun j hj=>by cases hj⟩
theorem tp_bld:bld false TP [97,32,98]=([100,97,116,97,58,116,101,120,116,47,112,108,97,105,110,44,97,37,50,48,98],0):=by
 have h:=qH false (M:=TP) [97,32,98] (by decide)
 have e:mk false TP [97,32,98]=[100,97,116,97,58,116,101,120,116,47,112,108,97,105,110,44,97,37,50,48,98]:=by decide+kernel
 unfold bld
 rw[h,e]
 rfl
theorem anQ (A2:Option Addr) (c2:Nat) (w:World) (hB:aY w A2 3 (ah [97,32,98])) (hc:3≤c2) (E:Env w):Calls Tryz.prog 33 #[.agg #[.string ⟨#[116,101,120,116]⟩,.string ⟨#[112,108,97,105,110]⟩,.slice none 0 0],.slice A2 3 c2,.bool false] w fun e w'=>e=.returned (.tuple #[.string ⟨#[100,97,116,97,58,116,101,120,116,47,112,108,97,105,110,44,97,37,50,48,98]⟩,.int .i64 0])∧Below w.heap.size w w':=by
 have k:=Ky false TP none 0 A2 3 c2 [97,32,98] w (mp_nil w _ _) hB hc (by decide) E (fun w' h=>EU anR w' h) (by decide) (J6.vY.mid anR) (.inl (by decide+kernel))
 rw[tp_bld]at k
 exact k
theorem am0 (w:World):Calls Tryz.prog 34 #[.agg #[.string ⟨#[97]⟩,.string ⟨#[98]⟩,.slice none 0 0]] w fun e w'=>e=.returned (.bool true)∧Below w.heap.size w w':=by
 have HRI:Hid (∀w:World,Calls Tryz.prog 86 #[.agg #[.string ⟨#[97]⟩,.string ⟨#[98]⟩,.slice none 0 0]] w fun e w'=>e=.returned (.bool true)∧Below w.heap.size w w'):=fun w=>zi ⟨#[97]⟩ ⟨#[98]⟩ none 0 0 [] w ⟨rfl,fun j hj=>by cases hj⟩ (Nat.le_refl _) (by decide) (J6.vY.mid ab_few)
 have HES:Hid (∀w:World,Calls Tryz.prog 70 #[.agg #[.string ⟨#[97]⟩,.string ⟨#[98]⟩,.slice none 0 0]] w fun e w'=>e=.returned (.string ⟨#[97,47,98]⟩)∧Below w.heap.size w w'):=fun w=>BG.Dn ⟨#[97]⟩ ⟨#[98]⟩ (.slice none 0 0) w (by decide) (by decide)
 have HCO:Hid (∀w:World,Calls Tryz.prog 89 #[.string ⟨#[97,47,98]⟩,.string ⟨#[35]⟩] w fun e w'=>e=.returned (.bool false)∧w=w'):=fun w=>by
  refine(Tryz.strings_Contains_one ⟨#[97,47,98]⟩ 35 w).mono ?_
  rintro e w' ⟨rfl,rfl⟩
  exact⟨rfl,rfl⟩
 go_enter Tryz.func34,Tryz.ntmps34
 go_upto_region 1 with(fail)
 generalize hw1:w.alloc _=w1
 have HB1:Hid (Below w.heap.size w w1):=by show Below _ _ _;rw[←hw1];exact(Below.refl _ _).alloc (Nat.le_refl _) _
 have hx1:B3 44 w1 w.heap.size (.string ⟨#[97]⟩) (.string ⟨#[98]⟩) (.slice none 0 0):=by
  rw[←hw1]
  exact heap_alloc_new w _
 have kP:=hid hx1
 obtain⟨c0,c1,c2⟩:=hx1.facts
 clear hw1 hx1
 go_wp2_with fail
 clear c0 c1 c2
 refine(HRI.out _).mono ?_
 rintro e w2 ⟨rfl,hb2⟩
 have HB2:=hid (bel HB1.out hb2)
 have gY:=hid (kP.out.below hb2)
 clear hb2 kP
 obtain⟨c0,c1,c2⟩:=gY.out.facts
 go_wp2_with fail
 clear c0 c1 c2
 refine(HES.out _).mono ?_
 rintro e w3 ⟨rfl,hb3⟩
 have HB3:=hid (bel HB2.out hb3)
 have jI:=hid (gY.out.below hb3)
 clear hb3 gY
 go_wp2_with fail
 refine(HCO.out _).mono ?_
 rintro e wx ⟨rfl,hwx⟩
 obtain rfl:w3=wx:=hwx
 obtain⟨c0,c1,c2⟩:=jI.out.facts
 go_wp2
 go_loopw [4,16] (fun _ vk wr=>vk=.int .i64 0∧Below w.heap.size w wr) (fun _ _ _=>0)
 case atStart=>exact⟨rfl,HB3.out⟩
 case round=>
  obtain⟨rfl,hbl⟩:=hrel
  go_wp2
  go_ret
  exact⟨rfl,hbl⟩
theorem UN (w:World) (hE:Env w):Calls Tryz.prog 32 #[] w fun e w'=>e=.returned (.bool true)∧Below w.heap.size w w':=by
 obtain⟨OS,hOS⟩:∃S:ByteArray,S=⟨#[100,97,116,97,58,116,101,120,116,47,112,108,97,105,110,44,97,37,50,48,98]⟩:=⟨_,rfl⟩
 have HBD:Hid (∀(A2:Option Addr) (c2:Nat) (w:World),aY w A2 3 (ah [97,32,98])→3≤c2→Env w→Calls Tryz.prog 33 #[.agg #[.string ⟨#[116,101,120,116]⟩,.string ⟨#[112,108,97,105,110]⟩,.slice none 0 0],.slice A2 3 c2,.bool false] w fun e w'=>e=.returned (.tuple #[.string OS,.int .i64 0])∧Below w.heap.size w w'):=fun A2 c2 w h k E=>by rw[hOS];exact anQ A2 c2 w h k E
 have vW:Hid (∀w:World,Calls Tryz.prog 34 #[.agg #[.string ⟨#[97]⟩,.string ⟨#[98]⟩,.slice none 0 0]] w fun e w'=>e=.returned (.bool true)∧Below w.heap.size w w'):=am0
 have hO:OS.toList=[100,97,116,97,58,116,101,120,116,47,112,108,97,105,110,44,97,37,50,48,98]:=by rw[hOS,Lib.toList_data]
 have HE:=hid hE
 have hO2:(OS.toList==[100,97,116,97,58,116,101,120,116,47,112,108,97,105,110,44,97,37,50,48,98])=true:=by rw[hO];rfl
 clear hOS hE
 have kc:=fun(w:World) (C:Array Value) (n c:Nat)=>Lib.run_convert_bytes_const (P:=Tryz.prog) w 45 5 C n c Tryz.underlying45 Tryz.underlying5
 go_enter Tryz.func32,Tryz.ntmps32
 go_wp2_with fail
 have hb:=(Below.refl w.heap.size w).alloc (Nat.le_refl _) (.cells (ah [97,32,98]).toArray 5 (3,4))
 clear kc
 refine(HBD.out _ 3 _ (qF w [97,32,98] 5 (3,4)) (Nat.le_refl _) (HE.out.below hb)).mono ?_
 rintro e w2 ⟨rfl,hb2⟩
 have HB2:=hid (bel hb hb2)
 clear hb2
 go_wp2_with fail
 refine(vW.out _).mono ?_
 rintro e w3 ⟨rfl,hb3⟩
 have HB3:=hid (bel HB2.out hb3)
 clear hb3
 go_wp2
 go_ret
 exact⟨rfl,HB3.out⟩
end Go.Proofs.YtgamccijegollaaGreatDoor.ajj
namespace Go.Proofs.YtgamccijegollaaGreatDoor.BuiQ
open Go.Proofs.YtgamccijegollaaGreatDoor.ajm (aiQ)
open Go.Proofs.YtgamccijegollaaGreatDoor.wo (Bl)
open Go.RowKit Base cO pU rC qg NG sV OY JY acs agJ aji ND
theorem aoC:∀L:List UInt8,(qd L).1.length≤(qd L).2
 |[]=>by simp[qd]
 |[c]=>by unfold qd;split<;>simp
 |c::d::t=>by
  have h1:=aoC t
  have h2:=aoC (d::t)
  unfold qd
  split
  ·simp
  ·split
   ·simp only[List.length_cons];omega
   ·simp only[List.length_cons];omega
theorem apA (s:List UInt8):(jT s).1.length≤(jT s).2:=by
 cases s with
 |nil=>simp[jT]
 |cons c t=>
  have:=aoC t
  by_cases h:c=34
  ·rw[show jT (c::t)=((qd t).1,(qd t).2+1)from by simp[jT,h]]
   show(qd t).1.length≤(qd t).2+1
   omega
  rw[show jT (c::t)=([],0)from by simp[jT,h]]
  exact Nat.zero_le _
theorem vl_both (s:List UInt8):(vl s).1.length+(vl s).2.2.length≤s.length:=by
 unfold vl
 split
 ·have h1:=apA s
  have h2:=ang s
  have h3:=zX [59] (s.drop (jT s).2)
  rw[List.length_drop]at h3
  show(jT s).1.length+(dw [59] (s.drop (jT s).2)).length≤_
  omega
 have h:=congrArg List.length (Wp [59] s)
 rw[List.length_append]at h
 have:=Sl (tw [59] s)
 show(tr (tw [59] s)).length+(dw [59] s).length≤_
 omega
theorem aeY (L:List UInt8):(lower L).length=L.length:=by simp[lower]
theorem pm_both {t:List UInt8} {p:List UInt8×List UInt8} (h:(pm t).1=some p):p.1.length+p.2.length+1+(pm t).2.length≤t.length:=by
 have h1:=congrArg List.length (Wp [59,61] (tl t))
 have h2:=Hl t
 cases hd:dw [59,61] (tl t)with
 |nil=>
  have e:pm t=(none,[]):=by unfold pm;rw[hd]
  rw[e]at h
  cases h
 |cons c r=>
  rw[hd,List.length_append,List.length_cons]at h1
  have e:pm t=(if c=59 then(none,c::r)else(if ((vl r).2.1&&dP (tw [59,61] (tl t))&&pm.VW (vl r).1)=true then some (lower (tw [59,61] (tl t)),(vl r).1)else none,(vl r).2.2)):=by unfold pm;rw[hd]
  rw[e]at h⊢
  by_cases h59:c=59
  ·rw[if_pos h59]at h;cases h
  rw[if_neg h59]at h⊢
  dsimp only at h⊢
  split at h
  ·injection h with h
   subst h
   have h3:=vl_both r
   show(lower (tw [59,61] (tl t))).length+(vl r).1.length+1+(vl r).2.2.length≤_
   rw[aeY]
   omega
  cases h
theorem al1:∀(n:Nat) (r:List UInt8) (acc:PL),(pps (prF n r acc)).length≤(pps acc).length+3*r.length
 |0,r,acc=>by show(pps acc).length≤_;omega
 |_+1,[],acc=>by show(pps acc).length≤_;omega
 | n +1,c::t,acc=>by
  rw[prF,List.length_cons]
  have ih:=al1 n (pm t).2 (Kt acc (pm t).1)
  have hl:=Ya t
  cases ho:(pm t).1 with
  |none=>
   rw[ho]at ih
   have e:Kt acc none=acc:=rfl
   rw[e]at ih⊢
   omega
  | some p=>
   have hb:=pm_both ho
   rw[ho]at ih
   have ha:(pps (Kt acc (some p))).length≤(pps acc).length+(p.1.length+2*p.2.length+4):=by
    unfold Kt
    dsimp only
    split
    ·omega
    ·rw[Rh,List.length_append]
     unfold Q9
     rw[List.length_cons,List.length_append,List.length_cons]
     have:=anb p.2
     omega
   omega
theorem GR {s:List UInt8} {m:MT} (h:mime s=some m):(dS m.ty m.sub m.ps).length≤3*s.length+1:=by
 have ht:=agx s
 have h1:=congrArg List.length (Wp [47] (ru s))
 rw[List.length_append]at h1
 unfold mime at h
 split at h
 ·cases h
 rename_i c B hB
 rw[hB,List.length_cons]at h1
 split at h
 ·injection h with h
  subst h
  have h3:=congrArg List.length (Wp [59] B)
  rw[List.length_append]at h3
  have h5:=Sl (tw [59] B)
  have h6:=al1 (dw [59] B).length (dw [59] B) []
  rw[Ot,List.length_nil]at h6
  show(dS (lower (tw [47] (ru s))) (lower (tr (tw [59] B))) (prF (dw [59] B).length (dw [59] B) [])).length≤_
  unfold dS ess
  rw[List.length_append,List.length_append,List.length_cons,aeY,aeY]
  omega
 cases h
theorem an1 (H:List UInt8):(dS (typ H).ty (typ H).sub (typ H).ps).length≤3*H.length+40:=by
 have hw:=aiX H
 unfold typ
 cases hm:mime (Es H)with
 |none=>
  show(dS fall.ty fall.sub fall.ps).length≤_
  have:(dS fall.ty fall.sub fall.ps).length≤40:=by decide+kernel
  omega
 |some m=>
  have k:=GR hm
  show(dS m.ty m.sub m.ps).length≤_
  omega
theorem aqp (letters:Bool) (B:List UInt8):(Em letters B).length≤3*B.length+12:=by
 unfold Em
 cases letters with
 |true=>
  rw[if_pos rfl,List.length_append,List.length_cons,acp.XC]
  show 7+_≤_
  omega
 |false=>
  rw[if_neg (by decide),List.length_cons]
  have:=apt.Qg B
  omega
theorem aql (letters:Bool) (M:MT) (B:List UInt8) (n m:Nat) (h1:(dS M.ty M.sub M.ps).length≤3*n+40) (h2:B.length≤m):(mk letters M B).length≤3*(n+m)+60:=by
 have h3:=aqp letters B
 unfold mk made zf
 rw[List.length_append,List.length_append]
 show 5+_≤_
 omega
theorem al0 (b:UInt8):∀L:List UInt8,(wS.fG b L).1.length+(wS.fG b L).2.1.length≤L.length
 |[]=>by simp[wS.fG]
 |c::L=>by
  have ih:=al0 b L
  rw[wS.fG]
  split
  ·simp
  ·simp only[List.length_cons];omega
theorem apo (letters:Bool) {L:List UInt8} {M:MT} {B:List UInt8} (hp:proc L=some (M,B)):(mk letters M B).length≤3*L.length+60:=by
 have hc:=al0 44 L
 have ht:(Lib.trimS (wS.fG 44 L).1 ws).length≤(wS.fG 44 L).1.length:=aiQ ws _
 have hd:(fU.dec (wS.fG 44 L).2.1).length≤(wS.fG 44 L).2.1.length:=fU.ku _
 unfold proc at hp
 dsimp only at hp
 generalize Lib.trimS (wS.fG 44 L).1 ws=H at hp ht
 generalize fU.dec (wS.fG 44 L).2.1=C at hp hd
 generalize (wS.fG 44 L).2.2=c at hp
 cases c with
 |false=>rw[if_neg (by decide)]at hp;cases hp
 | true=>
  rw[if_pos rfl]at hp
  have hu:=ajc H
  generalize YT H=d at hp
  cases d with
  |false=>
   rw[if_neg (by decide)]at hp
   obtain⟨rfl,rfl⟩:=Prod.mk.inj (Option.some.inj hp)
   refine Nat.le_trans (aql letters _ _ H.length C.length (an1 H) (Nat.le_refl _)) ?_
   omega
  |true=>
   rw[if_pos rfl]at hp
   generalize Nw.Hr C=o at hp
   cases o with
   |false=>rw[if_neg (by decide)]at hp;cases hp
   |true=>
    rw[if_pos rfl]at hp
    obtain⟨rfl,rfl⟩:=Prod.mk.inj (Option.some.inj hp)
    have:=Nw.dB_len C
    refine Nat.le_trans (aql letters _ _ (Us H).length C.length (an1 _) this) ?_
    omega
theorem apa {L:List UInt8} {M:MT} {B:List UInt8} (hp:proc L=some (M,B)):fD M.ty M.sub M.ps=true:=by
 unfold proc at hp
 dsimp only at hp
 generalize Lib.trimS (wS.fG 44 L).1 ws=H at hp
 generalize fU.dec (wS.fG 44 L).2.1=C at hp
 generalize (wS.fG 44 L).2.2=c at hp
 cases c with
 |false=>rw[if_neg (by decide)]at hp;cases hp
 | true=>
  rw[if_pos rfl]at hp
  generalize YT H=d at hp
  cases d with
  |false=>
   rw[if_neg (by decide)]at hp
   obtain⟨rfl,rfl⟩:=Prod.mk.inj (Option.some.inj hp)
   exact Ce.LZ _
  |true=>
   rw[if_pos rfl]at hp
   generalize Nw.Hr C=o at hp
   cases o with
   |false=>rw[if_neg (by decide)]at hp;cases hp
   |true=>
    rw[if_pos rfl]at hp
    obtain⟨rfl,rfl⟩:=Prod.mk.inj (Option.some.inj hp)
    exact Ce.LZ _
theorem aoA (letters:Bool) {u:wS.U} {M:MT} {B:List UInt8} (hS:(Bl u).length≤16000) (ha:Ig u=(M,B)) (he:aai u=0):(mk letters M B).length≤49000∧fD M.ty M.sub M.ps=true∧B.length≤65536:=by
 have h1:=anm u
 unfold aai err at he
 unfold Ig ans at ha
 split at he
 ·rename_i hs
  rw[if_pos hs]at ha
  cases hp:proc (Jv u)with
  |none=>rw[hp]at he;cases he
  |some v=>
   rw[hp]at ha
   obtain⟨N,C⟩:=v
   obtain⟨rfl,rfl⟩:=Prod.mk.inj ha
   have h2:=apo letters hp
   have h3:=apo false hp
   refine⟨by omega,apa hp,?_⟩
   have h4:C.length≤(mk false N C).length:=by
    unfold mk made zf Em
    rw[if_neg (by decide),List.length_append,List.length_append,List.length_cons]
    have:=apt.escd_ge C
    omega
   omega
 cases he
theorem anq {N M:MT} (h:same2 N M=true):N=M:=by
 unfold same2 J7.Jz at h
 rw[Bool.and_eq_true,Bool.and_eq_true,decide_eq_true_iff,decide_eq_true_iff,decide_eq_true_iff]at h
 obtain⟨h1,h2,h3⟩:=h
 have g:∀a b:List UInt8,strOf a=strOf b→a=b:=fun a b e=>by have:=congrArg (fun s:ByteArray=>s.data.toList) e;exact this
 have h4:N.ps=M.ps:=by rw[←Rj N.ps,h3,Rj]
 cases N;cases M
 simp only[MT.mk.injEq]
 exact⟨g _ _ h1,g _ _ h2,h4⟩
theorem abw {s:List UInt8} {M:MT} {B:List UInt8} (h:Eb s M B=true):∃u,wS.url s none=some u∧aai u=0∧Ig u=(M,B):=by
 unfold Eb at h
 cases e:wS.url s none with
 |none=>rw[e]at h;cases h
 |some u=>
  rw[e]at h
  simp only[Bool.and_eq_true,decide_eq_true_iff]at h
  obtain⟨h1,h2,h3⟩:=h
  refine⟨u,rfl,h1,?_⟩
  rw[←anq h2,←h3]
theorem apm (letters:Bool) {u:wS.U} {M:MT} {B:List UInt8} (hS:(Bl u).length≤16000) (ha:Ig u=(M,B)) (he:aai u=0):
  (∃v,bld letters M B=(mk letters M B,0)∧wS.url (mk letters M B) none=some v∧aai v=0∧Ig v=(M,B))∨(bld letters M B=([],2)∧Eb (mk letters M B) M B=false):=by
 obtain⟨h1,h2,h3⟩:=aoA letters hS ha he
 unfold bld
 rw[if_pos h2,if_neg (by omega),if_neg (by omega)]
 cases hs:Eb (mk letters M B) M B with
 |true=>
  obtain⟨v,g1,g2,g3⟩:=abw hs
  exact .inl ⟨v,by rw[if_pos rfl],g1,g2,g3⟩
 |false=>exact .inr ⟨by rw[if_neg (by decide)],rfl⟩
theorem aoB (letters:Bool) {u:wS.U} {M:MT} {B:List UInt8} {n c:Nat} (hSh:Sh u n c) (hS:(Bl u).length≤16000) (ha:Ig u=(M,B)) (he:aai u=0) (A:Option Addr) (c1:Nat) (A2:Option Addr) (nb c2:Nat) (w:World) (hM:Mp w M A c1) (hB:aY w A2 nb (ah B)) (hc2:nb≤c2) (E:UG.Env w):
  Calls Tryz.prog 33 #[.agg #[.string (strOf M.ty),.string (strOf M.sub),.slice A M.ps.length c1],.slice A2 nb c2,.bool letters] w fun e w'=>e=.returned (.tuple #[.string (strOf (bld letters M B).1),.int .i64 (bld letters M B).2])∧Below w.heap.size w w':=by
 obtain⟨h1,h2,h3⟩:=aoA letters hS ha he
 have hmid:=aoa.aja hSh
 rw[ha]at hmid
 have hl:B.length=nb:=by rw[←aI];exact hB.1
 have hP:(dS M.ty M.sub M.ps).length≤(mk letters M B).length:=by
  unfold mk made zf
  rw[List.length_append,List.length_append]
  omega
 exact Ky letters M A c1 A2 nb c2 B w hM hB hc2 (by omega) E (fun w' h'=>aoa.ajL hmid w' h') (by omega) hmid (.inl h1)
theorem ai6 {u:wS.U} {M:MT} {B:List UInt8} (ha:Ig u=(M,B)) (he:¬aai u=0):B=[]:=by
 unfold aai err at he
 unfold Ig ans at ha
 split at ha
 ·rename_i hs
  rw[if_pos hs]at he
  cases hp:proc (Jv u)with
  |none=>rw[hp]at ha;injection ha with _ e;exact e.symm
  |some v=>rw[hp]at he;exact absurd rfl he
 injection ha with _ e;exact e.symm
theorem aqc:oN.Fit wS.U0 0:=⟨by decide,by decide,by decide⟩
theorem aqb:¬aai wS.U0=0:=by
 unfold aai err
 rw[if_neg (by decide)]
 decide
end Go.Proofs.YtgamccijegollaaGreatDoor.BuiQ
