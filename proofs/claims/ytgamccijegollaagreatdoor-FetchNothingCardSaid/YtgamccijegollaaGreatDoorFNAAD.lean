/- Texts that belong together: jQ, WU, nP, cO, SixE, SixF, akq, Zx, acN, acO. -/
import Derived.Test.YtgamccijegollaaGreatDoorFNAAC
import Derived.Lib.LaidTab
import Derived.Lib.LaidU8
import Derived.Lib.SmallJoins
import Derived.Laws.Bits64b
import Derived.BigQuiet
import Derived.Test.YtgamccijegollaaGreatDoorFNAAA
import Derived.Deep.DeepCutAuto
import Derived.Deep.CutBlock
import Derived.Test.YtgamccijegollaaGreatDoorShelf
import Derived.Test.YtgamccijegollaaGreatDoorShelf3
set_option linter.unusedSimpArgs false
set_option linter.unusedVariables false
set_option maxRecDepth 100000
set_option maxHeartbeats 64000000
namespace Go.Proofs.YtgamccijegollaaGreatDoor.jQ
open Go.RowKit Base Dp
def oI (w:World):Prop:=w.cell? ⟨5,15,none⟩=some (.int .u8 4)
theorem oI.below {w w':World} (h:oI w) (hb:Below w.heap.size w w'):oI w':=(hb.cell (World.block_lt_of_cell? _ _ h)).trans h
def ak4:List Int:=[0,1,56,2,57,49,28,3,61,58,42,50,38,29,17,4,62,47,59,36,45,43,51,22,53,39,33,30,24,18,12,5,63,55,48,27,60,41,37,16,46,35,44,21,52,32,23,11,54,26,40,15,34,20,31,10,25,14,19,9,13,8,7,6]
theorem P9:Tryz.prog.globalNamed "math/bits.deBruijn64tab" =some 5:=by kernel_rfl
theorem lad_of {W:World} {l:List (String×DataW Unit)} (h:laidMet Tryz.prog l W) (hm:("math/bits.deBruijn64tab",Lib.tabData .u8 ak4) ∈ l):oI W:=by
 obtain⟨g',t',cs,fuel,p,hg',ht',hvar,hd⟩:=Lib.laidMet.reads h hm
 obtain rfl:=Option.some.inj (P9.symm.trans hg')
 obtain rfl:=Option.some.inj ((show(Tryz.prog.globals[5]?).map (·.type)=some 352 by kernel_rfl).symm.trans ht')
 have hc:=Lib.cells_of_tab (k:=.u8) (zs:=ak4) Tryz.underlying352 Tryz.underlying5 (by kernel_rfl) (by kernel_rfl) hd
 unfold World.var? at hvar
 rw[P9]at hvar
 simp only[Option.bind_some]at hvar
 unfold oI World.cell?
 split at hvar
 ·rename_i x y z hh
  injection hvar with hvar
  rw[hh]
  simp only[]
  have e:x.toList=ak4.map fun z=>Value.int .u8 z:=by rw[hvar];exact hc
  rw[←Array.getElem?_toList,e]
  rfl
 cases hvar
def lW (n:Nat):UInt8:=if n<10 then UInt8.ofNat (48+n)else UInt8.ofNat (87+n)
def hxs:Nat→Nat→List UInt8→List UInt8
 |0,u,acc=>lW u::acc
 |f+1,u,acc=>if 16≤u then hxs f (u / 16) (lW (u%16)::acc)else lW u::acc
def hx (n:Nat):List UInt8:=hxs 3 n []
theorem U7 (k:Nat) (hk:k<16) (h:k<(⟨#[48,49,50,51,52,53,54,55,56,57,97,98,99,100,101,102,103,104,105,106,107,108,109,110,111,112,113,114,115,116,117,118,119,120,121,122]⟩:ByteArray).size):(⟨#[48,49,50,51,52,53,54,55,56,57,97,98,99,100,101,102,103,104,105,106,107,108,109,110,111,112,113,114,115,116,117,118,119,120,121,122]⟩:ByteArray)[k]'h=lW k:=by
 have hcase:k=0∨k=1∨k=2∨k=3∨k=4∨k=5∨k=6∨k=7∨k=8∨k=9∨k=10∨k=11∨k=12∨k=13∨k=14∨k=15:=by omega
 rcases hcase with rfl|rfl|rfl|rfl|rfl|rfl|rfl|rfl|rfl|rfl|rfl|rfl|rfl|rfl|rfl|rfl<;>rfl
theorem PE (u:Nat) (h:u<65536):bits .and .u64 (u:Int) 15=(u:Int)%16:=by
 have:=bits_and_u64_nat u 15 (by omega) (by omega)
 rw[show((15:Nat):Int)=15 from rfl]at this
 rw[this,show(15:Nat)=2^4 - 1 from rfl,Nat.and_two_pow_sub_one_eq_mod]
 omega
def JX (w:World) (g:Nat) (t:TypeId) (L:List UInt8):Prop:=w.heap[g]?=some (.cells (ah L).toArray t (0,0))
theorem JX.cell {w:World} {g:Nat} {t:TypeId} {L:List UInt8} (h:JX w g t L) (j:Nat) (hj:j<L.length):w.cell? ⟨g,j,none⟩=some (.int .u8 (L[j].toNat:Int)):=by
 refine(cell_of_row w g j _ _ _ h).trans ?_
 simp[ah,hj]
theorem JX.frozen {w:World} {g:Nat} {t:TypeId} {L:List UInt8} (h:JX w g t L) (j:Nat):w.frozen? ⟨g,j,none⟩=false:=by
 unfold World.frozen?
 rw[h]
 simp
theorem JX.set {w:World} {g:Nat} {t:TypeId} {L:List UInt8} (h:JX w g t L) (j:Nat) (c:UInt8):JX (w.setCell ⟨g,j,none⟩ (.int .u8 (c.toNat:Int))) g t (L.set j c):=by
 have:=heap_setCell_same w g j _ _ (.int .u8 (c.toNat:Int)) h
 unfold JX
 rw[this]
 simp[ah,List.map_set]
theorem JX.zB {w:World} {g:Nat} {t:TypeId} {L:List UInt8} (h:JX w g t L) (i:Nat) (hi:i≤L.length):aY w (some ⟨g,i,none⟩) (L.length - i) (ah (L.drop i)):=
 aY.jF (by rw[aI,List.length_drop]) (Array.getElem?_eq_some_iff.1 h).1 (fun j hj=>by
  rw[aI,List.length_drop]at hj
  rw[h.cell (i+j) (by omega)]
  simp[ah])
theorem anY (w:World) (hL:oI w):Calls Tryz.prog 349 #[.int .u64 16] w fun e w'=>e=.returned (.int .i64 4)∧w=w':=by
 have h1:IntKind.u64.wrap (-16)=18446744073709551600:=by kernel_rfl
 have h2:bits .and .u64 16 18446744073709551600=16:=by kernel_rfl
 unfold oI at hL
 go_enter Tryz.func349,Tryz.ntmps349
 go_wp2
 go_ret
 exact⟨rfl,rfl⟩
theorem tz_any (w:World) (hL:oI w):Calls Tryz.prog 340 #[.int .u64 16] w fun e w'=>e=.returned (.int .i64 4)∧w=w':=by
 go_enter Tryz.func340,Tryz.ntmps340
 go_wp2_with fail
 refine(anY _ hL).mono ?_
 rintro e w2 ⟨rfl,hw2⟩
 subst hw2
 go_wp2
 go_ret
 exact⟨rfl,rfl⟩
theorem am5 (w:World):Calls Tryz.prog 339 #[.int .i64 16] w fun e w'=>e=.returned (.bool true)∧w=w':=by
 have h1:bits .and .i64 16 15=0:=by kernel_rfl
 go_enter Tryz.func339,Tryz.ntmps339
 go_wp2
 go_ret
 exact⟨rfl,rfl⟩
theorem akT (n:Nat) (hn:n<65536) (w:World) (hL:oI w):Calls Tryz.prog 316 #[.slice none 0 0,.int .u64 (n:Int),.int .i64 16,.bool false,.bool false] w fun e w'=>e=.returned (.tuple #[.slice none 0 0,.string (strOf (hx n))])∧Below w.heap.size w w':=by
 obtain⟨H,hH⟩:∃H,H=hx n:=⟨_,rfl⟩
 rw[←hH]
 have HH:=hid hH
 have Y8:=hid hL
 clear hH hL
 go_enter Tryz.func316,Tryz.ntmps316
 go_upto_region 4 with(fail)
 generalize hw1:w.alloc _=w1
 have HB1:Hid (Below w.heap.size w w1):=by
  show Below _ _ _
  rw[←hw1]
  exact(Below.refl _ _).alloc (Nat.le_refl _) _
 have kP:Hid (JX w1 w.heap.size 339 (List.replicate 65 0)):=by
  show JX _ _ _ _
  rw[←hw1]
  exact heap_alloc_new _ _
 clear hw1
 go_wp2_with fail
 refine(am5 _).mono ?_
 rintro e w2 ⟨rfl,hw2⟩
 subst hw2
 go_wp2_with fail
 refine(tz_any _ (Y8.out.below HB1.out)).mono ?_
 rintro e w2 ⟨rfl,hw2⟩
 subst hw2
 go_wp2_with fail
 go_loopw [1,13] (fun vu vi wr=>∃(f u i:Nat) (L:List UInt8),f≤3∧u<16^(f+1)∧u<65536∧i=62+f∧vu=.int .u64 (u:Int)∧vi=.int .i64 (i:Int)∧Hid (L.length=65)∧Hid (JX wr w.heap.size 339 L)∧Hid (H=hxs f u (L.drop i))∧Hid (Below w.heap.size w wr)) (fun vu _ _=>(intOf vu).toNat)
 case atStart=>exact⟨3,n,65,List.replicate 65 0,by omega,hn,hn,rfl,rfl,rfl,rfl,kP.out,HH.out,HB1.out⟩
 case round =>
  obtain⟨f,u,i,L,hf,hu,hu6,hi,rfl,rfl,Ci,HX,HW,HB⟩:=hrel
  obtain⟨j,hj⟩:∃j,i=j+1:=⟨i - 1,by omega⟩
  have hij:(i:Int) - 1=(j:Int):=by omega
  have hj64:j≤64:=by omega
  have hi65:i≤65:=by omega
  have hi1:(1:Int)≤(i:Int):=by omega
  have hj65:(j:Int)<65:=by omega
  obtain⟨x0,hc0⟩:∃x0,wr.cell? ⟨w.heap.size,j,none⟩=some x0:=⟨_,HX.out.cell j (by rw[Ci.out];omega)⟩
  have hf0:=HX.out.frozen j
  have HJ:=hid hj
  by_cases h16:16≤u
  ·have h16i:(16:Int)≤(u:Int):=by omega
   obtain⟨f',rfl⟩:∃f',f=f'+1:=by
    cases f with
    |zero=>simp at hu;omega
    |succ f'=>exact⟨f',rfl⟩
   have HIF:=hid hi
   have ha:=PE u hu6
   have q0:(0:Int)≤(u:Int)%16:=by omega
   have q1:(u:Int)%16<16:=by omega
   have q2:(u:Int)%16<36:=by omega
   have q3:∀h,(⟨#[48,49,50,51,52,53,54,55,56,57,97,98,99,100,101,102,103,104,105,106,107,108,109,110,111,112,113,114,115,116,117,118,119,120,121,122]⟩:ByteArray)[((u:Int)%16).toNat]'h=lW (u%16):=fun h=>by
    have e:((u:Int)%16).toNat=u%16:=by omega
    simp only[e]
    exact U7 _ (by omega) _
   obtain⟨v,hv⟩:∃v,v=u / 16:=⟨_,rfl⟩
   have hvi:(u:Int) / 16=(v:Int):=by omega
   have gY:=hid (HX.out.set j (lW (u%16)))
   have HB2:Hid (Below w.heap.size w (wr.setCell ⟨w.heap.size,j,none⟩ (.int .u8 ((lW (u%16)).toNat:Int)))):=HB.out.setCell (Nat.le_refl _) _
   have HW2:Hid (H=hxs f' v ((L.set j (lW (u%16))).drop j)):=by
    show _=_
    have hd:(L.set j (lW (u%16))).drop j=lW (u%16)::L.drop i:=by
     rw[List.drop_eq_getElem_cons (by rw[List.length_set,Ci.out];omega),List.getElem_set_self,List.drop_set_of_lt (by omega),←HJ.out]
    rw[hd,HW.out,hv]
    conv=>lhs;unfold hxs
    rw[if_pos h16]
   have HV:Hid (v<16^(f'+1)∧v<65536∧v<u):=⟨by rw[hv];rw[Nat.pow_succ]at hu;omega,by omega,by omega⟩
   have uQ:=hid hv
   clear hu hv hj hi h16
   go_wp2
   go_roundw
   case rel=>exact⟨f',v,j,_,by omega,HV.out.1,HV.out.2.1,by have:=HIF.out;have:=HJ.out;omega,by go_num,by go_num,by rw[List.length_set];exact Ci.out,gY.out,HW2.out,HB2.out⟩
   case measure=>(have:=HV.out.2.2;simp[intOf];omega)
  have h16i:¬(16:Int)≤(u:Int):=by omega
  have q0:(u:Int)<36:=by omega
  have q3:∀h,(⟨#[48,49,50,51,52,53,54,55,56,57,97,98,99,100,101,102,103,104,105,106,107,108,109,110,111,112,113,114,115,116,117,118,119,120,121,122]⟩:ByteArray)[u]'h=lW u:=fun h=>U7 _ (by omega) _
  have gY:=hid (HX.out.set j (lW u))
  have HB2:Hid (Below w.heap.size w (wr.setCell ⟨w.heap.size,j,none⟩ (.int .u8 ((lW u).toNat:Int)))):=HB.out.setCell (Nat.le_refl _) _
  have hd:(L.set j (lW u)).drop j=H:=by
   rw[List.drop_eq_getElem_cons (by rw[List.length_set,Ci.out];omega),List.getElem_set_self,List.drop_set_of_lt (by omega),←HJ.out,HW.out]
   cases f with
   |zero=>rfl
   |succ f'=>unfold hxs;rw[if_neg h16]
  have hrd:=gY.out.zB j (by rw[List.length_set,Ci.out];omega)
  rw[List.length_set,Ci.out,hd]at hrd
  have hs:=aF (P:=Tryz.prog) 45 9 5 Tryz.underlying45 Tryz.underlying5 Tryz.underlying9 H (65 - j) hrd
  have hz:¬65 - j=0:=by omega
  have hj65b:(j:Int)≤65:=by omega
  clear hd hrd hu hi hj h16
  go_wp2
  go_ret2
  exact⟨rfl,HB2.out⟩
theorem aan (n:Nat) (hn:n<65536) (w:World) (hL:oI w):Calls Tryz.prog 351 #[.int .u64 (n:Int),.int .i64 16] w fun e w'=>e=.returned (.string (strOf (hx n)))∧Below w.heap.size w w':=by
 go_enter Tryz.func351,Tryz.ntmps351
 go_wp2_with fail
 refine(akT n hn _ hL).mono ?_
 rintro e w2 ⟨rfl,hb⟩
 go_wp2
 go_ret
 exact⟨rfl,hb⟩
theorem Qm (n:Nat) (hn:n<65536) (w:World) (hL:oI w):Calls Tryz.prog 344 #[.int .u64 (n:Int),.int .i64 16] w fun e w'=>e=.returned (.string (strOf (hx n)))∧Below w.heap.size w w':=by
 go_enter Tryz.func344,Tryz.ntmps344
 go_wp2_with fail
 refine(aan n hn _ hL).mono ?_
 rintro e w2 ⟨rfl,hb⟩
 go_wp2
 go_ret
 exact⟨rfl,hb⟩
end Go.Proofs.YtgamccijegollaaGreatDoor.jQ
namespace Go.Proofs.YtgamccijegollaaGreatDoor.WU
open Go.RowKit Base Dp oO wu O6 TJ O5 gU jQ
theorem afE:∀(f u:Nat) (acc:List UInt8),(hxs f u acc).length≤f+1+acc.length
 |0,u,acc=>by simp[hxs];omega
 |f+1,u,acc=>by
  unfold hxs
  split
  ·have:=afE f (u / 16) (lW (u%16)::acc)
   simp at this⊢
   omega
  ·simp;omega
theorem adN (n:Nat):(hx n).length≤4:=afE 3 n []
def jo:List (List UInt8)→List UInt8
 |[]=>[]
 |[x]=>x
 |x::y::r=>x++58::jo (y::r)
theorem QD:∀(xs:List (List UInt8)) (y:List UInt8),xs≠[]→jo (xs++[y])=jo xs++58::y
 |[],_,h=>absurd rfl h
 |[x],y,_=>rfl
 |x::z::r,y,_=>by
  show x++58::jo ((z::r)++[y])=x++58::jo (z::r)++58::y
  rw[QD (z::r) y (by simp)]
  simp
def jx (L:List Nat):List UInt8:=jo (L.map hx)
theorem aua:jx []=[]:=rfl
theorem amk (n:Nat):jx [n]=hx n:=rfl
theorem afL (L:List Nat) (n:Nat) (h:L≠[]):jx (L++[n])=jx L++58::hx n:=by
 unfold jx
 rw[List.map_append]
 exact QD _ _ (by simpa using h)
theorem KQ (L:List Nat):(jx L).length≤5*L.length:=by
 have H:∀M:List Nat,(jx M.reverse).length≤5*M.length:=by
  intro M
  induction M with
  |nil=>simp[jx,jo]
  |cons n M ih=>
   rw[List.reverse_cons]
   have:=adN n
   by_cases h:M.reverse=[]
   ·rw[h,List.nil_append,amk,List.length_cons]
    omega
   rw[afL _ _ h,List.length_append,List.length_cons,List.length_cons]
   omega
 have:=H L.reverse
 rwa[List.reverse_reverse,List.length_reverse]at this
theorem aeF (L:List Nat) (k:Nat) (h:k<L.length):L.take (k+1)=L.take k++[L[k]]:=List.take_succ_eq_append_getElem h
theorem QE (A:Option Addr) (n c:Nat) (L:List Nat) (w:World) (hr:aY w A n (aT L)) (h8:n≤8) (h6:∀x ∈ L,x<65536) (hL:oI w):
  Calls Tryz.prog 326 #[.slice A n c] w fun e w'=>e=.returned (.string (strOf (jx L)))∧Below w.heap.size w w':=by
 have hl:L.length=n:=by rw[←kN];exact hr.1
 have HM:=hid hl
 have HR:=hid hr
 have Y8:=hid hL
 have H6:=hid h6
 clear hr hL h6 hl
 go_enter Tryz.func326,Tryz.ntmps326
 go_wp2
 go_loopw [3,4,5,8] (fun vo _ _ vk wr=>∃(k:Nat) (X:ByteArray),k≤n∧vk=.int .i64 (k:Int)∧vo=.string X∧Hid (X=strOf (jx (L.take k)))∧Hid (Below w.heap.size w wr)) (fun _ _ _ vk _=>n - (intOf vk).toNat)
 case atStart=>exact⟨0,⟨#[]⟩,by omega,rfl,rfl,rfl,Below.refl _ _⟩
 case round=>
  obtain⟨k,X,hk,rfl,rfl,HX,HB⟩:=hrel
  by_cases hlt:k<n
  ·obtain ⟨b,off,rfl,_,_⟩:=HR.out.spot (by omega)
   obtain⟨x,hx⟩:∃x,L[k]'(by rw[HM.out];exact hlt)=x:=⟨_,rfl⟩
   have hcl:wr.cell? ⟨b,off+k,none⟩=some (.int .u16 (x:Int)):=by
    obtain⟨b',o',e1,_,hc'⟩:=(HR.out.below HB.out).2 k (by rw[kN,HM.out];exact hlt)
    cases e1
    rw[hc']
    simp[aT,hx]
   have hx6:x<65536:=by rw[←hx];exact H6.out _ (List.getElem_mem _)
   have HT:Hid (L.take (k+1)=L.take k++[x]):=by show _=_;rw[aeF L k (by rw[HM.out];exact hlt),hx]
   have hwx:IntKind.u64.wrap (x:Int)=(x:Int):=by simp[IntKind.wrap,IntKind.signed,IntKind.bits];omega
   have HX6:=hid hx6
   clear hx6
   have HXL:Hid (X.size≤40):=by
    show _≤_
    rw[HX.out,o9]
    have:=KQ (L.take k)
    rw[List.length_take]at this
    omega
   have hhl:=adN x
   clear hx
   obtain⟨Z,hZ⟩:∃Z,Z=strOf (jx (L.take (k+1))):=⟨_,rfl⟩
   have HZ:=hid hZ
   by_cases hk0:k=0
   ·have TA:=hid hk0
    have hk1:¬(0:Int)<(k:Int):=by omega
    clear hk0
    have a2:∀w:World,(Op.stringOp .add X (strOf (hx x))).run Tryz.prog w=.ok (.string Z) w:=fun w=>by
     rw[hZ,HT.out,HX.out,TA.out,List.take_zero,List.nil_append,amk,aua]
     exact aci [] (hx x) w (by simp;omega)
    clear hZ hhl
    go_wp2_with fail
    refine(Qm x HX6.out _ (Y8.out.below HB.out)).mono ?_
    rintro e w2 ⟨rfl,hb2⟩
    have HB2:Hid (Below w.heap.size w w2):=bel HB.out hb2
    clear hb2
    go_wp2
    go_roundw
    case rel=>exact⟨k+1,Z,by omega,by go_num,rfl,HZ.out,HB2.out⟩
    case measure=>simp[intOf];omega
   ·have hk1:(0:Int)<(k:Int):=by omega
    obtain⟨Y,hY⟩:∃Y,Y=strOf (jx (L.take k)++[58]):=⟨_,rfl⟩
    have a1:∀w:World,(Op.stringOp .add X ⟨#[58]⟩).run Tryz.prog w=.ok (.string Y) w:=fun w=>by
     rw[hY,HX.out]
     refine aci _ [58] w ?_
     have:=HXL.out
     rw[HX.out,o9]at this
     simp
     omega
    have a2:∀w:World,(Op.stringOp .add Y (strOf (hx x))).run Tryz.prog w=.ok (.string Z) w:=fun w=>by
     have hne:L.take k≠[]:=by
      intro h
      have:=congrArg List.length h
      rw[List.length_take,HM.out]at this
      simp at this
      omega
     rw[hZ,HT.out,afL _ _ hne,hY,show jx (L.take k)++58::hx x=(jx (L.take k)++[58])++hx x by simp]
     refine aci _ _ w ?_
     have:=HXL.out
     rw[HX.out,o9]at this
     rw[List.length_append]
     simp
     omega
    clear hZ hY hhl hk0
    go_wp2_with fail
    refine(Qm x HX6.out _ (Y8.out.below HB.out)).mono ?_
    rintro e w2 ⟨rfl,hb2⟩
    have HB2:Hid (Below w.heap.size w w2):=bel HB.out hb2
    clear hb2
    go_wp2
    go_roundw
    case rel=>exact⟨k+1,Z,by omega,by go_num,rfl,HZ.out,HB2.out⟩
    case measure=>simp[intOf];omega
  ·obtain rfl:k=n:=by omega
   have HE:Hid (X=strOf (jx L)):=by show _=_;rw[HX.out,List.take_of_length_le (by rw[HM.out];exact Nat.le_refl _)]
   go_wp2
   go_ret
   exact⟨by rw[HE.out];rfl,HB.out⟩
def run (Z:List Bool) (k:Nat):Nat:=((Z.drop k).takeWhile id).length
theorem anp {Z:List Bool} {k:Nat} (h:k<Z.length) (hz:Z[k]=true):run Z k=1+run Z (k+1):=by
 unfold run
 rw[List.drop_eq_getElem_cons h,List.takeWhile_cons,hz]
 simp
 omega
theorem awp {Z:List Bool} {k:Nat} (h:k<Z.length) (hz:Z[k]=false):run Z k=0:=by
 unfold run
 rw[List.drop_eq_getElem_cons h,List.takeWhile_cons,hz]
 rfl
theorem run_end {Z:List Bool} {k:Nat} (h:Z.length≤k):run Z k=0:=by
 unfold run
 rw[List.drop_eq_nil_of_le h]
 rfl
def goC (Z:List Bool):Nat→Nat→Nat→Nat→Nat×Nat
 |0,_,f,t=>(f,t)
 |fu+1,k,f,t=>if k<Z.length then(if t - f<run Z k then goC Z fu (k+run Z k+1) k (k+run Z k)else goC Z fu (k+run Z k+1) f t)else(f,t)
def Bz (Z:List Bool):Nat×Nat:=goC Z 9 0 0 0
def goR (Z:List Bool):Nat→Nat→Option Nat→Nat→Option Nat×Nat
 |0,_,f,l=>(f,l)
 |fu+1,k,f,l=>if k<Z.length then(if l<run Z k then goR Z fu (k+1) (some k) (run Z k)else goR Z fu (k+1) f l)else(f,l)
def atj (Z:List Bool):Option Nat×Nat:=goR Z 8 0 none 1
theorem Vx:∀b0 b1 b2 b3 b4 b5 b6 b7:Bool,(Bz [b0,b1,b2,b3,b4,b5,b6,b7]).1≤(Bz [b0,b1,b2,b3,b4,b5,b6,b7]).2∧(Bz [b0,b1,b2,b3,b4,b5,b6,b7]).2≤8∧(([b0,b1,b2,b3,b4,b5,b6,b7].take (Bz [b0,b1,b2,b3,b4,b5,b6,b7]).2).drop (Bz [b0,b1,b2,b3,b4,b5,b6,b7]).1).all id=true∧
  atj [b0,b1,b2,b3,b4,b5,b6,b7]=if (Bz [b0,b1,b2,b3,b4,b5,b6,b7]).2 - (Bz [b0,b1,b2,b3,b4,b5,b6,b7]).1<2 then(none,1)else(some (Bz [b0,b1,b2,b3,b4,b5,b6,b7]).1,(Bz [b0,b1,b2,b3,b4,b5,b6,b7]).2 - (Bz [b0,b1,b2,b3,b4,b5,b6,b7]).1):=by decide+kernel
def V8 (f:Nat→Nat):List Nat:=[f 0,f 1,f 2,f 3,f 4,f 5,f 6,f 7]
def zs (f:Nat→Nat):List Bool:=(V8 f).map (·==0)
theorem Wv (f:Nat→Nat):(zs f).length=8:=rfl
theorem eight (i:Nat) (h:i<8):i=0∨i=1∨i=2∨i=3∨i=4∨i=5∨i=6∨i=7:=by omega
theorem akC (f:Nat→Nat) (k:Nat) (h:k<8) (h2:k<(V8 f).length):(V8 f)[k]=f k:=by
 rcases eight k h with rfl|rfl|rfl|rfl|rfl|rfl|rfl|rfl<;>rfl
theorem aoe (f:Nat→Nat) (k:Nat) (h:k<8) (h2:k<(zs f).length):(zs f)[k]=(f k==0):=by
 rcases eight k h with rfl|rfl|rfl|rfl|rfl|rfl|rfl|rfl<;>rfl
def A8 (f:Nat→Nat):Value:=.agg #[.int .u16 (f 0:Int),.int .u16 (f 1:Int),.int .u16 (f 2:Int),.int .u16 (f 3:Int),.int .u16 (f 4:Int),.int .u16 (f 5:Int),.int .u16 (f 6:Int),.int .u16 (f 7:Int)]
theorem goC_end {Z:List Bool} {fu k f t:Nat} (h:Z.length≤k):goC Z fu k f t=(f,t):=by
 cases fu with
 |zero=>rfl
 |succ fu=>unfold goC;rw[if_neg (by omega)]
end Go.Proofs.YtgamccijegollaaGreatDoor.WU
namespace Go.Proofs.YtgamccijegollaaGreatDoor.nP
open Go.RowKit Base Dp oO wu O6 TJ O5 gU jQ WU L6
theorem akW (x:Nat):((x:Int)==0)=(x==0):=by
 cases h:(x==0)with
 | true => have:x=0:=by simpa using h
           subst this;rfl
 | false => have:x≠0:=by simpa using h
            rw[beq_eq_false_iff_ne];omega
theorem Xo {w:World} (f:Nat→Nat):Box (w.alloc (.cells #[.int .u16 (f 0:Int),.int .u16 (f 1:Int),.int .u16 (f 2:Int),.int .u16 (f 3:Int),.int .u16 (f 4:Int),.int .u16 (f 5:Int),.int .u16 (f 6:Int),.int .u16 (f 7:Int)] 304)) w.heap.size 304 (V8 f):=heap_alloc_new _ _
theorem aaL (f : Nat → Nat) (w : World) : Calls Tryz.prog 325 #[A8 f] w fun e w' => e = .returned (.tuple #[.int .i64 ((Bz (zs f)).1 : Int), .int .i64 ((Bz (zs f)).2 : Int)]) ∧ Below w.heap.size w w' := by
 obtain⟨Z,hZ⟩:∃Z,Z=zs f:=⟨_,rfl⟩
 have HZ:=hid hZ
 rw[←hZ]
 have Am:Hid (Z.length=8):=by show _=_;rw[hZ];rfl
 clear hZ
 unfold A8
 go_enter Tryz.func325,Tryz.ntmps325
 go_upto_region 1 with(fail)
 generalize hw1:w.alloc _=w1
 have HB1:Hid (Below w.heap.size w w1):=by
  show Below _ _ _
  rw[←hw1]
  exact(Below.refl _ _).alloc (Nat.le_refl _) _
 have kP:Hid (Box w1 w.heap.size 304 (V8 f)):=by
  show Box _ _ _ _
  rw[←hw1]
  exact Xo f
 clear hw1
 go_wp2
 go_loopw [2,3,4,5] (fun vf vt vk _ wr=>∃(fu k a b:Nat),vk=.int .i64 (k:Int)∧vf=.int .i64 (a:Int)∧vt=.int .i64 (b:Int)∧k≤9∧a≤b∧b≤8∧9≤fu+k∧wr=w1∧Hid (Bz Z=goC Z fu k a b)) (fun _ _ vk _ _=>9 - (intOf vk).toNat)
 case atStart=>exact⟨9,0,0,0,rfl,rfl,rfl,by omega,by omega,by omega,by omega,rfl,rfl⟩
 case round=>
  obtain⟨fu,k0,a,b,rfl,rfl,rfl,hk9,hab,hb8,hfu,rfl,HW⟩:=hrel
  by_cases hlt:k0<8
  ·obtain ⟨fu',rfl⟩:∃fu',fu=fu'+1:=⟨fu - 1,by omega⟩
   have hfu2:9≤fu'+(k0+1):=by omega
   clear hfu
   go_wp2
   go_loopw [4] (fun vk wx=>∃k:Nat,k0≤k∧k≤8∧vk=.int .i64 (k:Int)∧wx=wr∧Hid (run Z k0=(k - k0)+run Z k)) (fun vk _=>8 - (intOf vk).toNat)
   case atStart=>exact⟨k0,by omega,by omega,rfl,rfl,by show _=_;omega⟩
   case round =>
    obtain⟨k,hk0,hk8,rfl,rfl,HR⟩:=hrel
    by_cases hk:k<8
    ·have hc0:=kP.out.cell k (by show k<8;exact hk)
     rw[akC f k hk]at hc0
     have hzk:Z[k]'(by rw[Am.out];exact hk)=(f k==0):=by
      have:=aoe f k hk (by rw[Wv];exact hk)
      simp only[HZ.out]
      exact this
     have HZK:=hid hzk
     obtain⟨x,hx⟩:∃x,f k=x:=⟨_,rfl⟩
     rw[hx]at hc0 HZK
     have hk8i:(k:Int)<8:=by omega
     clear hx hzk
     by_cases hx0:x=0
     ·subst hx0
      have HR2:Hid (run Z k0=(k+1 - k0)+run Z (k+1)):=by
       show _=_
       rw[HR.out,anp (by rw[Am.out];exact hk) (by rw[HZK.out];rfl)]
       omega
      rw[show((0:Nat):Int)=0 from rfl]at hc0
      go_wp2
      go_roundw
      case rel=>exact⟨k+1,by omega,by omega,by go_num,by first|rfl|trivial,HR2.out⟩
      case measure=>simp[intOf];omega
     have hxb:((x:Int)==0)=false:=by rw[akW];simpa using hx0
     have hxn:¬(x:Int)=0:=by omega
     have HRE:Hid (run Z k0=k - k0):=by
      show _=_
      rw[HR.out,awp (by rw[Am.out];exact hk) (by rw[HZK.out];simpa using hx0)]
      rfl
     clear hx0
     by_cases hgt:b - a<k - k0
     ·have HW2:Hid (Bz Z=goC Z fu' (k+1) k0 k):=by
       show _=_
       rw[HW.out]
       conv=>lhs;unfold goC
       rw[if_pos (by rw[Am.out];exact hlt),HRE.out,if_pos hgt,show k0+(k - k0)=k by omega]
      have hgi:(b:Int) - (a:Int)<(k:Int) - (k0:Int):=by omega
      have hki:(k0:Int)≤(k:Int):=by omega
      have hai:(a:Int)≤(b:Int):=by omega
      clear hgt
      go_wp2
      go_roundw
      case rel=>exact⟨fu',k+1,k0,k,by go_num,rfl,rfl,by omega,by omega,by omega,by omega,by first|rfl|trivial,HW2.out⟩
      case measure=>simp[intOf];omega
     have HW2:Hid (Bz Z=goC Z fu' (k+1) a b):=by
      show _=_
      rw[HW.out]
      conv=>lhs;unfold goC
      rw[if_pos (by rw[Am.out];exact hlt),HRE.out,if_neg hgt,show k0+(k - k0)=k by omega]
     have hgi:¬(b:Int) - (a:Int)<(k:Int) - (k0:Int):=by omega
     clear hgt
     go_wp2
     go_roundw
     case rel=>exact⟨fu',k+1,a,b,by go_num,rfl,rfl,by omega,by omega,by omega,by omega,by first|rfl|trivial,HW2.out⟩
     case measure=>simp[intOf];omega
    obtain rfl:k=8:=by omega
    have HRE:Hid (run Z k0=8 - k0):=by show _=_;rw[HR.out,run_end (by rw[Am.out];exact Nat.le_refl _)];rfl
    by_cases hgt:b - a<8 - k0
    ·have HW2:Hid (Bz Z=goC Z fu' (8+1) k0 8):=by
      show _=_
      rw[HW.out]
      conv=>lhs;unfold goC
      rw[if_pos (by rw[Am.out];exact hlt),HRE.out,if_pos hgt,show k0+(8 - k0)=8 by omega]
     have hgi:(b:Int) - (a:Int)<8 - (k0:Int):=by omega
     have hki:(k0:Int)≤8:=by omega
     have hai:(a:Int)≤(b:Int):=by omega
     clear hgt
     go_wp2
     go_roundw
     case rel=>exact⟨fu',8+1,k0,8,by go_num,rfl,rfl,by omega,by omega,by omega,by omega,by first|rfl|trivial,HW2.out⟩
     case measure=>simp[intOf];omega
    have HW2:Hid (Bz Z=goC Z fu' (8+1) a b):=by
     show _=_
     rw[HW.out]
     conv=>lhs;unfold goC
     rw[if_pos (by rw[Am.out];exact hlt),HRE.out,if_neg hgt,show k0+(8 - k0)=8 by omega]
    have hgi:¬(b:Int) - (a:Int)<8 - (k0:Int):=by omega
    clear hgt
    go_wp2
    go_roundw
    case rel=>exact⟨fu',8+1,a,b,by go_num,rfl,rfl,by omega,by omega,by omega,by omega,by first|rfl|trivial,HW2.out⟩
    case measure=>simp[intOf];omega
  have HE:Hid (Bz Z=(a,b)):=by show _=_;rw[HW.out];exact goC_end (by rw[Am.out];omega)
  have hk8i:¬(k0:Int)<8:=by omega
  go_wp2
  go_ret2
  exact⟨by rw[HE.out];rfl,HB1.out⟩
theorem LC (f:Nat→Nat):(Bz (zs f)).1≤(Bz (zs f)).2∧(Bz (zs f)).2≤8:=by
 have:=Vx (f 0==0) (f 1==0) (f 2==0) (f 3==0) (f 4==0) (f 5==0) (f 6==0) (f 7==0)
 exact⟨this.1,this.2.1⟩
def prt (f:Nat→Nat):List UInt8:=if (Bz (zs f)).2 - (Bz (zs f)).1<2 then jx (V8 f)else jx ((V8 f).take (Bz (zs f)).1)++[58,58]++jx ((V8 f).drop (Bz (zs f)).2)
theorem Kw {w:World} {g:Nat} {t:TypeId} {L:List Nat} (h:Box w g t L):aY w (some ⟨g,0,none⟩) L.length (aT L):=
 aY.jF (kN L) (Array.getElem?_eq_some_iff.1 h).1 (fun j hj=>by
  rw[Nat.zero_add,h.cell j (by rw[kN]at hj;exact hj)]
  simp[aT])
theorem W9 {f:Nat→Nat} (h:∀i,f i<65536):∀x ∈ V8 f,x<65536:=by
 intro x hx
 simp only[V8,List.mem_cons,List.not_mem_nil,or_false]at hx
 rcases hx with rfl|rfl|rfl|rfl|rfl|rfl|rfl|rfl<;>exact h _
theorem print_any (f:Nat→Nat) (h6:∀i,f i<65536) (w:World) (hL:oI w):Calls Tryz.prog 303 #[A8 f] w fun e w'=>e=.returned (.string (strOf (prt f)))∧Below w.heap.size w w':=by
 obtain⟨P,hP⟩:∃P,P=prt f:=⟨_,rfl⟩
 rw[←hP]
 have Y8:=hid hL
 have H6:=hid (W9 h6)
 have hab:=LC f
 have hlq:=fun w=>aaL f w
 unfold prt at hP
 unfold A8 at hlq⊢
 obtain⟨a,ha⟩:∃a,a=(Bz (zs f)).1:=⟨_,rfl⟩
 obtain⟨b,hb⟩:∃b,b=(Bz (zs f)).2:=⟨_,rfl⟩
 rw[←ha,←hb]at hP hab
 have hlq2:∀w,Calls Tryz.prog 325 #[.agg #[.int .u16 (f 0:Int),.int .u16 (f 1:Int),.int .u16 (f 2:Int),.int .u16 (f 3:Int),.int .u16 (f 4:Int),.int .u16 (f 5:Int),.int .u16 (f 6:Int),.int .u16 (f 7:Int)]] w fun e w'=>e=.returned (.tuple #[.int .i64 (a:Int),.int .i64 (b:Int)])∧Below w.heap.size w w':=by
  intro w
  rw[ha,hb]
  exact hlq w
 have HLQ:=hid hlq2
 obtain⟨hab1,hab2⟩:=hab
 have HP:=hid hP
 clear hlq hlq2 ha hb hL h6 hP
 go_enter Tryz.func303,Tryz.ntmps303
 go_upto_region 1 with(fail)
 generalize hw1:w.alloc _=w1
 have HB1:Hid (Below w.heap.size w w1):=by
  show Below _ _ _
  rw[←hw1]
  exact(Below.refl _ _).alloc (Nat.le_refl _) _
 have kP:Hid (Box w1 w.heap.size 304 (V8 f)):=by
  show Box _ _ _ _
  rw[←hw1]
  exact Xo f
 clear hw1
 obtain⟨c0,c1,c2,c3,c4,c5,c6,c7⟩:=dK kP.out f rfl
 go_wp2_with fail
 refine(HLQ.out _).mono ?_
 rintro e w2 ⟨rfl,hb2⟩
 have HB2:Hid (Below w.heap.size w w2):=bel HB1.out hb2
 have gY:=hid (kP.out.below hb2)
 have hab3:(a:Int)≤(b:Int):=by omega
 have hb8i:(b:Int)≤8:=by omega
 clear hb2 c0 c1 c2 c3 c4 c5 c6 c7
 by_cases hlt:b - a<2
 ·have hlti:(b:Int) - (a:Int)<2:=by omega
  have HE:Hid (P=jx (V8 f)):=by show _=_;rw[HP.out,if_pos hlt]
  clear hlt
  go_wp2_with fail
  refine(QE _ 8 8 (V8 f) _ (Kw gY.out) (Nat.le_refl _) H6.out (Y8.out.below HB2.out)).mono ?_
  rintro e w3 ⟨rfl,hb3⟩
  go_wp2
  go_ret
  exact⟨by rw[HE.out];rfl,bel HB2.out hb3⟩
 have hlti:¬(b:Int) - (a:Int)<2:=by omega
 have ha8:a≤8:=by omega
 obtain⟨P1,hP1⟩:∃P1,P1=strOf (jx ((V8 f).take a)):=⟨_,rfl⟩
 obtain⟨P2,hP2⟩:∃P2,P2=strOf (jx ((V8 f).take a)++[58,58]):=⟨_,rfl⟩
 obtain⟨P3,hP3⟩:∃P3,P3=strOf (jx ((V8 f).drop b)):=⟨_,rfl⟩
 obtain⟨P4,hP4⟩:∃P4,P4=strOf P:=⟨_,rfl⟩
 have hl1:=KQ ((V8 f).take a)
 have hl2:=KQ ((V8 f).drop b)
 rw[List.length_take]at hl1
 rw[List.length_drop]at hl2
 have h8l:(V8 f).length=8:=rfl
 rw[h8l]at hl1 hl2
 have a1:∀w:World,(Op.stringOp .add P1 ⟨#[58,58]⟩).run Tryz.prog w=.ok (.string P2) w:=fun w=>by
  rw[hP1,hP2]
  exact aci _ [58,58] w (by simp;omega)
 have a2:∀w:World,(Op.stringOp .add P2 P3).run Tryz.prog w=.ok (.string P4) w:=fun w=>by
  rw[hP2,hP3,hP4,HP.out,if_neg hlt]
  exact aci _ _ w (by rw[List.length_append];simp;omega)
 have yc:=hid hP1
 have Zb:=hid hP3
 have HE:Hid (P4=strOf P):=hP4
 have HT:Hid (aY w2 (some ⟨w.heap.size,0,none⟩) a (aT ((V8 f).take a))):=by
  have:=(Kw gY.out).upto a (by show a≤8;omega)
  have e:aT ((V8 f).take a)=(aT (V8 f)).take a:=by simp[aT]
  show aY _ _ _ _
  rw[e]
  exact this
 have HD:Hid (aY w2 (some ⟨w.heap.size,b,none⟩) (8 - b) (aT ((V8 f).drop b))):=by
  have:=(Kw gY.out).cut b (by show b≤8;omega)
  have e:aT ((V8 f).drop b)=(aT (V8 f)).drop b:=by simp[aT]
  show aY _ _ _ _
  rw[e]
  rw[show(V8 f).length=8 from rfl,Nat.zero_add]at this
  exact this
 have MS:Hid (∀x ∈ (V8 f).take a,x<65536):=fun x hx=>H6.out x (List.mem_of_mem_take hx)
 have cu:Hid (∀x ∈ (V8 f).drop b,x<65536):=fun x hx=>H6.out x (List.mem_of_mem_drop hx)
 clear hlt hP1 hP2 hP3 hP4 hl1 hl2 h8l
 go_wp2_with fail
 refine aV (by kernel_rfl) [is (.int .i64 (a:Int)),is (.slice (some ⟨w.heap.size,0,none⟩) a 8),is (.string P1),is (.string P2),is (.int .i64 (b:Int)),row (8 - b) (aT ((V8 f).drop b)),is (.string P3),is (.string P4),is (.string P4)] [[],[0],[1],[2],[],[4],[5],[3,6],[7]] (by kernel_rfl) ?_ ?_
 ·refine ⟨?_,?_,?_,?_,?_,?_,?_,?_,?_,trivial⟩
  all_goals(intro t wq hbq hh K hK;simp only[filled,upd,Have,is,any,row,pick,Act.put,List.setIfInBounds_toArray,List.set_cons_zero,List.set_cons_succ,Nat.reduceAdd,Nat.reduceEqDiff,reduceIte,List.tail_cons,List.headD_cons]at hh hK⊢)
  ·clear hh
   go_simp
   exact hK _ _ (Below.refl _ _) rfl
  ·have e0:=hh.1
   clear hh
   simp only[e0]at hK⊢
   have ha1:(a:Int)≤8:=by omega
   have ha0:(0:Int)≤(a:Int):=by omega
   go_simp
   exact hK _ _ (Below.refl _ _) rfl
  ·have e1:=hh.1
   clear hh
   simp only[e1]at hK⊢
   go_simp
   refine(QE _ a 8 ((V8 f).take a) _ (HT.out.below hbq) (by omega) MS.out (Y8.out.below (HB2.out.trans (hbq.mono HB2.out.size)))).mono ?_
   rintro e w5 ⟨rfl,hb5⟩
   rw[←yc.out]
   exact hK _ _ hb5 rfl
  iterate 2
   ·try simp only[hh]at hK⊢
    clear hh
    go_simp
    exact hK _ _ (Below.refl _ _) rfl
  ·have e4:=hh.1
   clear hh
   simp only[e4]at hK⊢
   have hb1:(b:Int)≤8:=by omega
   have hb0:(0:Int)≤(b:Int):=by omega
   by_cases hb8:b=8
   ·have hz:8 - b=0:=by omega
    simp only[hb8]at hK
    go_simp
    exact hK _ _ (Below.refl _ _) ⟨_,_,rfl,by omega,by unfold maxLen;omega,by rw[List.drop_eq_nil_of_le (by show 8≤8;omega)];exact aY.nil _⟩
   have hz:¬8 - b=0:=by omega
   have hz2:¬8=b:=by omega
   go_simp
   exact hK _ _ (Below.refl _ _) ⟨_,_,rfl,Nat.le_refl _,by unfold maxLen;omega,HD.out.below hbq⟩
  ·have e5:=hh.1
   clear hh
   obtain⟨A5,c5,e5,hc5,hm5,hr5⟩:=e5
   simp only[e5]at hK⊢
   go_simp
   refine(QE A5 (8 - b) c5 ((V8 f).drop b) _ hr5 (by omega) cu.out (Y8.out.below (HB2.out.trans (hbq.mono HB2.out.size)))).mono ?_
   rintro e w5 ⟨rfl,hb5⟩
   rw[←Zb.out]
   exact hK _ _ hb5 rfl
  ·have e3:=hh.1
   have e6:=hh.2.1
   clear hh
   simp only[e3,e6]at hK⊢
   go_simp
   first|exact hK _ _ (Below.refl _ _) rfl|exact hK _ _ (Below.refl _ _) trivial
  try simp only[hh]at hK⊢
  clear hh
  go_simp
  exact hK _ _ (Below.refl _ _) rfl
 intro t wq hbq hh
 have f8:=aB hh 8 (by decide)
 simp only[pick]at f8
 replace f8:t 8=(.string P4):=f8
 clear hh
 simp only[filled,upd,Have,is,any,row,pick,Act.put,List.setIfInBounds_toArray,List.set_cons_zero,List.set_cons_succ,Nat.reduceAdd,Nat.reduceEqDiff,reduceIte]
 simp only[f8]
 go_wp2
 go_ret
 exact⟨by rw[←HE.out];rfl,HB2.out.trans (hbq.mono HB2.out.size)⟩
end Go.Proofs.YtgamccijegollaaGreatDoor.nP
namespace Go.Proofs.YtgamccijegollaaGreatDoor.cO
open Go.RowKit Base
def low (c:UInt8):UInt8:=if 65≤c.toNat∧c.toNat≤90 then c+32 else c
def lower (l:List UInt8):List UInt8:=l.map low
def wU (l:List UInt8) (k:Nat):List UInt8:=(l.take k).map low++l.drop k
theorem pz (l:List UInt8) (k:Nat):(wU l k).length=l.length:=by simp[wU];omega
theorem Vy (l:List UInt8) (k:Nat) (h:k<l.length):(wU l k)[k]'(by rw[pz];exact h)=l[k]:=by
 have:k≤l.length:=by omega
 simp[wU,List.getElem_append,this,Nat.min_eq_left this]
theorem QK (l:List UInt8) (k:Nat) (h:k<l.length):wU l (k+1)=(wU l k).set k (low l[k]):=by
 unfold wU
 apply List.ext_getElem
 ·simp;omega
 intro i h1 h2
 simp only[List.getElem_append,List.getElem_set,List.length_map,List.length_take,List.getElem_map,List.getElem_take,List.getElem_drop]
 by_cases a:i<k
 ·rw[dif_pos (by omega),if_neg (by omega),dif_pos (by omega)]
 by_cases b:i=k
 ·subst b
  rw[dif_pos (by omega),if_pos rfl]
 rw[dif_neg (by omega),if_neg (by omega),dif_neg (by omega)]
 congr 1
 omega
theorem ahW (l:List UInt8):wU l l.length=lower l:=by simp[wU,lower]
theorem adV (l:List UInt8):wU l 0=l:=by simp[wU]
theorem afP (c:UInt8) (h1:65≤(c.toNat:Int)) (h2:(c.toNat:Int)≤90):((low c).toNat:Int)=(c.toNat:Int)+32:=by
 unfold low;rw[if_pos (by omega)];simp[UInt8.toNat_add];omega
theorem amq (c:UInt8) (h:¬(65≤(c.toNat:Int)∧(c.toNat:Int)≤90)):low c=c:=by
 unfold low;rw[if_neg (by omega)]
theorem set_self {l:List UInt8} {k:Nat} (h:k<l.length) (c:UInt8) (e:l[k]=c):l.set k c=l:=by subst e;simp
theorem gI (s:ByteArray) (w:World) (hs:s.size≤maxLen):Calls Tryz.prog 113 #[.string s] w fun e w'=>e=.returned (.string (strOf (lower s.data.toList)))∧Below w.heap.size w w':=by
 unfold maxLen at hs
 have hcv:=fun(w:World) s=>run_bytes_of_string (P:=Tryz.prog) w 9 45 5 s Tryz.underlying9 Tryz.underlying45 Tryz.underlying5
 have Gh:Hid (s.size≤grownCap w s.size 0 5):=grownCap_ge w s.size 0 5
 go_enter Tryz.func113,Tryz.ntmps113
 go_wp2
 clear hcv
 go_loopw [4,5,10] (fun _ _ i wr=>∃k:Nat,k≤s.size∧i=.int .i64 k∧oK wr w.heap.size 5 (wU s.data.toList k)∧Below w.heap.size w wr) (fun _ _ i _=>s.size - (intOf i).toNat)
 case atStart=>exact⟨0,Nat.zero_le _,rfl,(by rw[adV];exact oK.made w s 5 _ Gh.out),((Below.refl _ _).alloc (Nat.le_refl _) _).drew⟩
 case round =>
  obtain⟨k,hk,rfl,hrow,hbel⟩:=hrel
  by_cases hlt:k<s.size
  ·obtain ⟨c,hcs⟩:∃c:UInt8,c=s.data.toList[k]:=⟨_,rfl⟩
   have hc:wr.cell? ⟨w.heap.size,k,none⟩=some (.int .u8 (c.toNat:Int)):=by
    rw[hcs,hrow.cell k (by rw[pz];exact hlt)]
    simp only[Vy s.data.toList k hlt]
   have hf:=hrow.frozen k (by rw[pz];exact hlt)
   have HC:=hid hcs
   clear hcs
   have HR:=hid hrow
   clear hrow
   by_cases hA:65≤(c.toNat:Int)∧(c.toNat:Int)≤90
   ·obtain⟨hA1,hA2⟩:=hA
    go_wp2
    go_roundw
    case rel=>exact⟨k+1,by omega,by go_num,by
     have:=HR.out.set k (low c)
     rw[afP c hA1 hA2]at this
     rw[QK s.data.toList k hlt,←HC.out]
     exact this,hbel.setCell (Nat.le_refl _) _⟩
    case measure=>simp[intOf];omega
   have hlow:=amq c hA
   have HL:=hid hlow
   clear hlow
   go_wp2
   all_goals
    go_roundw
    case rel=>exact⟨k+1,by omega,by go_num,by
     rw[QK s.data.toList k hlt,←HC.out,HL.out,set_self (by rw[pz];exact hlt) c (by rw[Vy _ _ hlt,HC.out])]
     exact HR.out,hbel⟩
    case measure=>simp[intOf];omega
  obtain rfl:k=s.size:=by omega
  have hback:=run_convert_bytes_back (P:=Tryz.prog) wr 45 9 5 ⟨w.heap.size,0,none⟩ (grownCap w s.size 0 5) (wU s.data.toList s.size) Tryz.underlying45 Tryz.underlying5 Tryz.underlying9 (fun j hj=>by
   have:=hrow.cell j hj
   rw[Xd];exact this)
  rw[pz,show s.data.toList.length=s.size from Array.length_toList,show wU s.data.toList s.size=lower s.data.toList from ahW _]at hback
  go_wp2
  go_ret
  exact⟨rfl,hbel⟩
end Go.Proofs.YtgamccijegollaaGreatDoor.cO
namespace Go.Proofs.YtgamccijegollaaGreatDoor.SixE
open Go.RowKit Base Dp acj dI oO wu O6 TJ O5
theorem Ey (s:ByteArray) (k:Nat):(s.extract k s.size).data.toList=s.data.toList.drop k:=by
 have hl:s.data.toList.length=s.size:=Array.length_toList
 rw[ByteArray.data_extract]
 simp only[Array.toList_extract,List.extract_eq_take_drop]
 rw[List.take_of_length_le (by rw[List.length_drop];omega)]
end Go.Proofs.YtgamccijegollaaGreatDoor.SixE
namespace Go.Proofs.YtgamccijegollaaGreatDoor.SixF
open Go.RowKit Base Dp acj dI oO wu O6 TJ O5 gU SixE
theorem Rl {t:List UInt8} {a b:Nat} (h:lN t=some [a,b]):a<65536∧b<65536:=by
 have hall:∀(ps:List (List UInt8)) (l:List Nat),smalls ps=some l→∀x ∈ l,x≤255:=by
  intro ps
  induction ps with
  |nil=>intro l h;injection h with h;subst h;intro x hx;simp at hx
  |cons p r ih=>
   intro l h
   rw[smalls]at h
   split at h
   ·rename_i n y h1 h2
    injection h with h
    subst h
    intro x hx
    rcases List.mem_cons.1 hx with rfl|hx
    ·exact abB h1
    exact ih y h2 x hx
   cases h
 unfold lN at h
 cases e:smalls (bZ t)with
 |none=>rw[e]at h;cases h
 |some l=>
  rw[e]at h
  replace h:two l=some [a,b]:=h
  unfold two at h
  split at h
  ·rename_i x1 x2 x3 x4
   injection h with h
   injection h with h1 h
   injection h with h2 _
   have y1:=hall _ _ e x1 (by simp)
   have y2:=hall _ _ e x2 (by simp)
   have y3:=hall _ _ e x3 (by simp)
   have y4:=hall _ _ e x4 (by simp)
   omega
  cases h
end Go.Proofs.YtgamccijegollaaGreatDoor.SixF
namespace Go.Proofs.YtgamccijegollaaGreatDoor.akq
open Go.RowKit Base oO wu O6 TJ O5 gU jQ WU nP
theorem six_len {s:List UInt8} {V:List Nat} (h:six s=some V):V.length=8:=by
 unfold six at h
 split at h
 ·unfold wu.eight at h
  split at h
  ·split at h
   ·rename_i hlt
    injection h with h
    subst h
    simpa using hlt
   cases h
  cases h
 unfold both at h
 split at h
 ·split at h
  ·injection h with h
   subst h
   rename_i hlt
   unfold fill
   simp at hlt⊢
   omega
  cases h
 cases h
end Go.Proofs.YtgamccijegollaaGreatDoor.akq
namespace Go.Proofs.YtgamccijegollaaGreatDoor.Zx
open Go.RowKit Base Dp dI oO
theorem take_snoc {α:Type} (l:List α) (k:Nat) (h:k<l.length):l.take (k+1)=l.take k++[l[k]]:=List.take_succ_eq_append_getElem h
theorem Iu (b:Nat) (L:List UInt8) (h:eu b L=true) (k:Nat) (hk:k<L.length):lH b L[k]=true:=List.all_eq_true.1 h _ (List.getElem_mem _)
theorem tq (b:Nat) (c:UInt8) (h:lH b c=true):hex c.toNat=(dv c:Int):=by
 unfold lH at h
 rw[Bool.and_eq_true]at h
 have:=of_decide_eq_true h.1
 unfold dv
 omega
theorem qA (s:ByteArray) (b:Nat) (w:World) (hs:s.size≤1073741824):Calls Tryz.prog 329 #[.string s,.int .i64 (b:Int)] w fun e w'=>e=.returned (.bool (eu b s.data.toList))∧w=w':=by
 have hl:s.data.toList.length=s.size:=Array.length_toList
 have HL:=hid hl
 clear hl
 go_enter Tryz.func329,Tryz.ntmps329
 go_wp2
 go_loopw [5,6] (fun vk _ wr=>∃k:Nat,k≤s.size∧vk=.int .i64 (k:Int)∧wr=w∧Hid (eu b (s.data.toList.take k)=true)) (fun vk _ _=>s.size - (intOf vk).toNat)
 case atStart=>exact⟨0,Nat.zero_le _,rfl,rfl,rfl⟩
 case round =>
  obtain⟨k,hk,rfl,rfl,HT⟩:=hrel
  by_cases hlt:k<s.size
  ·obtain ⟨c,hc⟩:∃c,s[k]=c:=⟨_,rfl⟩
   have hkl:k<s.data.toList.length:=by rw[HL.out];exact hlt
   have hcl:s.data.toList[k]=c:=hc
   have HS:Hid (s.data.toList.take (k+1)=s.data.toList.take k++[c]):=by rw[←hcl];exact take_snoc _ k hkl
   have HM:Hid (c ∈ s.data.toList):=by show _ ∈ _;rw[←hcl];exact List.getElem_mem _
   have h0:0≤(c.toNat:Int):=by omega
   have h1:(c.toNat:Int)≤255:=by have:=c.toNat_lt;omega
   have hD:lH b c=(decide (0≤hex c.toNat)&&decide (hex c.toNat<b)):=rfl
   have HD:=hid hD
   obtain⟨x,hx⟩:∃x,x=hex c.toNat:=⟨_,rfl⟩
   rw[←hx]at HD
   have HX:=hid hx
   clear hcl hkl hD hx
   by_cases hx0:0≤x
   ·by_cases hxb:x<b
    ·have HOK:Hid (lH b c=true):=by show _=_;rw[HD.out,decide_eq_true hx0,decide_eq_true hxb];rfl
     go_wp2_with fail
     refine(dI.dV _ _ h0 h1).mono ?_
     rintro e w2 ⟨rfl,hw2⟩
     subst hw2
     rw[←HX.out]
     go_wp2
     go_roundw
     case rel=>exact⟨k+1,by omega,by go_num,by first|rfl|trivial,by show _=_;rw[HS.out];unfold eu at HT⊢;rw[List.all_append,HT.out,List.all_cons,HOK.out];rfl⟩
     case measure=>simp[intOf];omega
    have HE:Hid (eu b s.data.toList=false):=by
     show _=_
     refine List.all_eq_false.2 ⟨c,HM.out,?_⟩
     rw[HD.out,decide_eq_false hxb];simp
    go_wp2_with fail
    refine(dI.dV _ _ h0 h1).mono ?_
    rintro e w2 ⟨rfl,hw2⟩
    subst hw2
    rw[←HX.out]
    go_wp2
    go_ret
    exact⟨ak HE.out.symm,rfl⟩
   have HE:Hid (eu b s.data.toList=false):=by
    show _=_
    refine List.all_eq_false.2 ⟨c,HM.out,?_⟩
    rw[HD.out,decide_eq_false hx0];simp
   go_wp2_with fail
   refine(dI.dV _ _ h0 h1).mono ?_
   rintro e w2 ⟨rfl,hw2⟩
   subst hw2
   rw[←HX.out]
   go_wp2
   go_ret
   exact⟨ak HE.out.symm,rfl⟩
  obtain rfl:k=s.size:=by omega
  have HE:Hid (eu b s.data.toList=true):=by
   show _=_
   have h:=HT.out
   rwa[List.take_of_length_le (by rw[HL.out];exact Nat.le_refl _)]at h
  go_wp2
  go_ret
  exact⟨ak HE.out.symm,rfl⟩
theorem ext2 (s:ByteArray) (k:Nat) (h:k≤s.size):(s.extract k s.size).data.toList=s.data.toList.drop k:=by rw[L6.ext_drop s k s.size rfl];rfl
theorem agn (a x:UInt8) (r:List UInt8) (ha:a=48) (hx:x=120∨x=88):Ht (a::x::r)=(16,r):=by unfold Ht;simp only;rw[if_pos ha,if_pos hx]
theorem agm (a x:UInt8) (r:List UInt8) (ha:a=48) (hx:¬(x=120∨x=88)):Ht (a::x::r)=(8,x::r):=by unfold Ht;simp only;rw[if_pos ha,if_neg hx]
theorem Yv (a x:UInt8) (r:List UInt8) (ha:a≠48):Ht (a::x::r)=(10,a::x::r):=by unfold Ht;simp only;rw[if_neg ha]
theorem pre2 (a x p q:UInt8) (r:List UInt8):Lib.hasPrefix (a::x::r) [p,q]=(decide (a=p)&&decide (x=q)):=by
 unfold Lib.hasPrefix
 simp[List.isPrefixOf,Bool.beq_eq_decide_eq,eq_comm]
theorem pre1 (a p q:UInt8):Lib.hasPrefix [a] [p,q]=false:=by simp[Lib.hasPrefix,List.isPrefixOf]
theorem yO {c d:UInt8} (h:c≠d):((c.toNat:Int)==(d.toNat:Int))=false:=by
 have:c.toNat≠d.toNat:=fun e=>h (UInt8.toNat_inj.1 e)
 simp;omega
def CS (L:List UInt8):Value:=match num L with
 |some v=>.tuple #[.int .u64 (sat v),.bool true]
 |none=>.tuple #[.int .u64 0,.bool false]
theorem Ja (L:List UInt8) (hne:L≠[]) (b:Nat) (r:List UInt8) (h:Ht L=(b,r)) (hd:eu b r=true):CS L=.tuple #[.int .u64 (sat (val b r)),.bool true]:=by
 unfold CS num;rw[if_neg hne,h];simp only;rw[if_pos hd]
theorem Oh (L:List UInt8) (hne:L≠[]) (b:Nat) (r:List UInt8) (h:Ht L=(b,r)) (hd:eu b r=false):CS L=.tuple #[.int .u64 0,.bool false]:=by
 unfold CS num;rw[if_neg hne,h];simp only;rw[hd,if_neg (by decide)]
theorem bf (s:ByteArray) (w:World) (hs:s.size≤1073741824):Calls Tryz.prog 328 #[.string s] w fun e w'=>e=.returned (CS s.data.toList)∧w=w':=by
 have hsz:s.data.toList.length=s.size:=Array.length_toList
 match hL:s.data.toList with
 |[]=>
  have h0:s.size=0:=by rw[←hsz,hL];rfl
  have hem:(s.toList==[])=true:=by rw[Lib.toList_data,hL];rfl
  have TR:s.toList=[]:=by rw[Lib.toList_data,hL]
  clear hL hsz
  go_enter Tryz.func328,Tryz.ntmps328
  go_wp2
  go_ret2
  exact⟨rfl,rfl⟩
 | [a] =>
  have h1:s.size=1:=by rw[←hsz,hL];rfl
  have hzs:s.size≤1073741824:=hs
  have hne:s.toList≠[]:=by rw[Lib.toList_data,hL];simp
  have hem:(s.toList==[])=false:=by rw[Lib.toList_data,hL];rfl
  have TR:s.toList.isEmpty=false:=by rw[Lib.toList_data,hL];rfl
  have NW:=hid hL
  have Fj:Hid (eu 10 s.data.toList=true→CS s.data.toList=.tuple #[.int .u64 (sat (val 10 s.data.toList)),.bool true]):=fun h=>Ja _ (by rw[hL];simp) 10 _ (by rw[hL];rfl) h
  have qc:Hid (eu 10 s.data.toList=false→CS s.data.toList=.tuple #[.int .u64 0,.bool false]):=fun h=>Oh _ (by rw[hL];simp) 10 _ (by rw[hL];rfl) h
  have g0:∀h,s[0]'h=a:=fun h=>by
   have:s.data.toList[0]?=some a:=by rw[hL];rfl
   have:=List.getElem?_eq_some_iff.1 this
   obtain⟨_,e⟩:=this
   exact e
  have HP:Hid (∀q,Lib.hasPrefix s.data.toList [48,q]=false):=by intro q;rw[NW.out,pre1]
  rw[←hL]
  clear hL hsz hne
  cases ha2:((a.toNat:Int)==48)
  all_goals
   go_enter Tryz.func328,Tryz.ntmps328
   go_wp2_with fail
   refine(Tryz.strings_HasPrefix s ⟨#[48,120]⟩ _).mono ?_
   rintro e w2 ⟨rfl,hw2⟩
   subst hw2
   rw[show(⟨#[48,120]⟩:ByteArray).data.toList=[48,120]from rfl,HP.out]
   go_wp2_with fail
   refine(Tryz.strings_HasPrefix s ⟨#[48,88]⟩ _).mono ?_
   rintro e w2 ⟨rfl,hw2⟩
   subst hw2
   rw[show(⟨#[48,88]⟩:ByteArray).data.toList=[48,88]from rfl,HP.out]
   go_wp2_with fail
   refine(qA s 10 _ hzs).mono ?_
   rintro e w2 ⟨rfl,hw2⟩
   subst hw2
   cases hd:eu 10 s.data.toList with
   |false=>
    have HE:=hid (qc.out hd)
    clear hd
    go_wp2
    go_ret2
    exact⟨by rw[HE.out];rfl,rfl⟩
   | true=>
    have HE:=hid (Fj.out hd)
    have HD:=hid hd
    have HL:Hid (s.data.toList.length=s.size):=Array.length_toList
    clear hd
    go_wp2
    go_loopw [6,7] (fun vn vk wr=>∃k:Nat,k≤s.size∧vk=.int .i64 (k:Int)∧wr=w2∧vn=.int .u64 (sat (val 10 (s.data.toList.take k)))) (fun _ vk _=>s.size - (intOf vk).toNat)
    case atStart=>exact⟨0,Nat.zero_le _,rfl,rfl,rfl⟩
    case round=>
     obtain⟨k,hk,rfl,rfl,rfl⟩:=hrel
     obtain⟨v,hv⟩:∃v,v=val 10 (s.data.toList.take k):=⟨_,rfl⟩
     obtain⟨n,hn⟩:∃n,n=sat v:=⟨_,rfl⟩
     have hn2:n≤4294967296:=by rw[hn];unfold sat;omega
     rw[←hv,←hn]
     have HV:=hid hv
     have HN:=hid hn
     clear hv hn
     by_cases hlt:k<s.size
     ·obtain⟨c,hc⟩:∃c,s[k]=c:=⟨_,rfl⟩
      have hkl:k<s.data.toList.length:=by rw[HL.out];exact hlt
      have hcl:s.data.toList[k]=c:=hc
      have HS:Hid (s.data.toList.take (k+1)=s.data.toList.take k++[c]):=by rw[←hcl];exact take_snoc _ k hkl
      have hD:lH 10 c=true:=by rw[←hcl];exact Iu _ _ HD.out k hkl
      have HX:=hid (tq 10 c hD)
      obtain⟨d,hd⟩:∃d,d=dv c:=⟨_,rfl⟩
      have alU:d≤15:=by rw[hd];exact U8 c
      rw[←hd]at HX
      have Td:=hid hd
      have h0:0≤(c.toNat:Int):=by omega
      have h1:(c.toNat:Int)≤255:=by have:=c.toNat_lt;omega
      have xE:Hid (sat (val 10 (s.data.toList.take (k+1)))=min (n*10+d) 4294967296):=by
       show _=_
       rw[HS.out,jh,←HV.out,←Td.out,HN.out,Ea v 10 d (by omega)]
      clear hcl hkl hD hd
      have HZ:Hid (Value.int .u64 (min ((n:Int)*10+(d:Int)) 4294967296)=.int .u64 (sat (val 10 (s.data.toList.take (k+1))))):=by
       refine int_eq ?_
       rw[xE.out];omega
      go_wp2_with fail
      refine(dI.dV _ _ h0 h1).mono ?_
      rintro e w2 ⟨rfl,hw2⟩
      subst hw2
      rw[HX.out]
      go_wp2
      go_roundw
      case rel=>exact⟨k+1,by omega,by go_num,by first|rfl|trivial,HZ.out⟩
      case measure=>simp[intOf];omega
     obtain rfl:k=s.size:=by omega
     have HZ:Hid (n=sat (val 10 s.data.toList)):=by
      show _=_
      rw[HN.out,HV.out,List.take_of_length_le (by rw[HL.out];exact Nat.le_refl _)]
     go_wp2
     go_ret2
     exact⟨by rw[HE.out,HZ.out];rfl,rfl⟩
 | a :: x :: r =>
  have h1:2≤s.size:=by rw[←hsz,hL];simp
  have h1i:(2:Int)≤(s.size:Int):=by omega
  have h0i:(0:Int)<(s.size:Int):=by omega
  have h1j:(1:Int)<(s.size:Int):=by omega
  have hem:(s.toList==[])=false:=by rw[Lib.toList_data,hL];rfl
  have TR:s.toList.isEmpty=false:=by rw[Lib.toList_data,hL];rfl
  have g0:∀h,s[0]'h=a:=fun h=>by
   have:s.data.toList[0]?=some a:=by rw[hL];rfl
   have:=List.getElem?_eq_some_iff.1 this
   obtain⟨_,e⟩:=this
   exact e
  have NW:=hid hL
  have Ac:s.data.toList≠[]:=by rw[hL];simp
  rw[←hL]
  by_cases ha:a=48
  ·by_cases hx:x=120∨x=88
   ·obtain ⟨Z,hZ⟩:∃Z,Z=s.extract 2 s.size:=⟨_,rfl⟩
    have Tn:Z.data.toList=r:=by rw[hZ,ext2 _ _ h1,hL];rfl
    have hZs:s.extract 2 s.size=Z:=hZ.symm
    have hzs:Z.size≤1073741824:=by have:Z.data.toList.length=Z.size:=Array.length_toList;rw[Tn]at this;rw[hL]at hsz;simp at hsz;omega
    have Fj:Hid (eu 16 Z.data.toList=true→CS s.data.toList=.tuple #[.int .u64 (sat (val 16 Z.data.toList)),.bool true]):=fun h=>Ja _ Ac 16 _ (by rw[hL,agn _ _ _ ha hx,Tn]) h
    have qc:Hid (eu 16 Z.data.toList=false→CS s.data.toList=.tuple #[.int .u64 0,.bool false]):=fun h=>Oh _ Ac 16 _ (by rw[hL,agn _ _ _ ha hx,Tn]) h
    clear hL hsz Tn hZ Ac
    rcases hx with hx|hx
    ·have HP : Hid (Lib.hasPrefix s.data.toList [48, 120] = true) := by show _ = _; rw [NW.out, pre2, ha, hx]; rfl
     clear ha hx g0
     go_enter Tryz.func328,Tryz.ntmps328
     go_wp2_with fail
     refine(Tryz.strings_HasPrefix s ⟨#[48,120]⟩ _).mono ?_
     rintro e w2 ⟨rfl,hw2⟩
     subst hw2
     rw[show(⟨#[48,120]⟩:ByteArray).data.toList=[48,120]from rfl,HP.out]
     go_wp2_with fail
     refine(qA Z 16 _ hzs).mono ?_
     rintro e w2 ⟨rfl,hw2⟩
     subst hw2
     cases hd:eu 16 Z.data.toList with
     |false=>
      have HE:=hid (qc.out hd)
      clear hd
      go_wp2
      go_ret2
      exact⟨by rw[HE.out];rfl,rfl⟩
     | true=>
      have HE:=hid (Fj.out hd)
      have HD:=hid hd
      have HL:Hid (Z.data.toList.length=Z.size):=Array.length_toList
      clear hd
      go_wp2
      go_loopw [6,7] (fun vn vk wr=>∃k:Nat,k≤Z.size∧vk=.int .i64 (k:Int)∧wr=w2∧vn=.int .u64 (sat (val 16 (Z.data.toList.take k)))) (fun _ vk _=>Z.size - (intOf vk).toNat)
      case atStart=>exact⟨0,Nat.zero_le _,rfl,rfl,rfl⟩
      case round=>
       obtain⟨k,hk,rfl,rfl,rfl⟩:=hrel
       obtain⟨v,hv⟩:∃v,v=val 16 (Z.data.toList.take k):=⟨_,rfl⟩
       obtain⟨n,hn⟩:∃n,n=sat v:=⟨_,rfl⟩
       have hn2:n≤4294967296:=by rw[hn];unfold sat;omega
       rw[←hv,←hn]
       have HV:=hid hv
       have HN:=hid hn
       clear hv hn
       by_cases hlt:k<Z.size
       ·obtain⟨c,hc⟩:∃c,Z[k]=c:=⟨_,rfl⟩
        have hkl:k<Z.data.toList.length:=by rw[HL.out];exact hlt
        have hcl:Z.data.toList[k]=c:=hc
        have HS:Hid (Z.data.toList.take (k+1)=Z.data.toList.take k++[c]):=by rw[←hcl];exact take_snoc _ k hkl
        have hD:lH 16 c=true:=by rw[←hcl];exact Iu _ _ HD.out k hkl
        have HX:=hid (tq 16 c hD)
        obtain⟨d,hd⟩:∃d,d=dv c:=⟨_,rfl⟩
        have alU:d≤15:=by rw[hd];exact U8 c
        rw[←hd]at HX
        have Td:=hid hd
        have h0:0≤(c.toNat:Int):=by omega
        have h1:(c.toNat:Int)≤255:=by have:=c.toNat_lt;omega
        have xE:Hid (sat (val 16 (Z.data.toList.take (k+1)))=min (n*16+d) 4294967296):=by
         show _=_
         rw[HS.out,jh,←HV.out,←Td.out,HN.out,Ea v 16 d (by omega)]
        clear hcl hkl hD hd
        have HZ:Hid (Value.int .u64 (min ((n:Int)*16+(d:Int)) 4294967296)=.int .u64 (sat (val 16 (Z.data.toList.take (k+1))))):=by
         refine int_eq ?_
         rw[xE.out];omega
        go_wp2_with fail
        refine(dI.dV _ _ h0 h1).mono ?_
        rintro e w2 ⟨rfl,hw2⟩
        subst hw2
        rw[HX.out]
        go_wp2
        go_roundw
        case rel=>exact⟨k+1,by omega,by go_num,by first|rfl|trivial,HZ.out⟩
        case measure=>simp[intOf];omega
       obtain rfl:k=Z.size:=by omega
       have HZ:Hid (n=sat (val 16 Z.data.toList)):=by
        show _=_
        rw[HN.out,HV.out,List.take_of_length_le (by rw[HL.out];exact Nat.le_refl _)]
       go_wp2
       go_ret2
       exact⟨by rw[HE.out,HZ.out];rfl,rfl⟩
    have HP:Hid (Lib.hasPrefix s.data.toList [48,120]=false):=by show _=_;rw[NW.out,pre2,ha,hx];rfl
    have HP2:Hid (Lib.hasPrefix s.data.toList [48,88]=true):=by show _=_;rw[NW.out,pre2,ha,hx];rfl
    clear ha hx g0
    go_enter Tryz.func328,Tryz.ntmps328
    go_wp2_with fail
    refine(Tryz.strings_HasPrefix s ⟨#[48,120]⟩ _).mono ?_
    rintro e w2 ⟨rfl,hw2⟩
    subst hw2
    rw[show(⟨#[48,120]⟩:ByteArray).data.toList=[48,120]from rfl,HP.out]
    go_wp2_with fail
    refine(Tryz.strings_HasPrefix s ⟨#[48,88]⟩ _).mono ?_
    rintro e w2 ⟨rfl,hw2⟩
    subst hw2
    rw[show(⟨#[48,88]⟩:ByteArray).data.toList=[48,88]from rfl,HP2.out]
    go_wp2_with fail
    refine(qA Z 16 _ hzs).mono ?_
    rintro e w2 ⟨rfl,hw2⟩
    subst hw2
    cases hd:eu 16 Z.data.toList with
    |false=>
     have HE:=hid (qc.out hd)
     clear hd
     go_wp2
     go_ret2
     exact⟨by rw[HE.out];rfl,rfl⟩
    | true=>
     have HE:=hid (Fj.out hd)
     have HD:=hid hd
     have HL:Hid (Z.data.toList.length=Z.size):=Array.length_toList
     clear hd
     go_wp2
     go_loopw [6,7] (fun vn vk wr=>∃k:Nat,k≤Z.size∧vk=.int .i64 (k:Int)∧wr=w2∧vn=.int .u64 (sat (val 16 (Z.data.toList.take k)))) (fun _ vk _=>Z.size - (intOf vk).toNat)
     case atStart=>exact⟨0,Nat.zero_le _,rfl,rfl,rfl⟩
     case round=>
      obtain⟨k,hk,rfl,rfl,rfl⟩:=hrel
      obtain⟨v,hv⟩:∃v,v=val 16 (Z.data.toList.take k):=⟨_,rfl⟩
      obtain⟨n,hn⟩:∃n,n=sat v:=⟨_,rfl⟩
      have hn2:n≤4294967296:=by rw[hn];unfold sat;omega
      rw[←hv,←hn]
      have HV:=hid hv
      have HN:=hid hn
      clear hv hn
      by_cases hlt:k<Z.size
      ·obtain⟨c,hc⟩:∃c,Z[k]=c:=⟨_,rfl⟩
       have hkl:k<Z.data.toList.length:=by rw[HL.out];exact hlt
       have hcl:Z.data.toList[k]=c:=hc
       have HS:Hid (Z.data.toList.take (k+1)=Z.data.toList.take k++[c]):=by rw[←hcl];exact take_snoc _ k hkl
       have hD:lH 16 c=true:=by rw[←hcl];exact Iu _ _ HD.out k hkl
       have HX:=hid (tq 16 c hD)
       obtain⟨d,hd⟩:∃d,d=dv c:=⟨_,rfl⟩
       have alU:d≤15:=by rw[hd];exact U8 c
       rw[←hd]at HX
       have Td:=hid hd
       have h0:0≤(c.toNat:Int):=by omega
       have h1:(c.toNat:Int)≤255:=by have:=c.toNat_lt;omega
       have xE:Hid (sat (val 16 (Z.data.toList.take (k+1)))=min (n*16+d) 4294967296):=by
        show _=_
        rw[HS.out,jh,←HV.out,←Td.out,HN.out,Ea v 16 d (by omega)]
       clear hcl hkl hD hd
       have HZ:Hid (Value.int .u64 (min ((n:Int)*16+(d:Int)) 4294967296)=.int .u64 (sat (val 16 (Z.data.toList.take (k+1))))):=by
        refine int_eq ?_
        rw[xE.out];omega
       go_wp2_with fail
       refine(dI.dV _ _ h0 h1).mono ?_
       rintro e w2 ⟨rfl,hw2⟩
       subst hw2
       rw[HX.out]
       go_wp2
       go_roundw
       case rel=>exact⟨k+1,by omega,by go_num,by first|rfl|trivial,HZ.out⟩
       case measure=>simp[intOf];omega
      obtain rfl:k=Z.size:=by omega
      have HZ:Hid (n=sat (val 16 Z.data.toList)):=by
       show _=_
       rw[HN.out,HV.out,List.take_of_length_le (by rw[HL.out];exact Nat.le_refl _)]
      go_wp2
      go_ret2
      exact⟨by rw[HE.out,HZ.out];rfl,rfl⟩
   obtain⟨Z,hZ⟩:∃Z,Z=s.extract 1 s.size:=⟨_,rfl⟩
   have Tn:Z.data.toList=x::r:=by rw[hZ,ext2 _ _ (by omega),hL];rfl
   have hZs:s.extract 1 s.size=Z:=hZ.symm
   have hzs:Z.size≤1073741824:=by have:Z.data.toList.length=Z.size:=Array.length_toList;rw[Tn]at this;rw[hL]at hsz;simp at hsz this;omega
   have Fj:Hid (eu 8 Z.data.toList=true→CS s.data.toList=.tuple #[.int .u64 (sat (val 8 Z.data.toList)),.bool true]):=fun h=>Ja _ Ac 8 _ (by rw[hL,agm _ _ _ ha hx,Tn]) h
   have qc:Hid (eu 8 Z.data.toList=false→CS s.data.toList=.tuple #[.int .u64 0,.bool false]):=fun h=>Oh _ Ac 8 _ (by rw[hL,agm _ _ _ ha hx,Tn]) h
   have HP:Hid (Lib.hasPrefix s.data.toList [48,120]=false):=by show _=_;rw[NW.out,pre2,decide_eq_false (fun h=>hx (.inl h)),Bool.and_false]
   have HP2:Hid (Lib.hasPrefix s.data.toList [48,88]=false):=by show _=_;rw[NW.out,pre2,decide_eq_false (fun h=>hx (.inr h)),Bool.and_false]
   have g48:∀h,s[0]'h=48:=fun h=>by rw[g0 h,ha]
   clear hL hsz Tn hZ Ac ha hx g0
   go_enter Tryz.func328,Tryz.ntmps328
   go_wp2_with fail
   refine(Tryz.strings_HasPrefix s ⟨#[48,120]⟩ _).mono ?_
   rintro e w2 ⟨rfl,hw2⟩
   subst hw2
   rw[show(⟨#[48,120]⟩:ByteArray).data.toList=[48,120]from rfl,HP.out]
   go_wp2_with fail
   refine(Tryz.strings_HasPrefix s ⟨#[48,88]⟩ _).mono ?_
   rintro e w2 ⟨rfl,hw2⟩
   subst hw2
   rw[show(⟨#[48,88]⟩:ByteArray).data.toList=[48,88]from rfl,HP2.out]
   go_wp2_with fail
   refine(qA Z 8 _ hzs).mono ?_
   rintro e w2 ⟨rfl,hw2⟩
   subst hw2
   cases hd:eu 8 Z.data.toList with
   |false=>
    have HE:=hid (qc.out hd)
    clear hd
    go_wp2
    go_ret2
    exact⟨by rw[HE.out];rfl,rfl⟩
   | true=>
    have HE:=hid (Fj.out hd)
    have HD:=hid hd
    have HL:Hid (Z.data.toList.length=Z.size):=Array.length_toList
    clear hd
    go_wp2
    go_loopw [6,7] (fun vn vk wr=>∃k:Nat,k≤Z.size∧vk=.int .i64 (k:Int)∧wr=w2∧vn=.int .u64 (sat (val 8 (Z.data.toList.take k)))) (fun _ vk _=>Z.size - (intOf vk).toNat)
    case atStart=>exact⟨0,Nat.zero_le _,rfl,rfl,rfl⟩
    case round=>
     obtain⟨k,hk,rfl,rfl,rfl⟩:=hrel
     obtain⟨v,hv⟩:∃v,v=val 8 (Z.data.toList.take k):=⟨_,rfl⟩
     obtain⟨n,hn⟩:∃n,n=sat v:=⟨_,rfl⟩
     have hn2:n≤4294967296:=by rw[hn];unfold sat;omega
     rw[←hv,←hn]
     have HV:=hid hv
     have HN:=hid hn
     clear hv hn
     by_cases hlt:k<Z.size
     ·obtain⟨c,hc⟩:∃c,Z[k]=c:=⟨_,rfl⟩
      have hkl:k<Z.data.toList.length:=by rw[HL.out];exact hlt
      have hcl:Z.data.toList[k]=c:=hc
      have HS:Hid (Z.data.toList.take (k+1)=Z.data.toList.take k++[c]):=by rw[←hcl];exact take_snoc _ k hkl
      have hD:lH 8 c=true:=by rw[←hcl];exact Iu _ _ HD.out k hkl
      have HX:=hid (tq 8 c hD)
      obtain⟨d,hd⟩:∃d,d=dv c:=⟨_,rfl⟩
      have alU:d≤15:=by rw[hd];exact U8 c
      rw[←hd]at HX
      have Td:=hid hd
      have h0:0≤(c.toNat:Int):=by omega
      have h1:(c.toNat:Int)≤255:=by have:=c.toNat_lt;omega
      have xE:Hid (sat (val 8 (Z.data.toList.take (k+1)))=min (n*8+d) 4294967296):=by
       show _=_
       rw[HS.out,jh,←HV.out,←Td.out,HN.out,Ea v 8 d (by omega)]
      clear hcl hkl hD hd
      have HZ:Hid (Value.int .u64 (min ((n:Int)*8+(d:Int)) 4294967296)=.int .u64 (sat (val 8 (Z.data.toList.take (k+1))))):=by
       refine int_eq ?_
       rw[xE.out];omega
      go_wp2_with fail
      refine(dI.dV _ _ h0 h1).mono ?_
      rintro e w2 ⟨rfl,hw2⟩
      subst hw2
      rw[HX.out]
      go_wp2
      go_roundw
      case rel=>exact⟨k+1,by omega,by go_num,by first|rfl|trivial,HZ.out⟩
      case measure=>simp[intOf];omega
     obtain rfl:k=Z.size:=by omega
     have HZ:Hid (n=sat (val 8 Z.data.toList)):=by
      show _=_
      rw[HN.out,HV.out,List.take_of_length_le (by rw[HL.out];exact Nat.le_refl _)]
     go_wp2
     go_ret2
     exact⟨by rw[HE.out,HZ.out];rfl,rfl⟩
  have Fj:Hid (eu 10 s.data.toList=true→CS s.data.toList=.tuple #[.int .u64 (sat (val 10 s.data.toList)),.bool true]):=fun h=>Ja _ Ac 10 _ (by rw[hL,Yv _ _ _ ha]) h
  have qc:Hid (eu 10 s.data.toList=false→CS s.data.toList=.tuple #[.int .u64 0,.bool false]):=fun h=>Oh _ Ac 10 _ (by rw[hL,Yv _ _ _ ha]) h
  have HP:Hid (∀q,Lib.hasPrefix s.data.toList [48,q]=false):=by intro q;rw[NW.out,pre2,decide_eq_false ha,Bool.false_and]
  have ha2:((a.toNat:Int)==48)=false:=yO (d:=48) ha
  have hzs:s.size≤1073741824:=hs
  clear hL hsz Ac ha
  go_enter Tryz.func328,Tryz.ntmps328
  go_wp2_with fail
  refine(Tryz.strings_HasPrefix s ⟨#[48,120]⟩ _).mono ?_
  rintro e w2 ⟨rfl,hw2⟩
  subst hw2
  rw[show(⟨#[48,120]⟩:ByteArray).data.toList=[48,120]from rfl,HP.out]
  go_wp2_with fail
  refine(Tryz.strings_HasPrefix s ⟨#[48,88]⟩ _).mono ?_
  rintro e w2 ⟨rfl,hw2⟩
  subst hw2
  rw[show(⟨#[48,88]⟩:ByteArray).data.toList=[48,88]from rfl,HP.out]
  go_wp2_with fail
  refine(qA s 10 _ hzs).mono ?_
  rintro e w2 ⟨rfl,hw2⟩
  subst hw2
  cases hd:eu 10 s.data.toList with
  |false=>
   have HE:=hid (qc.out hd)
   clear hd
   go_wp2
   go_ret2
   exact⟨by rw[HE.out];rfl,rfl⟩
  | true=>
   have HE:=hid (Fj.out hd)
   have HD:=hid hd
   have HL:Hid (s.data.toList.length=s.size):=Array.length_toList
   clear hd
   go_wp2
   go_loopw [6,7] (fun vn vk wr=>∃k:Nat,k≤s.size∧vk=.int .i64 (k:Int)∧wr=w2∧vn=.int .u64 (sat (val 10 (s.data.toList.take k)))) (fun _ vk _=>s.size - (intOf vk).toNat)
   case atStart=>exact⟨0,Nat.zero_le _,rfl,rfl,rfl⟩
   case round=>
    obtain⟨k,hk,rfl,rfl,rfl⟩:=hrel
    obtain⟨v,hv⟩:∃v,v=val 10 (s.data.toList.take k):=⟨_,rfl⟩
    obtain⟨n,hn⟩:∃n,n=sat v:=⟨_,rfl⟩
    have hn2:n≤4294967296:=by rw[hn];unfold sat;omega
    rw[←hv,←hn]
    have HV:=hid hv
    have HN:=hid hn
    clear hv hn
    by_cases hlt:k<s.size
    ·obtain⟨c,hc⟩:∃c,s[k]=c:=⟨_,rfl⟩
     have hkl:k<s.data.toList.length:=by rw[HL.out];exact hlt
     have hcl:s.data.toList[k]=c:=hc
     have HS:Hid (s.data.toList.take (k+1)=s.data.toList.take k++[c]):=by rw[←hcl];exact take_snoc _ k hkl
     have hD:lH 10 c=true:=by rw[←hcl];exact Iu _ _ HD.out k hkl
     have HX:=hid (tq 10 c hD)
     obtain⟨d,hd⟩:∃d,d=dv c:=⟨_,rfl⟩
     have alU:d≤15:=by rw[hd];exact U8 c
     rw[←hd]at HX
     have Td:=hid hd
     have h0:0≤(c.toNat:Int):=by omega
     have h1:(c.toNat:Int)≤255:=by have:=c.toNat_lt;omega
     have xE:Hid (sat (val 10 (s.data.toList.take (k+1)))=min (n*10+d) 4294967296):=by
      show _=_
      rw[HS.out,jh,←HV.out,←Td.out,HN.out,Ea v 10 d (by omega)]
     clear hcl hkl hD hd
     have HZ:Hid (Value.int .u64 (min ((n:Int)*10+(d:Int)) 4294967296)=.int .u64 (sat (val 10 (s.data.toList.take (k+1))))):=by
      refine int_eq ?_
      rw[xE.out];omega
     go_wp2_with fail
     refine(dI.dV _ _ h0 h1).mono ?_
     rintro e w2 ⟨rfl,hw2⟩
     subst hw2
     rw[HX.out]
     go_wp2
     go_roundw
     case rel=>exact⟨k+1,by omega,by go_num,by first|rfl|trivial,HZ.out⟩
     case measure=>simp[intOf];omega
    obtain rfl:k=s.size:=by omega
    have HZ:Hid (n=sat (val 10 s.data.toList)):=by
     show _=_
     rw[HN.out,HV.out,List.take_of_length_le (by rw[HL.out];exact Nat.le_refl _)]
    go_wp2
    go_ret2
    exact⟨by rw[HE.out,HZ.out];rfl,rfl⟩
end Go.Proofs.YtgamccijegollaaGreatDoor.Zx
namespace Go.Proofs.YtgamccijegollaaGreatDoor.acN
open Go.RowKit Base Dp acj dI oO Zx
def Max (w:World):Prop:=∃m,w.cell? ⟨2,0,none⟩=some (.int .i64 m)
theorem Nv (s:ByteArray) (w:World) (hs:s.size≤1073741824):Calls Tryz.prog 327 #[.string s] w fun e w'=>e=.returned (.string (strOf (oH s.data.toList)))∧w=w':=by
 go_enter Tryz.func327,Tryz.ntmps327
 go_wp2_with fail
 refine(Tryz.strings_TrimSuffix s ⟨#[46]⟩ _ (by omega)).mono ?_
 rintro e w2 ⟨rfl,hw2⟩
 subst hw2
 go_wp2
 go_ret
 exact⟨rfl,rfl⟩
theorem xq:∀(L:List UInt8) (k:Nat),L.count 46≤k→Lib.splitK [46] 0 k L=bZ L
 |[],0,_=>rfl
 |[],k+1,_=>rfl
 |b::l,0,h=>by
  have hb:b≠46:=by rintro rfl;simp at h
  have ih:=xq l 0 (by rw[List.count_cons_of_ne (by simpa using hb)]at h;exact h)
  show[b::l]=_
  rw[bZ,if_neg hb,←ih]
  rfl
 | b :: l, k + 1, h => by
  by_cases hb:b=46
  ·subst hb
   have ih:=xq l k (by simp at h;omega)
   have e:Lib.index (46::l) [46]=0:=by rw[Lib.index,if_pos (by simp[List.isPrefixOf])]
   rw[bZ,if_pos rfl,Lib.splitK,e,if_neg (by decide)]
   show[]::_=_
   rw[←ih]
   rfl
  ·have hc:l.count 46≤k+1:=by rw[List.count_cons_of_ne (by simpa using hb)]at h;exact h
   have ih:=xq l (k+1) hc
   have e:Lib.index (b::l) [46]=if Lib.index l [46]== -1 then -1 else Lib.index l [46]+1:=by rw[Lib.index,if_neg (by simp[List.isPrefixOf,Ne.symm hb])]
   rw[Lib.splitK]at ih⊢
   rw[bZ,if_neg hb,←ih,e]
   by_cases hm:Lib.index l [46]= -1
   ·rw[hm]
    rfl
   ·have hge:=Lib.index_ge l [46]
    obtain⟨j,hj⟩:∃j:Nat,Lib.index l [46]=j:=⟨(Lib.index l [46]).toNat,by omega⟩
    have h1:((j:Int)== -1)=false:=beq_eq_false_iff_ne.2 (by omega)
    have h2:((j:Int)+1== -1)=false:=beq_eq_false_iff_ne.2 (by omega)
    have h3:((j:Int)+1).toNat=j+1:=by omega
    simp only[hj,h1,Bool.false_eq_true,if_false,h2,h3]
    simp
def Read (w:World) (l:List (List UInt8)) (e:Ending) (w':World):Prop:=∃A n c,e=.returned (.slice A n c)∧n=l.length∧n≤c∧c≤maxLen∧aY w' A n ((l.map strOf).map Value.string)∧Below w.heap.size w w'
theorem aiJ (s:ByteArray) (w:World) (hs:s.size≤1073741824) (hM:Max w):Calls Tryz.prog 330 #[.string s,.string ⟨#[46]⟩] w (Read w (bZ s.data.toList)):=by
 obtain⟨m,hm⟩:=hM
 refine(Tryz.strings_Split s ⟨#[46]⟩ m w (by omega) hm (Nat.le_refl _)).mono ?_
 rintro e w' ⟨rfl,rfl⟩
 have hd:=Lib.splitB_data ⟨#[46]⟩ 0 (Lib.countB s ⟨#[46]⟩) s
 rw[show(⟨#[46]⟩:ByteArray).data.toList=[46]from rfl,xq _ _ (by rw[←Lib.count_one];exact Nat.le_refl _)]at hd
 have hl:=Lib.splitB_all ⟨#[46]⟩ (Nat.le_refl _) 0 _ s rfl
 have hc:=Lib.countB_le ⟨#[46]⟩ (Nat.le_refl _) s.size s (Nat.le_refl _)
 generalize Lib.splitB ⟨#[46]⟩ 0 (Lib.countB s ⟨#[46]⟩) s=B at hd hl⊢
 have hB:B=(bZ s.data.toList).map strOf:=by
  rw[←hd,List.map_map]
  conv=>lhs;rw[←List.map_id B]
  exact List.map_congr_left fun x _=>(aG x).symm
 unfold Read
 rw[←hB]
 refine⟨_,_,_,rfl,by rw[←hl,hB,List.length_map],Nat.le_refl _,by unfold maxLen;omega,?_,(Below.refl _ _).alloc (Nat.le_refl _) _⟩
 exact aY.jF (by rw[List.length_map,hl]) (by simp) (fun j hj=>by
  rw[Nat.zero_add,World.cell?_alloc_mark]
  simp)
end Go.Proofs.YtgamccijegollaaGreatDoor.acN
namespace Go.Proofs.YtgamccijegollaaGreatDoor.acO
open Go.RowKit Base Dp dI oO Zx acN
theorem yQ (L:List UInt8) (h:num L=none):CS L=.tuple #[.int .u64 0,.bool false]:=by unfold CS;rw[h]
theorem yR (L:List UInt8) (v:Nat) (h:num L=some v):CS L=.tuple #[.int .u64 (sat v),.bool true]:=by unfold CS;rw[h]
theorem afQ (L:List UInt8):(lst L).length≤L.length:=by
 unfold lst
 cases h:(bZ L).getLast? with
 |none=>simp
 |some x=>exact qK L x (List.mem_of_getLast? h)
theorem aln (s:ByteArray) (w:World) (hs:s.size≤900000):Calls Tryz.prog 304 #[.string s] w fun e w'=>e=.returned (.bool (ends s.data.toList))∧Below w.heap.size w w':=by
 have hsl:s.data.toList.length=s.size:=Array.length_toList
 obtain⟨K,hK⟩:∃K,K=lst (oH s.data.toList):=⟨_,rfl⟩
 obtain⟨o,ho⟩:∃o,o=ends s.data.toList:=⟨_,rfl⟩
 have ho2:o=((num K).isSome||(decide (K≠[])&&eu 10 K)):=by rw[ho,hK];rfl
 obtain⟨U,hU⟩:∃U,U=strOf (oH s.data.toList):=⟨_,rfl⟩
 have hUd:U.data.toList=oH s.data.toList:=by rw[hU];rfl
 have hus:U.size≤900000:=by rw[hU,o9];have:=Fa s.data.toList;omega
 obtain⟨hd1,hd2,hd3⟩:=ahn U
 rw[hUd,←hK]at hd1
 obtain⟨at_,hat⟩:∃a,a=Lib.lastIndexByte U 46:=⟨_,rfl⟩
 rw[←hat]at hd1 hd2 hd3
 obtain⟨n,hn⟩:∃n:Nat,(n:Int)=at_+1:=⟨(at_+1).toNat,by omega⟩
 have hn2:n=(at_+1).toNat:=by omega
 rw[←hn2]at hd1
 obtain⟨Y,hY⟩:∃Y,Y=strOf K:=⟨_,rfl⟩
 have hYe:U.extract n U.size=Y:=by rw[L6.ext_drop _ _ _ rfl,hUd,hd1,hY]
 have hYd:Y.data.toList=K:=by rw[hY];rfl
 have hys:Y.size≤1073741824:=by
  have h1:=afQ (oH s.data.toList)
  have h2:=Fa s.data.toList
  rw[hY,o9,hK];omega
 have hnu:(n:Int)≤(U.size:Int):=by omega
 have hn0:(0:Int)≤(n:Int):=by omega
 have hem:(Y.toList==[])=decide (K=[]):=by rw[hY];unfold strOf;rw[ByteArray.toList_mk,Bool.eq_iff_iff];simp
 have HO:=hid ho2
 have HU:=hid hU
 have HAT:=hid hat
 have HN:Hid (at_+1=(n:Int)):=hn.symm
 have kU:=hid hYd
 rw[←ho]
 have ha1: -1≤at_:=hd2
 have ha2:at_<900000:=by omega
 clear ho ho2 hK hU hUd hd1 hd2 hd3 hat hn hn2 hY hYd hsl
 go_enter Tryz.func304,Tryz.ntmps304
 go_wp2_with fail
 refine(Nv s _ (by omega)).mono ?_
 rintro e w2 ⟨rfl,hw2⟩
 subst hw2
 rw[←HU.out]
 go_wp2_with fail
 refine(Tryz.strings_LastIndexByte U 46 _ (by omega)).mono ?_
 rintro e w3 ⟨rfl,hw3⟩
 subst hw3
 rw[←HAT.out]
 have hN:=HN.out
 cases hk:num K with
 |some v=>
  have HV:=hid (yR K v hk)
  have HE:Hid (o=true):=by show _=_;rw[HO.out,hk];rfl
  clear hk
  go_wp2_with fail
  refine(bf Y _ hys).mono ?_
  rw[kU.out,HV.out]
  rintro e w4 ⟨rfl,hw4⟩
  subst hw4
  go_wp2
  go_ret
  exact⟨ak HE.out.symm,Below.refl _ _⟩
 |none=>
  have HV:=hid (yQ K hk)
  have HE:Hid (o=(decide (K≠[])&&eu 10 K)):=by show _=_;rw[HO.out,hk];rfl
  clear hk
  by_cases hke:K=[]
  ·have XP:(Y.toList==[])=true:=by rw[hem];exact decide_eq_true hke
   have TR:Y.toList=[]:=by simpa using XP
   have hem3:(Y.toList !=[])=false:=by rw[bne,XP];rfl
   have HE2:Hid (o=false):=by show _=_;rw[HE.out,decide_eq_false (fun h=>h hke)];rfl
   clear hem hke
   go_wp2_with fail
   refine(bf Y _ hys).mono ?_
   rw[kU.out,HV.out]
   rintro e w4 ⟨rfl,hw4⟩
   subst hw4
   go_wp2
   go_ret
   exact⟨ak HE2.out.symm,Below.refl _ _⟩
  have XP:(Y.toList==[])=false:=by rw[hem];exact decide_eq_false hke
  have TR:Y.toList.isEmpty=false:=by
   cases h:Y.toList with
   |nil=>rw[h]at XP;cases XP
   |cons _ _=>rfl
  have hem3:(Y.toList !=[])=true:=by rw[bne,XP];rfl
  have HE2:Hid (o=eu 10 K):=by show _=_;rw[HE.out,decide_eq_true hke];rfl
  clear hem hke
  go_wp2_with fail
  refine(bf Y _ hys).mono ?_
  rw[kU.out,HV.out]
  rintro e w4 ⟨rfl,hw4⟩
  subst hw4
  go_wp2_with fail
  refine(qA Y 10 _ hys).mono ?_
  rw[kU.out]
  rintro e w5 ⟨rfl,hw5⟩
  subst hw5
  go_wp2
  go_ret
  exact⟨ak HE2.out.symm,Below.refl _ _⟩
end Go.Proofs.YtgamccijegollaaGreatDoor.acO
