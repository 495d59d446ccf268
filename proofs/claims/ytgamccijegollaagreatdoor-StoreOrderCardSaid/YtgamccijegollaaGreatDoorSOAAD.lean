/- Texts that belong together: jQ, WU, L6, Regt, nP, cO, SixE, SixF, akq. -/
import Derived.Test.YtgamccijegollaaGreatDoorSOAAC
import Derived.Lib.LaidTab
import Derived.Lib.LaidU8
import Derived.Lib.SmallJoins
import Derived.Laws.Bits64b
import Derived.StillTail
import Derived.BigQuiet
import Derived.Test.YtgamccijegollaaGreatDoorSOAAA
import Derived.Deep.DeepCutAuto
import Derived.Deep.CutBlock
set_option linter.unusedSimpArgs false
set_option linter.unusedVariables false
set_option maxRecDepth 100000
set_option maxHeartbeats 64000000
namespace Go.Proofs.YtgamccijegollaaGreatDoor.jQ
open Go.RowKit Base Dp
def oI (w:World):Prop:=w.cell? ⟨5,15,none⟩=some (.int .u8 4)
theorem oI.below {w w':World} (h:oI w) (hb:Below w.heap.size w w'):oI w':=(hb.cell (World.block_lt_of_cell? _ _ h)).trans h
def ak4:List Int:=[0,1,56,2,57,49,28,3,61,58,42,50,38,29,17,4,62,47,59,36,45,43,51,22,53,39,33,30,24,18,12,5,63,55,48,27,60,41,37,16,46,35,44,21,52,32,23,11,54,26,40,15,34,20,31,10,25,14,19,9,13,8,7,6]
theorem P9:Tryz.prog.globalNamed "math/bits.deBruijn64tab" =some 5:=by kernel_rfl
theorem lad_of {W:World} {l:List (String×DataW Unit)} (h:laidMet Tryz.prog l W) (hm:("math/bits.deBruijn64tab",Lib.tabData .u8 ak4) ∈ l):oI W:=by
 obtain⟨g',t',cs,fuel,p,hg',ht',hvar,hd⟩:=Lib.laidMet.reads h hm
 obtain rfl:=Option.some.inj (P9.symm.trans hg')
 obtain rfl:=Option.some.inj ((show(Tryz.prog.globals[5]?).map (·.type)=some 352 by kernel_rfl).symm.trans ht')
 have hc:=Lib.cells_of_tab (k:=.u8) (zs:=ak4) Tryz.underlying352 Tryz.underlying5 (by kernel_rfl) (by kernel_rfl) hd
 unfold World.var? at hvar
 rw[P9]at hvar
 simp only[Option.bind_some]at hvar
 unfold oI World.cell?
 split at hvar
 ·rename_i x y z hh
  injection hvar with hvar
  rw[hh]
  simp only[]
  have e:x.toList=ak4.map fun z=>Value.int .u8 z:=by rw[hvar];exact hc
  rw[←Array.getElem?_toList,e]
  rfl
 cases hvar
def lW (n:Nat):UInt8:=if n<10 then UInt8.ofNat (48+n)else UInt8.ofNat (87+n)
def hxs:Nat→Nat→List UInt8→List UInt8
 |0,u,acc=>lW u::acc
 |f+1,u,acc=>if 16≤u then hxs f (u / 16) (lW (u%16)::acc)else lW u::acc
def hx (n:Nat):List UInt8:=hxs 3 n []
theorem Ob:∀(f u:Nat) (acc:List UInt8),hxs f u acc=hxs f u []++acc
 |0,_,_=>rfl
 |f+1,u,acc=>by
  unfold hxs
  split
  ·rw[Ob f _ (_::acc),Ob f _ [_],List.append_assoc]
   rfl
  ·rfl
theorem aaC:∀(f u:Nat) (acc:List UInt8),u<16^(f+1)→hxs (f+1) u acc=hxs f u acc
 |0,u,acc,h=>by
  unfold hxs
  rw[if_neg (by simp at h;omega)]
 |f+1,u,acc,h=>by
  show(if 16≤u then hxs (f+1) (u / 16) (lW (u%16)::acc)else lW u::acc)=(if 16≤u then hxs f (u / 16) (lW (u%16)::acc)else lW u::acc)
  by_cases hu:16≤u
  ·rw[if_pos hu,if_pos hu]
   exact aaC f (u / 16) _ (by rw[Nat.pow_succ]at h;omega)
  ·rw[if_neg hu,if_neg hu]
theorem aaB {n:Nat} (h:n<16):hx n=[lW n]:=by
 unfold hx hxs
 rw[if_neg (by omega)]
theorem al9 {n:Nat} (h:16≤n) (h6:n<65536):hx n=hx (n / 16)++[lW (n%16)]:=by
 unfold hx
 rw[aaC 2 (n / 16) [] (by show n / 16<4096;omega)]
 conv=>lhs;unfold hxs
 rw[if_pos h,Ob]
theorem U7 (k:Nat) (hk:k<16) (h:k<(⟨#[48,49,50,51,52,53,54,55,56,57,97,98,99,100,101,102,103,104,105,106,107,108,109,110,111,112,113,114,115,116,117,118,119,120,121,122]⟩:ByteArray).size):(⟨#[48,49,50,51,52,53,54,55,56,57,97,98,99,100,101,102,103,104,105,106,107,108,109,110,111,112,113,114,115,116,117,118,119,120,121,122]⟩:ByteArray)[k]'h=lW k:=by
 have hcase:k=0∨k=1∨k=2∨k=3∨k=4∨k=5∨k=6∨k=7∨k=8∨k=9∨k=10∨k=11∨k=12∨k=13∨k=14∨k=15:=by omega
 rcases hcase with rfl|rfl|rfl|rfl|rfl|rfl|rfl|rfl|rfl|rfl|rfl|rfl|rfl|rfl|rfl|rfl<;>rfl
theorem PE (u:Nat) (h:u<65536):bits .and .u64 (u:Int) 15=(u:Int)%16:=by
 have:=bits_and_u64_nat u 15 (by omega) (by omega)
 rw[show((15:Nat):Int)=15 from rfl]at this
 rw[this,show(15:Nat)=2^4 - 1 from rfl,Nat.and_two_pow_sub_one_eq_mod]
 omega
def JX (w:World) (g:Nat) (t:TypeId) (L:List UInt8):Prop:=w.heap[g]?=some (.cells (ah L).toArray t (0,0))
theorem JX.cell {w:World} {g:Nat} {t:TypeId} {L:List UInt8} (h:JX w g t L) (j:Nat) (hj:j<L.length):w.cell? ⟨g,j,none⟩=some (.int .u8 (L[j].toNat:Int)):=by
 refine(cell_of_row w g j _ _ _ h).trans ?_
 simp[ah,hj]
theorem JX.frozen {w:World} {g:Nat} {t:TypeId} {L:List UInt8} (h:JX w g t L) (j:Nat):w.frozen? ⟨g,j,none⟩=false:=by
 unfold World.frozen?
 rw[h]
 simp
theorem JX.set {w:World} {g:Nat} {t:TypeId} {L:List UInt8} (h:JX w g t L) (j:Nat) (c:UInt8):JX (w.setCell ⟨g,j,none⟩ (.int .u8 (c.toNat:Int))) g t (L.set j c):=by
 have:=heap_setCell_same w g j _ _ (.int .u8 (c.toNat:Int)) h
 unfold JX
 rw[this]
 simp[ah,List.map_set]
theorem JX.zB {w:World} {g:Nat} {t:TypeId} {L:List UInt8} (h:JX w g t L) (i:Nat) (hi:i≤L.length):aY w (some ⟨g,i,none⟩) (L.length - i) (ah (L.drop i)):=
 aY.jF (by rw[aI,List.length_drop]) (Array.getElem?_eq_some_iff.1 h).1 (fun j hj=>by
  rw[aI,List.length_drop]at hj
  rw[h.cell (i+j) (by omega)]
  simp[ah])
theorem anY (w:World) (hL:oI w):Calls Tryz.prog 349 #[.int .u64 16] w fun e w'=>e=.returned (.int .i64 4)∧w=w':=by
 have h1:IntKind.u64.wrap (-16)=18446744073709551600:=by kernel_rfl
 have h2:bits .and .u64 16 18446744073709551600=16:=by kernel_rfl
 unfold oI at hL
 go_enter Tryz.func349,Tryz.ntmps349
 go_wp2
 go_ret
 exact⟨rfl,rfl⟩
theorem tz_any (w:World) (hL:oI w):Calls Tryz.prog 340 #[.int .u64 16] w fun e w'=>e=.returned (.int .i64 4)∧w=w':=by
 go_enter Tryz.func340,Tryz.ntmps340
 go_wp2_with fail
 refine(anY _ hL).mono ?_
 rintro e w2 ⟨rfl,hw2⟩
 subst hw2
 go_wp2
 go_ret
 exact⟨rfl,rfl⟩
theorem am5 (w:World):Calls Tryz.prog 339 #[.int .i64 16] w fun e w'=>e=.returned (.bool true)∧w=w':=by
 have h1:bits .and .i64 16 15=0:=by kernel_rfl
 go_enter Tryz.func339,Tryz.ntmps339
 go_wp2
 go_ret
 exact⟨rfl,rfl⟩
theorem akT (n:Nat) (hn:n<65536) (w:World) (hL:oI w):Calls Tryz.prog 316 #[.slice none 0 0,.int .u64 (n:Int),.int .i64 16,.bool false,.bool false] w fun e w'=>e=.returned (.tuple #[.slice none 0 0,.string (strOf (hx n))])∧Below w.heap.size w w':=by
 obtain⟨H,hH⟩:∃H,H=hx n:=⟨_,rfl⟩
 rw[←hH]
 have HH:=hid hH
 have Y8:=hid hL
 clear hH hL
 go_enter Tryz.func316,Tryz.ntmps316
 go_upto_region 4 with(fail)
 generalize hw1:w.alloc _=w1
 have HB1:Hid (Below w.heap.size w w1):=by
  show Below _ _ _
  rw[←hw1]
  exact(Below.refl _ _).alloc (Nat.le_refl _) _
 have kP:Hid (JX w1 w.heap.size 339 (List.replicate 65 0)):=by
  show JX _ _ _ _
  rw[←hw1]
  exact heap_alloc_new _ _
 clear hw1
 go_wp2_with fail
 refine(am5 _).mono ?_
 rintro e w2 ⟨rfl,hw2⟩
 subst hw2
 go_wp2_with fail
 refine(tz_any _ (Y8.out.below HB1.out)).mono ?_
 rintro e w2 ⟨rfl,hw2⟩
 subst hw2
 go_wp2_with fail
 go_loopw [1,13] (fun vu vi wr=>∃(f u i:Nat) (L:List UInt8),f≤3∧u<16^(f+1)∧u<65536∧i=62+f∧vu=.int .u64 (u:Int)∧vi=.int .i64 (i:Int)∧Hid (L.length=65)∧Hid (JX wr w.heap.size 339 L)∧Hid (H=hxs f u (L.drop i))∧Hid (Below w.heap.size w wr)) (fun vu _ _=>(intOf vu).toNat)
 case atStart=>exact⟨3,n,65,List.replicate 65 0,by omega,hn,hn,rfl,rfl,rfl,rfl,kP.out,HH.out,HB1.out⟩
 case round =>
  obtain⟨f,u,i,L,hf,hu,hu6,hi,rfl,rfl,Ci,HX,HW,HB⟩:=hrel
  obtain⟨j,hj⟩:∃j,i=j+1:=⟨i - 1,by omega⟩
  have hij:(i:Int) - 1=(j:Int):=by omega
  have hj64:j≤64:=by omega
  have hi65:i≤65:=by omega
  have hi1:(1:Int)≤(i:Int):=by omega
  have hj65:(j:Int)<65:=by omega
  obtain⟨x0,hc0⟩:∃x0,wr.cell? ⟨w.heap.size,j,none⟩=some x0:=⟨_,HX.out.cell j (by rw[Ci.out];omega)⟩
  have hf0:=HX.out.frozen j
  have HJ:=hid hj
  by_cases h16:16≤u
  ·have h16i:(16:Int)≤(u:Int):=by omega
   obtain⟨f',rfl⟩:∃f',f=f'+1:=by
    cases f with
    |zero=>simp at hu;omega
    |succ f'=>exact⟨f',rfl⟩
   have HIF:=hid hi
   have ha:=PE u hu6
   have q0:(0:Int)≤(u:Int)%16:=by omega
   have q1:(u:Int)%16<16:=by omega
   have q2:(u:Int)%16<36:=by omega
   have q3:∀h,(⟨#[48,49,50,51,52,53,54,55,56,57,97,98,99,100,101,102,103,104,105,106,107,108,109,110,111,112,113,114,115,116,117,118,119,120,121,122]⟩:ByteArray)[((u:Int)%16).toNat]'h=lW (u%16):=fun h=>by
    have e:((u:Int)%16).toNat=u%16:=by omega
    simp only[e]
    exact U7 _ (by omega) _
   obtain⟨v,hv⟩:∃v,v=u / 16:=⟨_,rfl⟩
   have hvi:(u:Int) / 16=(v:Int):=by omega
   have gY:=hid (HX.out.set j (lW (u%16)))
   have HB2:Hid (Below w.heap.size w (wr.setCell ⟨w.heap.size,j,none⟩ (.int .u8 ((lW (u%16)).toNat:Int)))):=HB.out.setCell (Nat.le_refl _) _
   have HW2:Hid (H=hxs f' v ((L.set j (lW (u%16))).drop j)):=by
    show _=_
    have hd:(L.set j (lW (u%16))).drop j=lW (u%16)::L.drop i:=by
     rw[List.drop_eq_getElem_cons (by rw[List.length_set,Ci.out];omega),List.getElem_set_self,List.drop_set_of_lt (by omega),←HJ.out]
    rw[hd,HW.out,hv]
    conv=>lhs;unfold hxs
    rw[if_pos h16]
   have HV:Hid (v<16^(f'+1)∧v<65536∧v<u):=⟨by rw[hv];rw[Nat.pow_succ]at hu;omega,by omega,by omega⟩
   have uQ:=hid hv
   clear hu hv hj hi h16
   go_wp2
   go_roundw
   case rel=>exact⟨f',v,j,_,by omega,HV.out.1,HV.out.2.1,by have:=HIF.out;have:=HJ.out;omega,by go_num,by go_num,by rw[List.length_set];exact Ci.out,gY.out,HW2.out,HB2.out⟩
   case measure=>(have:=HV.out.2.2;simp[intOf];omega)
  have h16i:¬(16:Int)≤(u:Int):=by omega
  have q0:(u:Int)<36:=by omega
  have q3:∀h,(⟨#[48,49,50,51,52,53,54,55,56,57,97,98,99,100,101,102,103,104,105,106,107,108,109,110,111,112,113,114,115,116,117,118,119,120,121,122]⟩:ByteArray)[u]'h=lW u:=fun h=>U7 _ (by omega) _
  have gY:=hid (HX.out.set j (lW u))
  have HB2:Hid (Below w.heap.size w (wr.setCell ⟨w.heap.size,j,none⟩ (.int .u8 ((lW u).toNat:Int)))):=HB.out.setCell (Nat.le_refl _) _
  have hd:(L.set j (lW u)).drop j=H:=by
   rw[List.drop_eq_getElem_cons (by rw[List.length_set,Ci.out];omega),List.getElem_set_self,List.drop_set_of_lt (by omega),←HJ.out,HW.out]
   cases f with
   |zero=>rfl
   |succ f'=>unfold hxs;rw[if_neg h16]
  have hrd:=gY.out.zB j (by rw[List.length_set,Ci.out];omega)
  rw[List.length_set,Ci.out,hd]at hrd
  have hs:=aF (P:=Tryz.prog) 45 9 5 Tryz.underlying45 Tryz.underlying5 Tryz.underlying9 H (65 - j) hrd
  have hz:¬65 - j=0:=by omega
  have hj65b:(j:Int)≤65:=by omega
  clear hd hrd hu hi hj h16
  go_wp2
  go_ret2
  exact⟨rfl,HB2.out⟩
theorem aan (n:Nat) (hn:n<65536) (w:World) (hL:oI w):Calls Tryz.prog 351 #[.int .u64 (n:Int),.int .i64 16] w fun e w'=>e=.returned (.string (strOf (hx n)))∧Below w.heap.size w w':=by
 go_enter Tryz.func351,Tryz.ntmps351
 go_wp2_with fail
 refine(akT n hn _ hL).mono ?_
 rintro e w2 ⟨rfl,hb⟩
 go_wp2
 go_ret
 exact⟨rfl,hb⟩
theorem Qm (n:Nat) (hn:n<65536) (w:World) (hL:oI w):Calls Tryz.prog 344 #[.int .u64 (n:Int),.int .i64 16] w fun e w'=>e=.returned (.string (strOf (hx n)))∧Below w.heap.size w w':=by
 go_enter Tryz.func344,Tryz.ntmps344
 go_wp2_with fail
 refine(aan n hn _ hL).mono ?_
 rintro e w2 ⟨rfl,hb⟩
 go_wp2
 go_ret
 exact⟨rfl,hb⟩
end Go.Proofs.YtgamccijegollaaGreatDoor.jQ
namespace Go.Proofs.YtgamccijegollaaGreatDoor.WU
open Go.RowKit Base Dp oO wu O6 TJ O5 gU jQ
theorem afE:∀(f u:Nat) (acc:List UInt8),(hxs f u acc).length≤f+1+acc.length
 |0,u,acc=>by simp[hxs];omega
 |f+1,u,acc=>by
  unfold hxs
  split
  ·have:=afE f (u / 16) (lW (u%16)::acc)
   simp at this⊢
   omega
  ·simp;omega
theorem adN (n:Nat):(hx n).length≤4:=afE 3 n []
theorem XR (d:Nat) (h:d<16):lH 16 (lW d)=true∧dv (lW d)=d∧lW d≠58∧lW d≠46:=by
 have H:∀d:Fin 16,lH 16 (lW d.val)=true∧dv (lW d.val)=d.val∧lW d.val≠58∧lW d.val≠46:=by decide+kernel
 exact H ⟨d,h⟩
def jo:List (List UInt8)→List UInt8
 |[]=>[]
 |[x]=>x
 |x::y::r=>x++58::jo (y::r)
theorem QD:∀(xs:List (List UInt8)) (y:List UInt8),xs≠[]→jo (xs++[y])=jo xs++58::y
 |[],_,h=>absurd rfl h
 |[x],y,_=>rfl
 |x::z::r,y,_=>by
  show x++58::jo ((z::r)++[y])=x++58::jo (z::r)++58::y
  rw[QD (z::r) y (by simp)]
  simp
def jx (L:List Nat):List UInt8:=jo (L.map hx)
theorem aua:jx []=[]:=rfl
theorem amk (n:Nat):jx [n]=hx n:=rfl
theorem afL (L:List Nat) (n:Nat) (h:L≠[]):jx (L++[n])=jx L++58::hx n:=by
 unfold jx
 rw[List.map_append]
 exact QD _ _ (by simpa using h)
theorem KQ (L:List Nat):(jx L).length≤5*L.length:=by
 have H:∀M:List Nat,(jx M.reverse).length≤5*M.length:=by
  intro M
  induction M with
  |nil=>simp[jx,jo]
  |cons n M ih=>
   rw[List.reverse_cons]
   have:=adN n
   by_cases h:M.reverse=[]
   ·rw[h,List.nil_append,amk,List.length_cons]
    omega
   rw[afL _ _ h,List.length_append,List.length_cons,List.length_cons]
   omega
 have:=H L.reverse
 rwa[List.reverse_reverse,List.length_reverse]at this
theorem aeF (L:List Nat) (k:Nat) (h:k<L.length):L.take (k+1)=L.take k++[L[k]]:=List.take_succ_eq_append_getElem h
theorem QE (A:Option Addr) (n c:Nat) (L:List Nat) (w:World) (hr:aY w A n (aT L)) (h8:n≤8) (h6:∀x ∈ L,x<65536) (hL:oI w):
  Calls Tryz.prog 326 #[.slice A n c] w fun e w'=>e=.returned (.string (strOf (jx L)))∧Below w.heap.size w w':=by
 have hl:L.length=n:=by rw[←kN];exact hr.1
 have HM:=hid hl
 have HR:=hid hr
 have Y8:=hid hL
 have H6:=hid h6
 clear hr hL h6 hl
 go_enter Tryz.func326,Tryz.ntmps326
 go_wp2
 go_loopw [3,4,5,8] (fun vo _ _ vk wr=>∃(k:Nat) (X:ByteArray),k≤n∧vk=.int .i64 (k:Int)∧vo=.string X∧Hid (X=strOf (jx (L.take k)))∧Hid (Below w.heap.size w wr)) (fun _ _ _ vk _=>n - (intOf vk).toNat)
 case atStart=>exact⟨0,⟨#[]⟩,by omega,rfl,rfl,rfl,Below.refl _ _⟩
 case round=>
  obtain⟨k,X,hk,rfl,rfl,HX,HB⟩:=hrel
  by_cases hlt:k<n
  ·obtain ⟨b,off,rfl,_,_⟩:=HR.out.spot (by omega)
   obtain⟨x,hx⟩:∃x,L[k]'(by rw[HM.out];exact hlt)=x:=⟨_,rfl⟩
   have hcl:wr.cell? ⟨b,off+k,none⟩=some (.int .u16 (x:Int)):=by
    obtain⟨b',o',e1,_,hc'⟩:=(HR.out.below HB.out).2 k (by rw[kN,HM.out];exact hlt)
    cases e1
    rw[hc']
    simp[aT,hx]
   have hx6:x<65536:=by rw[←hx];exact H6.out _ (List.getElem_mem _)
   have HT:Hid (L.take (k+1)=L.take k++[x]):=by show _=_;rw[aeF L k (by rw[HM.out];exact hlt),hx]
   have hwx:IntKind.u64.wrap (x:Int)=(x:Int):=by simp[IntKind.wrap,IntKind.signed,IntKind.bits];omega
   have HX6:=hid hx6
   clear hx6
   have HXL:Hid (X.size≤40):=by
    show _≤_
    rw[HX.out,o9]
    have:=KQ (L.take k)
    rw[List.length_take]at this
    omega
   have hhl:=adN x
   clear hx
   obtain⟨Z,hZ⟩:∃Z,Z=strOf (jx (L.take (k+1))):=⟨_,rfl⟩
   have HZ:=hid hZ
   by_cases hk0:k=0
   ·have TA:=hid hk0
    have hk1:¬(0:Int)<(k:Int):=by omega
    clear hk0
    have a2:∀w:World,(Op.stringOp .add X (strOf (hx x))).run Tryz.prog w=.ok (.string Z) w:=fun w=>by
     rw[hZ,HT.out,HX.out,TA.out,List.take_zero,List.nil_append,amk,aua]
     exact aci [] (hx x) w (by simp;omega)
    clear hZ hhl
    go_wp2_with fail
    refine(Qm x HX6.out _ (Y8.out.below HB.out)).mono ?_
    rintro e w2 ⟨rfl,hb2⟩
    have HB2:Hid (Below w.heap.size w w2):=bel HB.out hb2
    clear hb2
    go_wp2
    go_roundw
    case rel=>exact⟨k+1,Z,by omega,by go_num,rfl,HZ.out,HB2.out⟩
    case measure=>simp[intOf];omega
   ·have hk1:(0:Int)<(k:Int):=by omega
    obtain⟨Y,hY⟩:∃Y,Y=strOf (jx (L.take k)++[58]):=⟨_,rfl⟩
    have a1:∀w:World,(Op.stringOp .add X ⟨#[58]⟩).run Tryz.prog w=.ok (.string Y) w:=fun w=>by
     rw[hY,HX.out]
     refine aci _ [58] w ?_
     have:=HXL.out
     rw[HX.out,o9]at this
     simp
     omega
    have a2:∀w:World,(Op.stringOp .add Y (strOf (hx x))).run Tryz.prog w=.ok (.string Z) w:=fun w=>by
     have hne:L.take k≠[]:=by
      intro h
      have:=congrArg List.length h
      rw[List.length_take,HM.out]at this
      simp at this
      omega
     rw[hZ,HT.out,afL _ _ hne,hY,show jx (L.take k)++58::hx x=(jx (L.take k)++[58])++hx x by simp]
     refine aci _ _ w ?_
     have:=HXL.out
     rw[HX.out,o9]at this
     rw[List.length_append]
     simp
     omega
    clear hZ hY hhl hk0
    go_wp2_with fail
    refine(Qm x HX6.out _ (Y8.out.below HB.out)).mono ?_
    rintro e w2 ⟨rfl,hb2⟩
    have HB2:Hid (Below w.heap.size w w2):=bel HB.out hb2
    clear hb2
    go_wp2
    go_roundw
    case rel=>exact⟨k+1,Z,by omega,by go_num,rfl,HZ.out,HB2.out⟩
    case measure=>simp[intOf];omega
  ·obtain rfl:k=n:=by omega
   have HE:Hid (X=strOf (jx L)):=by show _=_;rw[HX.out,List.take_of_length_le (by rw[HM.out];exact Nat.le_refl _)]
   go_wp2
   go_ret
   exact⟨by rw[HE.out];rfl,HB.out⟩
def run (Z:List Bool) (k:Nat):Nat:=((Z.drop k).takeWhile id).length
theorem anp {Z:List Bool} {k:Nat} (h:k<Z.length) (hz:Z[k]=true):run Z k=1+run Z (k+1):=by
 unfold run
 rw[List.drop_eq_getElem_cons h,List.takeWhile_cons,hz]
 simp
 omega
theorem awp {Z:List Bool} {k:Nat} (h:k<Z.length) (hz:Z[k]=false):run Z k=0:=by
 unfold run
 rw[List.drop_eq_getElem_cons h,List.takeWhile_cons,hz]
 rfl
theorem run_end {Z:List Bool} {k:Nat} (h:Z.length≤k):run Z k=0:=by
 unfold run
 rw[List.drop_eq_nil_of_le h]
 rfl
def goC (Z:List Bool):Nat→Nat→Nat→Nat→Nat×Nat
 |0,_,f,t=>(f,t)
 |fu+1,k,f,t=>if k<Z.length then(if t - f<run Z k then goC Z fu (k+run Z k+1) k (k+run Z k)else goC Z fu (k+run Z k+1) f t)else(f,t)
def Bz (Z:List Bool):Nat×Nat:=goC Z 9 0 0 0
def goR (Z:List Bool):Nat→Nat→Option Nat→Nat→Option Nat×Nat
 |0,_,f,l=>(f,l)
 |fu+1,k,f,l=>if k<Z.length then(if l<run Z k then goR Z fu (k+1) (some k) (run Z k)else goR Z fu (k+1) f l)else(f,l)
def atj (Z:List Bool):Option Nat×Nat:=goR Z 8 0 none 1
theorem Vx:∀b0 b1 b2 b3 b4 b5 b6 b7:Bool,(Bz [b0,b1,b2,b3,b4,b5,b6,b7]).1≤(Bz [b0,b1,b2,b3,b4,b5,b6,b7]).2∧(Bz [b0,b1,b2,b3,b4,b5,b6,b7]).2≤8∧(([b0,b1,b2,b3,b4,b5,b6,b7].take (Bz [b0,b1,b2,b3,b4,b5,b6,b7]).2).drop (Bz [b0,b1,b2,b3,b4,b5,b6,b7]).1).all id=true∧
  atj [b0,b1,b2,b3,b4,b5,b6,b7]=if (Bz [b0,b1,b2,b3,b4,b5,b6,b7]).2 - (Bz [b0,b1,b2,b3,b4,b5,b6,b7]).1<2 then(none,1)else(some (Bz [b0,b1,b2,b3,b4,b5,b6,b7]).1,(Bz [b0,b1,b2,b3,b4,b5,b6,b7]).2 - (Bz [b0,b1,b2,b3,b4,b5,b6,b7]).1):=by decide+kernel
def V8 (f:Nat→Nat):List Nat:=[f 0,f 1,f 2,f 3,f 4,f 5,f 6,f 7]
def zs (f:Nat→Nat):List Bool:=(V8 f).map (·==0)
theorem Wv (f:Nat→Nat):(zs f).length=8:=rfl
theorem eight (i:Nat) (h:i<8):i=0∨i=1∨i=2∨i=3∨i=4∨i=5∨i=6∨i=7:=by omega
theorem akC (f:Nat→Nat) (k:Nat) (h:k<8) (h2:k<(V8 f).length):(V8 f)[k]=f k:=by
 rcases eight k h with rfl|rfl|rfl|rfl|rfl|rfl|rfl|rfl<;>rfl
theorem aoe (f:Nat→Nat) (k:Nat) (h:k<8) (h2:k<(zs f).length):(zs f)[k]=(f k==0):=by
 rcases eight k h with rfl|rfl|rfl|rfl|rfl|rfl|rfl|rfl<;>rfl
def A8 (f:Nat→Nat):Value:=.agg #[.int .u16 (f 0:Int),.int .u16 (f 1:Int),.int .u16 (f 2:Int),.int .u16 (f 3:Int),.int .u16 (f 4:Int),.int .u16 (f 5:Int),.int .u16 (f 6:Int),.int .u16 (f 7:Int)]
theorem goC_end {Z:List Bool} {fu k f t:Nat} (h:Z.length≤k):goC Z fu k f t=(f,t):=by
 cases fu with
 |zero=>rfl
 |succ fu=>unfold goC;rw[if_neg (by omega)]
end Go.Proofs.YtgamccijegollaaGreatDoor.WU
namespace Go.Proofs.YtgamccijegollaaGreatDoor.L6
open Go.RowKit Base
structure Keep where
 says:Value→World→Prop
 stays:∀v w w',Below w.heap.size w w'→says v w→says v w'
def is (v:Value):Keep:=⟨fun u _=>u=v,fun _ _ _ _ h=>h⟩
def pg (g i:Nat):Keep:=is (.pointer (some ⟨g,i,none⟩))
def any:Keep:=⟨fun _ _=>True,fun _ _ _ _ h=>h⟩
def row (n:Nat) (xs:List Value):Keep:=⟨fun u w=>∃A c,u=.slice A n c∧n≤c∧c≤maxLen∧aY w A n xs,fun _ _ _ hb ⟨A,c,h1,h2,h3,h4⟩=>⟨A,c,h1,h2,h3,h4.below hb⟩⟩
def pick:List Keep→Nat→Keep
 |[],_=>any
 |r::_,0=>r
 |_::rs,n+1=>pick rs n
def upd (t:Nat→Value) (i:Nat) (v:Value) (k:Nat):Value:=if k=i then v else t k
def filled (t:Nat→Value):List Oper→Nat→Act→Act
 |[],_,a=>a
 |o::os,k,a=>filled t os (k+1) (a.put o.dst (t k))
def Have (R:List Keep) (t:Nat→Value) (w:World):List Nat→Prop
 |[]=>True
 |k::ks=>(pick R k).says (t k) w∧Have R t w ks
section
variable {P:Program} {md:Region.Mode} {ops:Array Oper} {Q:Exit→Act→World→Prop}
def Step (P:Program) (ops:Array Oper) (Q:Exit→Act→World→Prop) (A:(Nat→Value)→Act) (w0:World) (R:List Keep) (i:Nat) (o:Oper) (ns:List Nat):Prop:=
 ∀t w,Below w0.heap.size w0 w→Have R t w ns→∀K:Act→World→Prop,(∀v w',Below w.heap.size w w'→(pick R i).says v w'→K (A (upd t i v)) w')→
  if Region.wanted o (yielded ops (A t).tmps)=true then Oper.wp P o (A t) w K Q else K ((A t).put o.dst undef) w
def Steps (P:Program) (ops:Array Oper) (Q:Exit→Act→World→Prop) (A:(Nat→Value)→Act) (w0:World) (R:List Keep):Nat→List Oper→List (List Nat)→Prop
 |_,[],_=>True
 |k,o::os,ns=>Step P ops Q A w0 R k o (ns.headD [])∧Steps P ops Q A w0 R (k+1) os ns.tail
theorem Steps.at {A:(Nat→Value)→Act} {w0:World} {R:List Keep}:∀(os:List Oper) (k:Nat) (ns:List (List Nat)),Steps P ops Q A w0 R k os ns→∀j o,os[j]?=some o→Step P ops Q A w0 R (k+j) o (ns.getD j [])
 |[],_,_,_,j,o,h=>by simp at h
 |p::os,k,ns,h,0,o,e=>by
  simp at e
  subst e
  cases ns<;>exact h.1
 |p::os,k,ns,h,j+1,o,e=>by
  have:=Steps.at os (k+1) ns.tail h.2 j o (by simpa using e)
  rw[Nat.add_assoc,Nat.add_comm 1 j]at this
  cases ns<;>simpa using this
def DF (md:Region.Mode) (ops:Array Oper) (ns:List (List Nat)):Bool:=
 (List.range ops.size).all fun i=>match ops[i]? with
  |none=>false
  |some o=>(o.after.all fun e=> !Region.binds md e||decide (e.on<i))&&(ns.getD i []).all fun k=>o.after.any fun e=>Region.binds md e&&(e.on==k||(ns.getD e.on []).contains k)
theorem vK {ns:List (List Nat)} (h:DF md ops ns=true) {i:Nat} {o:Oper} (ho:ops[i]?=some o):(∀e ∈ o.after,Region.binds md e=true→e.on<i)∧∀k ∈ ns.getD i [],∃e ∈ o.after,Region.binds md e=true∧(e.on=k∨k ∈ ns.getD e.on []):=by
 have h1:=List.all_eq_true.1 h i (by simp only[List.mem_range];exact(Array.getElem?_eq_some_iff.1 ho).1)
 simp only[ho,Bool.and_eq_true]at h1
 obtain⟨h1,h2⟩:=h1
 constructor
 ·intro e he hb
  have:=Array.all_eq_true_iff_forall_mem.1 h1 e he
  simpa[hb]using this
 intro k hk
 have:=List.all_eq_true.1 h2 k hk
 obtain⟨e,he,h3⟩:=Array.any_eq_true'.1 this
 simp only[Bool.and_eq_true,Bool.or_eq_true,beq_iff_eq,List.contains_iff_mem]at h3
 exact⟨e,he,h3.1,h3.2⟩
def YV (ops:Array Oper) (listed:Array Bool):Nat:=(List.range ops.size).countP fun i=> !listed.getD i true
theorem wP {l:Array Bool} {i:Nat} (h:i<l.size) (d d':Bool):l.getD i d=l.getD i d':=by simp[Array.getD,h]
structure Inv (ops:Array Oper) (w0:World) (R:List Keep) (ns:List (List Nat)) (listed:Array Bool) (t:Nat→Value) (w:World):Prop where
 below:Below w0.heap.size w0 w
 size:listed.size=ops.size
 held:∀i,listed.getD i false=true→(pick R i).says (t i) w∧∀k ∈ ns.getD i [],listed.getD k false=true
theorem o8 {R:List Keep} {t:Nat→Value} {w:World}:∀ks:List Nat,(∀k ∈ ks,(pick R k).says (t k) w)→Have R t w ks
 |[],_=>trivial
 |k::ks,h=>⟨h k (by simp),o8 ks fun j hj=>h j (by simp[hj])⟩
theorem aB {R:List Keep} {t:Nat→Value} {w:World} {n:Nat} (h:Have R t w (List.range n)) (k:Nat) (hk:k<n):(pick R k).says (t k) w:=by
 have H:∀ks:List Nat,Have R t w ks→∀k ∈ ks,(pick R k).says (t k) w:=by
  intro ks
  induction ks with
  |nil=>intro _ k hk;cases hk
  |cons x xs ih=>
   intro h k hk
   rcases List.mem_cons.1 hk with rfl|hk
   ·exact h.1
   exact ih h.2 k hk
 exact H _ h k (by simpa using hk)
theorem uU {ns:List (List Nat)} (hB:DF md ops ns=true) {listed:Array Bool} (hs:listed.size=ops.size) (hr:Region.ready md ops listed=[]):∀n i,i<n→i<ops.size→listed.getD i false=true:=by
 intro n
 induction n with
 |zero=>intro i h;omega
 |succ n ih=>
  intro i hi hlt
  by_cases hn:listed.getD i false=true
  ·exact hn
  exfalso
  have ho:ops[i]?=some ops[i]:=Array.getElem?_eq_getElem hlt
  have:i ∈ Region.ready md ops listed:=mem_ready.2 ⟨by rw[wP (by omega) true false];simpa using hn,_,ho,fun e he hb=>by
   have:=(vK hB ho).1 e he hb
   exact ih e.on (by omega) (by omega)⟩
  rw[hr]at this
  cases this
theorem countP_set {listed:Array Bool} {i:Nat} (hs:listed.size=ops.size) (hi:i<ops.size) (hu:listed.getD i true=false):YV ops (listed.setIfInBounds i true)<YV ops listed:=by
 unfold YV
 have key:∀l:List Nat,l.countP (fun j=> !(listed.setIfInBounds i true).getD j true)≤l.countP (fun j=> !listed.getD j true)∧(i ∈ l→l.countP (fun j=> !(listed.setIfInBounds i true).getD j true)<l.countP (fun j=> !listed.getD j true)):=by
  intro l
  induction l with
  |nil=>simp
  |cons x l ih=>
   have hx:x=i∨x≠i:=Decidable.em _
   rcases hx with rfl|hx
   ·have h1:(listed.setIfInBounds x true).getD x true=true:=by simp[Array.getD]
    rw[List.countP_cons,List.countP_cons,h1,hu]
    simp only[Bool.not_true,Bool.not_false,Bool.false_eq_true,if_true,if_false]
    have:=ih.1
    exact⟨by omega,fun _=>by omega⟩
   have h1:(listed.setIfInBounds i true).getD x true=listed.getD x true:=getD_set_ne true (Ne.symm hx)
   rw[List.countP_cons,List.countP_cons,h1]
   refine⟨by omega,fun h=>?_⟩
   rcases List.mem_cons.1 h with h|h
   ·exact absurd h.symm hx
   have:=ih.2 h
   omega
 exact(key _).2 (by simpa using hi)
theorem aiZ {A:(Nat→Value)→Act} {w0:World} {R:List Keep} {ns:List (List Nat)} (hB:DF md ops ns=true) (steps:Steps P ops Q A w0 R 0 ops.toList ns)
  (fin:∀t w,Below w0.heap.size w0 w→Have R t w (List.range ops.size)→Q .normal (A t) w):
  ∀(fuel:Nat) (listed:Array Bool) (t:Nat→Value) (w:World),Inv ops w0 R ns listed t w→YV ops listed≤fuel→wpAny P md ops Q fuel listed (A t) w:=by
 have done:∀(listed:Array Bool) (t:Nat→Value) (w:World),Inv ops w0 R ns listed t w→Region.ready md ops listed=[]→Q .normal (A t) w:=fun listed t w h hr=>
  fin t w h.below (o8 _ fun k hk=>(h.held k (uU hB h.size hr (k+1) k (by omega) (by simpa using hk))).1)
 intro fuel
 induction fuel with
 | zero=>
  intro listed t w h hu
  have hr:Region.ready md ops listed=[]:=by
   cases e:Region.ready md ops listed with
   |nil=>rfl
   |cons i l=>
    have hi:i ∈ Region.ready md ops listed:=by rw[e];simp
    obtain⟨h0,o,ho,_⟩:=mem_ready.1 hi
    have:=countP_set h.size (Array.getElem?_eq_some_iff.1 ho).1 h0
    omega
  exact⟨hr,done listed t w h hr⟩
 | succ fuel ih=>
  intro listed t w h hu
  refine⟨done listed t w h,fun i hi=>?_⟩
  obtain⟨h0,o,ho,hall⟩:=mem_ready.1 hi
  have hlt:=(Array.getElem?_eq_some_iff.1 ho).1
  have wQ:∀k ∈ ns.getD i [],listed.getD k false=true:=fun k hk=>by
   obtain⟨e,he,hb,hk⟩:=(vK hB ho).2 k hk
   rcases hk with rfl|hk
   ·exact hall e he hb
   ·exact(h.held e.on (hall e he hb)).2 k hk
  have hst:=Steps.at ops.toList 0 ns steps i o (by simpa using ho)
  rw[Nat.zero_add]at hst
  refine wpOp_step ho fun K hK=>hst t w h.below (o8 _ fun k hk=>(h.held k (wQ k hk)).1) K fun v w' hb hv=>hK _ _ (ih _ _ _ ⟨h.below.trans (hb.mono h.below.size),by simpa using h.size,fun j hj=>?_⟩ ?_)
  ·by_cases hji:j=i
   ·subst hji
    refine⟨by simpa[upd]using hv,fun k hk=>getD_set_true (wQ k hk)⟩
   ·rw[getD_set_ne false (Ne.symm hji)]at hj
    have:=h.held j hj
    refine⟨by simp only[upd,if_neg hji];exact(pick R j).stays _ _ _ hb this.1,fun k hk=>getD_set_true (this.2 k hk)⟩
  ·have:=countP_set h.size hlt h0
   omega
def now (ops:List Oper) (a:Act) (k:Nat):Value:=match (ops[k]?).bind (·.dst)with|some d=>a.tmps.getD d undef|none=>undef
theorem put_now (a:Act) (d:Option Tmp) (v:Value) (h:∀x,d=some x→v=a.tmps.getD x undef):a.put d v=a:=by
 cases d with
 |none=>rfl
 |some x=>
  have:=h x rfl
  subst this
  unfold Act.put
  simp only
  congr 1
  apply Array.ext_getElem?
  intro i
  by_cases hi:x=i
  ·subst hi
   by_cases hx:x<a.tmps.size
   ·simp[hx]
   simp[hx]
  rw[Array.getElem?_setIfInBounds_ne hi]
theorem uY (a:Act) (all:List Oper):∀(os:List Oper) (k:Nat),(∀j,os[j]?=all[k+j]?)→filled (now all a) os k a=a
 |[],_,_=>rfl
 |o::os,k,h=>by
  have h0:all[k]?=some o:=by simpa using(h 0).symm
  have e:a.put o.dst (now all a k)=a:=put_now a _ _ fun x hx=>by unfold now;rw[h0];simp[hx]
  show filled (now all a) os (k+1) (a.put o.dst (now all a k))=a
  rw[e]
  exact uY a all os (k+1) fun j=>by have:=h (j+1);simpa[Nat.add_assoc,Nat.add_comm 1 j]using this
theorem aV {id:Nat} {a:Act} {w:World} {l:List Oper} (hm:P.follows .mixedOrders=true) (R:List Keep) (ns:List (List Nat)) (hB:DF .any l.toArray ns=true)
  (steps:Steps P l.toArray Q (fun t=>filled t l 0 a) w R 0 l ns)
  (fin:∀t w',Below w.heap.size w w'→Have R t w' (List.range l.length)→Q .normal (filled t l 0 a) w'):(Code.region id l.toArray true).wp P Q a w:=by
 refine wp_region_any hm ?_
 have h:=aiZ (P:=P) (Q:=Q) (md:=.any) (ops:=l.toArray) (A:=fun t=>filled t l 0 a) (w0:=w) (R:=R) (ns:=ns) hB (by simpa using steps) (by simpa using fin) l.length (Array.replicate l.length false) (now l a) {w with drawn:=w.drawn+1}
  ⟨⟨rfl,rfl,rfl,Nat.le_refl _,fun _ _=>rfl⟩,by simp,fun i hi=>by
   by_cases h:i<l.length<;>simp[Array.getD,h]at hi⟩ (by unfold YV;refine Nat.le_trans List.countP_le_length ?_;simp)
 have e:=uY a l l 0 (fun j=>by simp)
 have h':wpAny P .any l.toArray Q l.length (Array.replicate l.length false) (filled (now l a) l 0 a) {w with drawn:=w.drawn+1}:=h
 rw[e]at h'
 simpa using h'
end
end Go.Proofs.YtgamccijegollaaGreatDoor.L6
namespace Go.Proofs.YtgamccijegollaaGreatDoor.L6
open Go.RowKit Base
theorem ext_take (s:ByteArray) (k:Nat):s.extract 0 k=strOf (s.data.toList.take k):=by
 apply ByteArray.ext
 apply Array.ext'
 rw[ByteArray.data_extract]
 simp[strOf,Array.toList_extract,List.extract_eq_take_drop]
theorem ext_drop (s:ByteArray) (k n:Nat) (h:n=s.size):s.extract k n=strOf (s.data.toList.drop k):=by
 subst h
 apply ByteArray.ext
 apply Array.ext'
 rw[ByteArray.data_extract]
 simp only[strOf,Array.toList_extract,List.extract_eq_take_drop]
 rw[List.take_of_length_le]
 rw[List.length_drop,Array.length_toList]
 exact Nat.le_refl _
theorem iC {e:Int} (h0: -9223372036854775808≤e) (h1:e≤9223372036854775807):Value.int .i64 (IntKind.i64.wrap e)=.int .i64 e:=by
 rw[IntKind.wrap_i64]
 congr 1
 omega
section
variable {P:Program} {md:Region.Mode} {ops:Array Oper} {Q:Exit→Act→World→Prop}
theorem qR {listed:Array Bool} {i:Nat} (hs:listed.size=ops.size) (hi:i<ops.size) (hu:listed.getD i true=false):YV ops (listed.setIfInBounds i true)+1=YV ops listed:=by
 unfold YV
 have key:∀l:List Nat,l.Nodup→(i ∉ l→l.countP (fun j=> !(listed.setIfInBounds i true).getD j true)=l.countP (fun j=> !listed.getD j true))∧(i ∈ l→l.countP (fun j=> !(listed.setIfInBounds i true).getD j true)+1=l.countP (fun j=> !listed.getD j true)):=by
  intro l
  induction l with
  |nil=>simp
  |cons x l ih=>
   intro hnd
   rw[List.nodup_cons]at hnd
   have hx:x=i∨x≠i:=Decidable.em _
   rcases hx with rfl|hx
   ·have h1:(listed.setIfInBounds x true).getD x true=true:=by simp[Array.getD]
    rw[List.countP_cons,List.countP_cons,h1,hu]
    simp only[Bool.not_true,Bool.not_false,Bool.false_eq_true,if_true,if_false]
    have:=(ih hnd.2).1 hnd.1
    exact⟨fun h=>absurd (List.mem_cons_self) h,fun _=>by omega⟩
   have h1:(listed.setIfInBounds i true).getD x true=listed.getD x true:=getD_set_ne true (Ne.symm hx)
   rw[List.countP_cons,List.countP_cons,h1]
   refine⟨fun h=>?_,fun h=>?_⟩
   ·have:=(ih hnd.2).1 (fun hm=>h (List.mem_cons_of_mem _ hm))
    omega
   rcases List.mem_cons.1 h with h|h
   ·exact absurd h.symm hx
   have:=(ih hnd.2).2 h
   omega
 exact(key _ List.nodup_range).2 (by simpa using hi)
def aj (t:Nat→Value):Nat→List Oper→Nat→Act→Act
 |0,_,_,a=>a
 |_+1,[],_,a=>a
 |n+1,o::os,k,a=>aj t n os (k+1) (a.put o.dst (t k))
theorem Aa (t:Nat→Value):∀(n:Nat) (os:List Oper) (k:Nat) (a:Act),aj t n os k a=filled t (os.take n) k a
 |0,_,_,_=>rfl
 |_+1,[],_,_=>rfl
 |n+1,o::os,k,a=>by
  show aj t n os (k+1) (a.put o.dst (t k))=_
  rw[Aa t n os]
  rfl
def anL (md:Region.Mode) (ops:Array Oper) (ns:List (List Nat)) (n:Nat):Bool:=
 decide (n<ops.size)&&DF md ops ns&&((List.range n).all fun k=>(ns.getD n []).contains k)&&
 ((List.range ops.size).all fun i=>decide (i≤n)||match ops[i]? with
  |none=>false
  |some o=>o.after.any fun e=>Region.binds md e&&decide (n≤e.on))&&
 Region.seqB md ops (ops.size - n) n (List.replicate n true++List.replicate (ops.size - n) false).toArray
structure InvT (ops:Array Oper) (w0:World) (R:List Keep) (ns:List (List Nat)) (n:Nat) (listed:Array Bool) (t:Nat→Value) (w:World):Prop extends Inv ops w0 R ns listed t w where
 tail:∀i,n≤i→listed.getD i false=false
theorem S9 {A:(Nat→Value)→Act} {w0:World} {R:List Keep} {ns:List (List Nat)} {n:Nat} (hB:anL md ops ns n=true) (steps:Steps P ops Q A w0 R 0 (ops.toList.take n) ns)
  (fin:∀t w,Below w0.heap.size w0 w→Have R t w (List.range n)→wpList P ops Q (ops.toList.drop n) (A t) w):
  ∀(fuel:Nat) (listed:Array Bool) (t:Nat→Value) (w:World),InvT ops w0 R ns n listed t w→YV ops listed=fuel→wpAny P md ops Q fuel listed (A t) w:=by
 unfold anL at hB
 simp only[Bool.and_eq_true,decide_eq_true_eq]at hB
 obtain⟨⟨⟨⟨hn,hN⟩,hall⟩,hch⟩,hseq⟩:=hB
 -- all of the head is listed:the tail,in its order
 have done : ∀ (fuel : Nat) (listed : Array Bool) (t : Nat → Value) (w : World), InvT ops w0 R ns n listed t w → YV ops listed = fuel → (∀ i, i < n → listed.getD i false = true) → wpAny P md ops Q fuel listed (A t) w := by
  intro fuel listed t w h hu hl
  have he:listed=(List.replicate n true++List.replicate (ops.size - n) false).toArray:=by
   apply Array.ext
   ·simp[h.size];omega
   ·intro i h1 h2
    have hsz:=h.size
    simp only[List.getElem_toArray]
    by_cases hi:i<n
    ·have:=hl i hi
     simp[Array.getD,h1]at this
     rw[List.getElem_append_left (by simpa using hi)]
     simpa using this
    ·have:=h.tail i (by omega)
     simp[Array.getD,h1]at this
     rw[List.getElem_append_right (by simpa using hi)]
     simpa using this
  have hf:fuel=(ops.toList.drop n).length:=by
   rw[←hu]
   unfold YV
   have e:ops.size=n+(ops.size - n):=by omega
   rw[e,List.range_add,List.countP_append]
   have z1:(List.range n).countP (fun i=> !listed.getD i true)=0:=by
    rw[List.countP_eq_zero]
    intro i hi
    have hin:=List.mem_range.1 hi
    rw[wP (by rw[h.size];omega) true false,hl i hin]
    decide
   have z2:((List.range (ops.size - n)).map (n+·)).countP (fun i=> !listed.getD i true)=((List.range (ops.size - n)).map (n+·)).length:=by
    rw[List.countP_eq_length]
    intro i hi
    obtain⟨j,hj,rfl⟩:=List.mem_map.1 hi
    have hjn:=List.mem_range.1 hj
    rw[wP (by rw[h.size];omega) true false,h.tail (n+j) (by omega)]
    rfl
   rw[z1,z2]
   simp
  have hw:=fin t w h.below (o8 _ fun k hk=>(h.held k (hl k (by simpa using hk))).1)
  rw[hf]
  refine wpAny_of_seq (md:=md) (ops.toList.drop n) n listed (A t) w (fun j=>by simp[List.getElem?_drop]) ?_ hw
  rw[he]
  simpa using hseq
 intro fuel
 induction fuel with
 |zero=>
  intro listed t w h hu
  refine done 0 listed t w h hu fun i hi=>?_
  cases e:listed.getD i false with
  |true=>rfl
  |false=>
   have:=qR h.size (show i<ops.size by omega) (by rw[wP (by rw[h.size];omega) true false];exact e)
   omega
 | succ fuel ih=>
  intro listed t w h hu
  by_cases hl:∀i,i<n→listed.getD i false=true
  ·exact done (fuel+1) listed t w h hu hl
  have hr0:Region.ready md ops listed≠[]:=fun hr=>hl fun i hi=>uU hN h.size hr (i+1) i (by omega) (by omega)
  refine⟨fun h0=>absurd h0 hr0,fun i hi=>?_⟩
  obtain⟨h0,o,ho,hafter⟩:=mem_ready.1 hi
  have hlt:=(Array.getElem?_eq_some_iff.1 ho).1
  have wQ:∀k ∈ ns.getD i [],listed.getD k false=true:=fun k hk=>by
   obtain⟨e,he,hb,hk⟩:=(vK hN ho).2 k hk
   rcases hk with rfl|hk
   ·exact hafter e he hb
   ·exact(h.held e.on (hafter e he hb)).2 k hk
  have hin:i<n:=by
   rcases Nat.lt_trichotomy i n with hlt'|rfl|hgt
   ·exact hlt'
   ·exact absurd (fun k hk=>wQ k (by
     have:=List.all_eq_true.1 hall k (List.mem_range.2 hk)
     simpa using this)) hl
   ·have h1:=List.all_eq_true.1 hch i (List.mem_range.2 hlt)
    simp only[ho,Bool.or_eq_true,decide_eq_true_eq]at h1
    rcases h1 with h1|h1
    ·omega
    ·obtain⟨e,he,hb⟩:=Array.any_eq_true'.1 h1
     simp only[Bool.and_eq_true,decide_eq_true_eq]at hb
     have h2:=hafter e he hb.1
     rw[h.tail e.on hb.2]at h2
     cases h2
  have hst:=Steps.at (ops.toList.take n) 0 ns steps i o (by rw[List.getElem?_take,if_pos hin];simpa using ho)
  rw[Nat.zero_add]at hst
  refine wpOp_step ho fun K hK=>hst t w h.below (o8 _ fun k hk=>(h.held k (wQ k hk)).1) K fun v w' hb hv=>hK _ _ (ih _ _ _ ⟨⟨h.below.trans (hb.mono h.below.size),by simpa using h.size,fun j hj=>?_⟩,fun j hj=>?_⟩ ?_)
  ·by_cases hji:j=i
   ·subst hji
    refine⟨by simpa[upd]using hv,fun k hk=>getD_set_true (wQ k hk)⟩
   ·rw[getD_set_ne false (Ne.symm hji)]at hj
    have:=h.held j hj
    refine⟨by simp only[upd,if_neg hji];exact(pick R j).stays _ _ _ hb this.1,fun k hk=>getD_set_true (this.2 k hk)⟩
  ·rw[getD_set_ne false (by omega)]
   exact h.tail j hj
  ·have:=qR h.size hlt h0
   omega
theorem bC {id:Nat} {a:Act} {w:World} {l:List Oper} (hm:P.follows .mixedOrders=true) (n:Nat) (R:List Keep) (ns:List (List Nat)) (hB:anL .any l.toArray ns n=true)
  (steps:Steps P l.toArray Q (fun t=>aj t n l 0 a) w R 0 (l.take n) ns)
  (fin:∀t w',Below w.heap.size w w'→Have R t w' (List.range n)→wpList P l.toArray Q (l.drop n) (aj t n l 0 a) w'):(Code.region id l.toArray true).wp P Q a w:=by
 refine wp_region_any hm ?_
 have h:=S9 (P:=P) (Q:=Q) (md:=.any) (ops:=l.toArray) (A:=fun t=>aj t n l 0 a) (w0:=w) (R:=R) (ns:=ns) (n:=n) hB (by simpa using steps) (by simpa using fin) l.length (Array.replicate l.length false) (now (l.take n) a) {w with drawn:=w.drawn+1}
  ⟨⟨⟨rfl,rfl,rfl,Nat.le_refl _,fun _ _=>rfl⟩,by simp,fun i hi=>by
   by_cases h:i<l.length<;>simp[Array.getD,h]at hi⟩,fun i _=>by by_cases h:i<l.length<;>simp[Array.getD,h]⟩ (by
   unfold YV
   have:(List.range l.toArray.size).countP (fun i=> !(Array.replicate l.length false).getD i true)=(List.range l.toArray.size).length:=by
    rw[List.countP_eq_length]
    intro i hi
    have hi':i<l.length:=by simpa using hi
    simp[Array.getD,hi']
   rw[this]
   simp)
 have e:aj (now (l.take n) a) n l 0 a=a:=by rw[Aa];exact uY a (l.take n) (l.take n) 0 (fun j=>by simp)
 have h':wpAny P .any l.toArray Q l.length (Array.replicate l.length false) (aj (now (l.take n) a) n l 0 a) {w with drawn:=w.drawn+1}:=h
 rw[e]at h'
 simpa using h'
end
end Go.Proofs.YtgamccijegollaaGreatDoor.L6
namespace Go.Proofs.YtgamccijegollaaGreatDoor.nP
open Go.RowKit Base Dp oO wu O6 TJ O5 gU jQ WU L6
theorem akW (x:Nat):((x:Int)==0)=(x==0):=by
 cases h:(x==0)with
 | true => have:x=0:=by simpa using h
           subst this;rfl
 | false => have:x≠0:=by simpa using h
            rw[beq_eq_false_iff_ne];omega
theorem Xo {w:World} (f:Nat→Nat):Box (w.alloc (.cells #[.int .u16 (f 0:Int),.int .u16 (f 1:Int),.int .u16 (f 2:Int),.int .u16 (f 3:Int),.int .u16 (f 4:Int),.int .u16 (f 5:Int),.int .u16 (f 6:Int),.int .u16 (f 7:Int)] 304)) w.heap.size 304 (V8 f):=heap_alloc_new _ _
theorem aaL (f : Nat → Nat) (w : World) : Calls Tryz.prog 325 #[A8 f] w fun e w' => e = .returned (.tuple #[.int .i64 ((Bz (zs f)).1 : Int), .int .i64 ((Bz (zs f)).2 : Int)]) ∧ Below w.heap.size w w' := by
 obtain⟨Z,hZ⟩:∃Z,Z=zs f:=⟨_,rfl⟩
 have HZ:=hid hZ
 rw[←hZ]
 have Am:Hid (Z.length=8):=by show _=_;rw[hZ];rfl
 clear hZ
 unfold A8
 go_enter Tryz.func325,Tryz.ntmps325
 go_upto_region 1 with(fail)
 generalize hw1:w.alloc _=w1
 have HB1:Hid (Below w.heap.size w w1):=by
  show Below _ _ _
  rw[←hw1]
  exact(Below.refl _ _).alloc (Nat.le_refl _) _
 have kP:Hid (Box w1 w.heap.size 304 (V8 f)):=by
  show Box _ _ _ _
  rw[←hw1]
  exact Xo f
 clear hw1
 go_wp2
 go_loopw [2,3,4,5] (fun vf vt vk _ wr=>∃(fu k a b:Nat),vk=.int .i64 (k:Int)∧vf=.int .i64 (a:Int)∧vt=.int .i64 (b:Int)∧k≤9∧a≤b∧b≤8∧9≤fu+k∧wr=w1∧Hid (Bz Z=goC Z fu k a b)) (fun _ _ vk _ _=>9 - (intOf vk).toNat)
 case atStart=>exact⟨9,0,0,0,rfl,rfl,rfl,by omega,by omega,by omega,by omega,rfl,rfl⟩
 case round=>
  obtain⟨fu,k0,a,b,rfl,rfl,rfl,hk9,hab,hb8,hfu,rfl,HW⟩:=hrel
  by_cases hlt:k0<8
  ·obtain ⟨fu',rfl⟩:∃fu',fu=fu'+1:=⟨fu - 1,by omega⟩
   have hfu2:9≤fu'+(k0+1):=by omega
   clear hfu
   go_wp2
   go_loopw [4] (fun vk wx=>∃k:Nat,k0≤k∧k≤8∧vk=.int .i64 (k:Int)∧wx=wr∧Hid (run Z k0=(k - k0)+run Z k)) (fun vk _=>8 - (intOf vk).toNat)
   case atStart=>exact⟨k0,by omega,by omega,rfl,rfl,by show _=_;omega⟩
   case round =>
    obtain⟨k,hk0,hk8,rfl,rfl,HR⟩:=hrel
    by_cases hk:k<8
    ·have hc0:=kP.out.cell k (by show k<8;exact hk)
     rw[akC f k hk]at hc0
     have hzk:Z[k]'(by rw[Am.out];exact hk)=(f k==0):=by
      have:=aoe f k hk (by rw[Wv];exact hk)
      simp only[HZ.out]
      exact this
     have HZK:=hid hzk
     obtain⟨x,hx⟩:∃x,f k=x:=⟨_,rfl⟩
     rw[hx]at hc0 HZK
     have hk8i:(k:Int)<8:=by omega
     clear hx hzk
     by_cases hx0:x=0
     ·subst hx0
      have HR2:Hid (run Z k0=(k+1 - k0)+run Z (k+1)):=by
       show _=_
       rw[HR.out,anp (by rw[Am.out];exact hk) (by rw[HZK.out];rfl)]
       omega
      rw[show((0:Nat):Int)=0 from rfl]at hc0
      go_wp2
      go_roundw
      case rel=>exact⟨k+1,by omega,by omega,by go_num,by first|rfl|trivial,HR2.out⟩
      case measure=>simp[intOf];omega
     have hxb:((x:Int)==0)=false:=by rw[akW];simpa using hx0
     have hxn:¬(x:Int)=0:=by omega
     have HRE:Hid (run Z k0=k - k0):=by
      show _=_
      rw[HR.out,awp (by rw[Am.out];exact hk) (by rw[HZK.out];simpa using hx0)]
      rfl
     clear hx0
     by_cases hgt:b - a<k - k0
     ·have HW2:Hid (Bz Z=goC Z fu' (k+1) k0 k):=by
       show _=_
       rw[HW.out]
       conv=>lhs;unfold goC
       rw[if_pos (by rw[Am.out];exact hlt),HRE.out,if_pos hgt,show k0+(k - k0)=k by omega]
      have hgi:(b:Int) - (a:Int)<(k:Int) - (k0:Int):=by omega
      have hki:(k0:Int)≤(k:Int):=by omega
      have hai:(a:Int)≤(b:Int):=by omega
      clear hgt
      go_wp2
      go_roundw
      case rel=>exact⟨fu',k+1,k0,k,by go_num,rfl,rfl,by omega,by omega,by omega,by omega,by first|rfl|trivial,HW2.out⟩
      case measure=>simp[intOf];omega
     have HW2:Hid (Bz Z=goC Z fu' (k+1) a b):=by
      show _=_
      rw[HW.out]
      conv=>lhs;unfold goC
      rw[if_pos (by rw[Am.out];exact hlt),HRE.out,if_neg hgt,show k0+(k - k0)=k by omega]
     have hgi:¬(b:Int) - (a:Int)<(k:Int) - (k0:Int):=by omega
     clear hgt
     go_wp2
     go_roundw
     case rel=>exact⟨fu',k+1,a,b,by go_num,rfl,rfl,by omega,by omega,by omega,by omega,by first|rfl|trivial,HW2.out⟩
     case measure=>simp[intOf];omega
    obtain rfl:k=8:=by omega
    have HRE:Hid (run Z k0=8 - k0):=by show _=_;rw[HR.out,run_end (by rw[Am.out];exact Nat.le_refl _)];rfl
    by_cases hgt:b - a<8 - k0
    ·have HW2:Hid (Bz Z=goC Z fu' (8+1) k0 8):=by
      show _=_
      rw[HW.out]
      conv=>lhs;unfold goC
      rw[if_pos (by rw[Am.out];exact hlt),HRE.out,if_pos hgt,show k0+(8 - k0)=8 by omega]
     have hgi:(b:Int) - (a:Int)<8 - (k0:Int):=by omega
     have hki:(k0:Int)≤8:=by omega
     have hai:(a:Int)≤(b:Int):=by omega
     clear hgt
     go_wp2
     go_roundw
     case rel=>exact⟨fu',8+1,k0,8,by go_num,rfl,rfl,by omega,by omega,by omega,by omega,by first|rfl|trivial,HW2.out⟩
     case measure=>simp[intOf];omega
    have HW2:Hid (Bz Z=goC Z fu' (8+1) a b):=by
     show _=_
     rw[HW.out]
     conv=>lhs;unfold goC
     rw[if_pos (by rw[Am.out];exact hlt),HRE.out,if_neg hgt,show k0+(8 - k0)=8 by omega]
    have hgi:¬(b:Int) - (a:Int)<8 - (k0:Int):=by omega
    clear hgt
    go_wp2
    go_roundw
    case rel=>exact⟨fu',8+1,a,b,by go_num,rfl,rfl,by omega,by omega,by omega,by omega,by first|rfl|trivial,HW2.out⟩
    case measure=>simp[intOf];omega
  have HE:Hid (Bz Z=(a,b)):=by show _=_;rw[HW.out];exact goC_end (by rw[Am.out];omega)
  have hk8i:¬(k0:Int)<8:=by omega
  go_wp2
  go_ret2
  exact⟨by rw[HE.out];rfl,HB1.out⟩
theorem LC (f:Nat→Nat):(Bz (zs f)).1≤(Bz (zs f)).2∧(Bz (zs f)).2≤8:=by
 have:=Vx (f 0==0) (f 1==0) (f 2==0) (f 3==0) (f 4==0) (f 5==0) (f 6==0) (f 7==0)
 exact⟨this.1,this.2.1⟩
def prt (f:Nat→Nat):List UInt8:=if (Bz (zs f)).2 - (Bz (zs f)).1<2 then jx (V8 f)else jx ((V8 f).take (Bz (zs f)).1)++[58,58]++jx ((V8 f).drop (Bz (zs f)).2)
theorem Kw {w:World} {g:Nat} {t:TypeId} {L:List Nat} (h:Box w g t L):aY w (some ⟨g,0,none⟩) L.length (aT L):=
 aY.jF (kN L) (Array.getElem?_eq_some_iff.1 h).1 (fun j hj=>by
  rw[Nat.zero_add,h.cell j (by rw[kN]at hj;exact hj)]
  simp[aT])
theorem W9 {f:Nat→Nat} (h:∀i,f i<65536):∀x ∈ V8 f,x<65536:=by
 intro x hx
 simp only[V8,List.mem_cons,List.not_mem_nil,or_false]at hx
 rcases hx with rfl|rfl|rfl|rfl|rfl|rfl|rfl|rfl<;>exact h _
theorem print_any (f:Nat→Nat) (h6:∀i,f i<65536) (w:World) (hL:oI w):Calls Tryz.prog 303 #[A8 f] w fun e w'=>e=.returned (.string (strOf (prt f)))∧Below w.heap.size w w':=by
 obtain⟨P,hP⟩:∃P,P=prt f:=⟨_,rfl⟩
 rw[←hP]
 have Y8:=hid hL
 have H6:=hid (W9 h6)
 have hab:=LC f
 have hlq:=fun w=>aaL f w
 unfold prt at hP
 unfold A8 at hlq⊢
 obtain⟨a,ha⟩:∃a,a=(Bz (zs f)).1:=⟨_,rfl⟩
 obtain⟨b,hb⟩:∃b,b=(Bz (zs f)).2:=⟨_,rfl⟩
 rw[←ha,←hb]at hP hab
 have hlq2:∀w,Calls Tryz.prog 325 #[.agg #[.int .u16 (f 0:Int),.int .u16 (f 1:Int),.int .u16 (f 2:Int),.int .u16 (f 3:Int),.int .u16 (f 4:Int),.int .u16 (f 5:Int),.int .u16 (f 6:Int),.int .u16 (f 7:Int)]] w fun e w'=>e=.returned (.tuple #[.int .i64 (a:Int),.int .i64 (b:Int)])∧Below w.heap.size w w':=by
  intro w
  rw[ha,hb]
  exact hlq w
 have HLQ:=hid hlq2
 obtain⟨hab1,hab2⟩:=hab
 have HP:=hid hP
 clear hlq hlq2 ha hb hL h6 hP
 go_enter Tryz.func303,Tryz.ntmps303
 go_upto_region 1 with(fail)
 generalize hw1:w.alloc _=w1
 have HB1:Hid (Below w.heap.size w w1):=by
  show Below _ _ _
  rw[←hw1]
  exact(Below.refl _ _).alloc (Nat.le_refl _) _
 have kP:Hid (Box w1 w.heap.size 304 (V8 f)):=by
  show Box _ _ _ _
  rw[←hw1]
  exact Xo f
 clear hw1
 obtain⟨c0,c1,c2,c3,c4,c5,c6,c7⟩:=dK kP.out f rfl
 go_wp2_with fail
 refine(HLQ.out _).mono ?_
 rintro e w2 ⟨rfl,hb2⟩
 have HB2:Hid (Below w.heap.size w w2):=bel HB1.out hb2
 have gY:=hid (kP.out.below hb2)
 have hab3:(a:Int)≤(b:Int):=by omega
 have hb8i:(b:Int)≤8:=by omega
 clear hb2 c0 c1 c2 c3 c4 c5 c6 c7
 by_cases hlt:b - a<2
 ·have hlti:(b:Int) - (a:Int)<2:=by omega
  have HE:Hid (P=jx (V8 f)):=by show _=_;rw[HP.out,if_pos hlt]
  clear hlt
  go_wp2_with fail
  refine(QE _ 8 8 (V8 f) _ (Kw gY.out) (Nat.le_refl _) H6.out (Y8.out.below HB2.out)).mono ?_
  rintro e w3 ⟨rfl,hb3⟩
  go_wp2
  go_ret
  exact⟨by rw[HE.out];rfl,bel HB2.out hb3⟩
 have hlti:¬(b:Int) - (a:Int)<2:=by omega
 have ha8:a≤8:=by omega
 obtain⟨P1,hP1⟩:∃P1,P1=strOf (jx ((V8 f).take a)):=⟨_,rfl⟩
 obtain⟨P2,hP2⟩:∃P2,P2=strOf (jx ((V8 f).take a)++[58,58]):=⟨_,rfl⟩
 obtain⟨P3,hP3⟩:∃P3,P3=strOf (jx ((V8 f).drop b)):=⟨_,rfl⟩
 obtain⟨P4,hP4⟩:∃P4,P4=strOf P:=⟨_,rfl⟩
 have hl1:=KQ ((V8 f).take a)
 have hl2:=KQ ((V8 f).drop b)
 rw[List.length_take]at hl1
 rw[List.length_drop]at hl2
 have h8l:(V8 f).length=8:=rfl
 rw[h8l]at hl1 hl2
 have a1:∀w:World,(Op.stringOp .add P1 ⟨#[58,58]⟩).run Tryz.prog w=.ok (.string P2) w:=fun w=>by
  rw[hP1,hP2]
  exact aci _ [58,58] w (by simp;omega)
 have a2:∀w:World,(Op.stringOp .add P2 P3).run Tryz.prog w=.ok (.string P4) w:=fun w=>by
  rw[hP2,hP3,hP4,HP.out,if_neg hlt]
  exact aci _ _ w (by rw[List.length_append];simp;omega)
 have yc:=hid hP1
 have Zb:=hid hP3
 have HE:Hid (P4=strOf P):=hP4
 have HT:Hid (aY w2 (some ⟨w.heap.size,0,none⟩) a (aT ((V8 f).take a))):=by
  have:=(Kw gY.out).upto a (by show a≤8;omega)
  have e:aT ((V8 f).take a)=(aT (V8 f)).take a:=by simp[aT]
  show aY _ _ _ _
  rw[e]
  exact this
 have HD:Hid (aY w2 (some ⟨w.heap.size,b,none⟩) (8 - b) (aT ((V8 f).drop b))):=by
  have:=(Kw gY.out).cut b (by show b≤8;omega)
  have e:aT ((V8 f).drop b)=(aT (V8 f)).drop b:=by simp[aT]
  show aY _ _ _ _
  rw[e]
  rw[show(V8 f).length=8 from rfl,Nat.zero_add]at this
  exact this
 have MS:Hid (∀x ∈ (V8 f).take a,x<65536):=fun x hx=>H6.out x (List.mem_of_mem_take hx)
 have cu:Hid (∀x ∈ (V8 f).drop b,x<65536):=fun x hx=>H6.out x (List.mem_of_mem_drop hx)
 clear hlt hP1 hP2 hP3 hP4 hl1 hl2 h8l
 go_wp2_with fail
 refine aV (by kernel_rfl) [is (.int .i64 (a:Int)),is (.slice (some ⟨w.heap.size,0,none⟩) a 8),is (.string P1),is (.string P2),is (.int .i64 (b:Int)),row (8 - b) (aT ((V8 f).drop b)),is (.string P3),is (.string P4),is (.string P4)] [[],[0],[1],[2],[],[4],[5],[3,6],[7]] (by kernel_rfl) ?_ ?_
 ·refine ⟨?_,?_,?_,?_,?_,?_,?_,?_,?_,trivial⟩
  all_goals(intro t wq hbq hh K hK;simp only[filled,upd,Have,is,any,row,pick,Act.put,List.setIfInBounds_toArray,List.set_cons_zero,List.set_cons_succ,Nat.reduceAdd,Nat.reduceEqDiff,reduceIte,List.tail_cons,List.headD_cons]at hh hK⊢)
  ·clear hh
   go_simp
   exact hK _ _ blr rfl
  ·have e0:=hh.1
   clear hh
   simp only[e0]at hK⊢
   have ha1:(a:Int)≤8:=by omega
   have ha0:(0:Int)≤(a:Int):=by omega
   go_simp
   exact hK _ _ blr rfl
  ·have e1:=hh.1
   clear hh
   simp only[e1]at hK⊢
   go_simp
   refine(QE _ a 8 ((V8 f).take a) _ (HT.out.below hbq) (by omega) MS.out (Y8.out.below (HB2.out.trans (hbq.mono HB2.out.size)))).mono ?_
   rintro e w5 ⟨rfl,hb5⟩
   rw[←yc.out]
   exact hK _ _ hb5 rfl
  iterate 2
   ·try simp only[hh]at hK⊢
    clear hh
    go_simp
    exact hK _ _ blr rfl
  ·have e4:=hh.1
   clear hh
   simp only[e4]at hK⊢
   have hb1:(b:Int)≤8:=by omega
   have hb0:(0:Int)≤(b:Int):=by omega
   by_cases hb8:b=8
   ·have hz:8 - b=0:=by omega
    simp only[hb8]at hK
    go_simp
    exact hK _ _ blr ⟨_,_,rfl,by omega,by unfold maxLen;omega,by rw[List.drop_eq_nil_of_le (by show 8≤8;omega)];exact aY.nil _⟩
   have hz:¬8 - b=0:=by omega
   have hz2:¬8=b:=by omega
   go_simp
   exact hK _ _ blr ⟨_,_,rfl,Nat.le_refl _,by unfold maxLen;omega,HD.out.below hbq⟩
  ·have e5:=hh.1
   clear hh
   obtain⟨A5,c5,e5,hc5,hm5,hr5⟩:=e5
   simp only[e5]at hK⊢
   go_simp
   refine(QE A5 (8 - b) c5 ((V8 f).drop b) _ hr5 (by omega) cu.out (Y8.out.below (HB2.out.trans (hbq.mono HB2.out.size)))).mono ?_
   rintro e w5 ⟨rfl,hb5⟩
   rw[←Zb.out]
   exact hK _ _ hb5 rfl
  ·have e3:=hh.1
   have e6:=hh.2.1
   clear hh
   simp only[e3,e6]at hK⊢
   go_simp
   first|exact hK _ _ blr rfl|exact hK _ _ blr trivial
  try simp only[hh]at hK⊢
  clear hh
  go_simp
  exact hK _ _ blr rfl
 intro t wq hbq hh
 have f8:=aB hh 8 (by decide)
 simp only[pick]at f8
 replace f8:t 8=(.string P4):=f8
 clear hh
 simp only[filled,upd,Have,is,any,row,pick,Act.put,List.setIfInBounds_toArray,List.set_cons_zero,List.set_cons_succ,Nat.reduceAdd,Nat.reduceEqDiff,reduceIte]
 simp only[f8]
 go_wp2
 go_ret
 exact⟨by rw[←HE.out];rfl,HB2.out.trans (hbq.mono HB2.out.size)⟩
end Go.Proofs.YtgamccijegollaaGreatDoor.nP
namespace Go.Proofs.YtgamccijegollaaGreatDoor.cO
open Go.RowKit Base
def low (c:UInt8):UInt8:=if 65≤c.toNat∧c.toNat≤90 then c+32 else c
def lower (l:List UInt8):List UInt8:=l.map low
def wU (l:List UInt8) (k:Nat):List UInt8:=(l.take k).map low++l.drop k
theorem pz (l:List UInt8) (k:Nat):(wU l k).length=l.length:=by simp[wU];omega
theorem Vy (l:List UInt8) (k:Nat) (h:k<l.length):(wU l k)[k]'(by rw[pz];exact h)=l[k]:=by
 have:k≤l.length:=by omega
 simp[wU,List.getElem_append,this,Nat.min_eq_left this]
theorem QK (l:List UInt8) (k:Nat) (h:k<l.length):wU l (k+1)=(wU l k).set k (low l[k]):=by
 unfold wU
 apply List.ext_getElem
 ·simp;omega
 intro i h1 h2
 simp only[List.getElem_append,List.getElem_set,List.length_map,List.length_take,List.getElem_map,List.getElem_take,List.getElem_drop]
 by_cases a:i<k
 ·rw[dif_pos (by omega),if_neg (by omega),dif_pos (by omega)]
 by_cases b:i=k
 ·subst b
  rw[dif_pos (by omega),if_pos rfl]
 rw[dif_neg (by omega),if_neg (by omega),dif_neg (by omega)]
 congr 1
 omega
theorem ahW (l:List UInt8):wU l l.length=lower l:=by simp[wU,lower]
theorem adV (l:List UInt8):wU l 0=l:=by simp[wU]
theorem afP (c:UInt8) (h1:65≤(c.toNat:Int)) (h2:(c.toNat:Int)≤90):((low c).toNat:Int)=(c.toNat:Int)+32:=by
 unfold low;rw[if_pos (by omega)];simp[UInt8.toNat_add];omega
theorem amq (c:UInt8) (h:¬(65≤(c.toNat:Int)∧(c.toNat:Int)≤90)):low c=c:=by
 unfold low;rw[if_neg (by omega)]
theorem set_self {l:List UInt8} {k:Nat} (h:k<l.length) (c:UInt8) (e:l[k]=c):l.set k c=l:=by subst e;simp
theorem gI (s:ByteArray) (w:World) (hs:s.size≤maxLen):Calls Tryz.prog 113 #[.string s] w fun e w'=>e=.returned (.string (strOf (lower s.data.toList)))∧Below w.heap.size w w':=by
 unfold maxLen at hs
 have hcv:=fun(w:World) s=>run_bytes_of_string (P:=Tryz.prog) w 9 45 5 s Tryz.underlying9 Tryz.underlying45 Tryz.underlying5
 have Gh:Hid (s.size≤grownCap w s.size 0 5):=grownCap_ge w s.size 0 5
 go_enter Tryz.func113,Tryz.ntmps113
 go_wp2
 clear hcv
 go_loopw [4,5,10] (fun _ _ i wr=>∃k:Nat,k≤s.size∧i=.int .i64 k∧oK wr w.heap.size 5 (wU s.data.toList k)∧Below w.heap.size w wr) (fun _ _ i _=>s.size - (intOf i).toNat)
 case atStart=>exact⟨0,Nat.zero_le _,rfl,(by rw[adV];exact oK.made w s 5 _ Gh.out),((Below.refl _ _).alloc (Nat.le_refl _) _).drew⟩
 case round =>
  obtain⟨k,hk,rfl,hrow,hbel⟩:=hrel
  by_cases hlt:k<s.size
  ·obtain ⟨c,hcs⟩:∃c:UInt8,c=s.data.toList[k]:=⟨_,rfl⟩
   have hc:wr.cell? ⟨w.heap.size,k,none⟩=some (.int .u8 (c.toNat:Int)):=by
    rw[hcs,hrow.cell k (by rw[pz];exact hlt)]
    simp only[Vy s.data.toList k hlt]
   have hf:=hrow.frozen k (by rw[pz];exact hlt)
   have HC:=hid hcs
   clear hcs
   have HR:=hid hrow
   clear hrow
   by_cases hA:65≤(c.toNat:Int)∧(c.toNat:Int)≤90
   ·obtain⟨hA1,hA2⟩:=hA
    go_wp2
    go_roundw
    case rel=>exact⟨k+1,by omega,by go_num,by
     have:=HR.out.set k (low c)
     rw[afP c hA1 hA2]at this
     rw[QK s.data.toList k hlt,←HC.out]
     exact this,hbel.setCell (Nat.le_refl _) _⟩
    case measure=>simp[intOf];omega
   have hlow:=amq c hA
   have HL:=hid hlow
   clear hlow
   go_wp2
   all_goals
    go_roundw
    case rel=>exact⟨k+1,by omega,by go_num,by
     rw[QK s.data.toList k hlt,←HC.out,HL.out,set_self (by rw[pz];exact hlt) c (by rw[Vy _ _ hlt,HC.out])]
     exact HR.out,hbel⟩
    case measure=>simp[intOf];omega
  obtain rfl:k=s.size:=by omega
  have hback:=run_convert_bytes_back (P:=Tryz.prog) wr 45 9 5 ⟨w.heap.size,0,none⟩ (grownCap w s.size 0 5) (wU s.data.toList s.size) Tryz.underlying45 Tryz.underlying5 Tryz.underlying9 (fun j hj=>by
   have:=hrow.cell j hj
   rw[Xd];exact this)
  rw[pz,show s.data.toList.length=s.size from Array.length_toList,show wU s.data.toList s.size=lower s.data.toList from ahW _]at hback
  go_wp2
  go_ret
  exact⟨rfl,hbel⟩
end Go.Proofs.YtgamccijegollaaGreatDoor.cO
namespace Go.Proofs.YtgamccijegollaaGreatDoor.SixE
open Go.RowKit Base Dp acj dI oO wu O6 TJ O5
theorem Ey (s:ByteArray) (k:Nat):(s.extract k s.size).data.toList=s.data.toList.drop k:=by
 have hl:s.data.toList.length=s.size:=Array.length_toList
 rw[ByteArray.data_extract]
 simp only[Array.toList_extract,List.extract_eq_take_drop]
 rw[List.take_of_length_le (by rw[List.length_drop];omega)]
end Go.Proofs.YtgamccijegollaaGreatDoor.SixE
namespace Go.Proofs.YtgamccijegollaaGreatDoor.SixF
open Go.RowKit Base Dp acj dI oO wu O6 TJ O5 gU SixE
theorem Rl {t:List UInt8} {a b:Nat} (h:lN t=some [a,b]):a<65536∧b<65536:=by
 have hall:∀(ps:List (List UInt8)) (l:List Nat),smalls ps=some l→∀x ∈ l,x≤255:=by
  intro ps
  induction ps with
  |nil=>intro l h;injection h with h;subst h;intro x hx;simp at hx
  |cons p r ih=>
   intro l h
   rw[smalls]at h
   split at h
   ·rename_i n y h1 h2
    injection h with h
    subst h
    intro x hx
    rcases List.mem_cons.1 hx with rfl|hx
    ·exact abB h1
    exact ih y h2 x hx
   cases h
 unfold lN at h
 cases e:smalls (bZ t)with
 |none=>rw[e]at h;cases h
 |some l=>
  rw[e]at h
  replace h:two l=some [a,b]:=h
  unfold two at h
  split at h
  ·rename_i x1 x2 x3 x4
   injection h with h
   injection h with h1 h
   injection h with h2 _
   have y1:=hall _ _ e x1 (by simp)
   have y2:=hall _ _ e x2 (by simp)
   have y3:=hall _ _ e x3 (by simp)
   have y4:=hall _ _ e x4 (by simp)
   omega
  cases h
end Go.Proofs.YtgamccijegollaaGreatDoor.SixF
namespace Go.Proofs.YtgamccijegollaaGreatDoor.akq
open Go.RowKit Base oO wu O6 TJ O5 gU jQ WU nP
theorem abA (s:List UInt8):six s=match adB (dJ s)with
  |none=>wu.eight (iT true (dJ s)) []
  |some p=>both (gJ false p.1) (gJ true p.2) []:=by
 rw[KA s]
 unfold six
 cases BQ s<;>rfl
theorem aa2 {p:List UInt8} {n:Nat} (h:piece p=some n):p≠[]∧eu 16 p=true:=by
 unfold piece at h
 split at h
 ·rename_i h2
  refine⟨?_,h2.2.2⟩
  rintro rfl
  simp at h2
 cases h
theorem DX {p:List UInt8} {n:Nat} (h:piece p=some n) (x:UInt8) (hx:lH 16 x=false):∀c ∈ p,c≠x:=by
 rintro c hc rfl
 rw[Iw (aa2 h).2 hc]at hx
 cases hx
theorem LJ:∀(ws:List (List UInt8)) (ns:List Nat),ws≠[]→ws.map piece=ns.map some→dJ (jo ws)=ws
 |[],_,h,_=>absurd rfl h
 |[w],ns,_,h=>by
  match ns,h with
  |[],h=>simp at h
  |n::ns,h=>
   simp at h
   exact AP w (DX h.1 58 (lX 16))
 |w::v::r,ns,_,h=>by
  match ns,h with
  |n::ns,h=>
   simp only[List.map_cons,List.cons.injEq]at h
   show dJ (w++58::jo (v::r))=_
   rw[zu w _ (DX h.1 58 (lX 16)),LJ (v::r) ns (by simp) (by simpa using h.2)]
theorem FU:∀(ws:List (List UInt8)) (ns:List Nat) (M:List UInt8),ws≠[]→ws.map piece=ns.map some→dJ (jo ws++58::M)=ws++dJ M
 |[],_,_,h,_=>absurd rfl h
 |[w],ns,M,_,h=>by
  match ns,h with
  |[],h=>simp at h
  |n::ns,h=>
   simp at h
   exact zu w M (DX h.1 58 (lX 16))
 |w::v::r,ns,M,_,h=>by
  match ns,h with
  |n::ns,h=>
   simp only[List.map_cons,List.cons.injEq]at h
   show dJ ((w++58::jo (v::r))++58::M)=_
   rw[List.append_assoc,List.cons_append,zu w _ (DX h.1 58 (lX 16)),FU (v::r) ns M (by simp) (by simpa using h.2)]
   rfl
theorem Oo (e:Bool):∀(ws:List (List UInt8)) (ns:List Nat),ws.map piece=ns.map some→iT e ws=some ns
 |[],ns,h=>by
  match ns,h with
  |[],_=>rfl
 | w :: r, ns, h => by
  match ns,h with
  |n::ns,h=>
   simp only[List.map_cons,List.cons.injEq]at h
   have hn:¬(e=true∧r=[]∧w.contains 46=true):=by
    rintro⟨_,_,h3⟩
    have hm:(46:UInt8) ∈ w:=by simpa using h3
    exact DX h.1 46 (qW 16) 46 hm rfl
   rw[iT,if_neg hn,h.1,Oo e r ns h.2]
theorem aam:∀(ws:List (List UInt8)),(∀w ∈ ws,w≠[])→FC ws=none
 |[],_=>rfl
 |[_],_=>rfl
 |p::q::r,h=>by
  rw[FC,if_neg (h p (by simp)),aam (q::r) fun w hw=>h w (by simp[hw])]
theorem aft:∀(ws q:List (List UInt8)),(∀w ∈ ws,w≠[])→q≠[]→FC (ws++[]::q)=some (ws,q)
 |[],q,_,hq=>IK q hq
 |p::r,q,h,hq=>by
  have ih:=aft r q (fun w hw=>h w (by simp[hw])) hq
  cases hr:r++[]::q with
  |nil=>simp at hr
  |cons x y=>
   rw[hr]at ih
   show FC (p::(r++[]::q))=_
   rw[hr,FC,if_neg (h p (by simp)),ih]
theorem adW {ws:List (List UInt8)} {ns:List Nat} (h:ws.map piece=ns.map some):∀w ∈ ws,w≠[]:=by
 induction ws generalizing ns with
 |nil=>intro w hw;simp at hw
 |cons v r ih=>
  match ns,h with
  |n::ns,h=>
   simp only[List.map_cons,List.cons.injEq]at h
   intro w hw
   rcases List.mem_cons.1 hw with rfl|hw
   ·exact(aa2 h.1).1
   exact ih h.2 w hw
theorem map_len {ws:List (List UInt8)} {ns:List Nat} (h:ws.map piece=ns.map some):ws.length=ns.length:=by
 have:=congrArg List.length h
 simpa using this
theorem six_all (ws:List (List UInt8)) (ns:List Nat) (h:ws.map piece=ns.map some) (h8:ns.length=8):six (jo ws)=some ns:=by
 have hl:=map_len h
 have hne:=adW h
 match ws,hl,hne,h with
 |[],hl,_,_=>simp at hl;omega
 |p::r,_,hne,h=>
  rw[abA,LJ _ ns (by simp) h]
  have:adB (p::r)=none:=by
   show(match FC r with|none=>none|some x=>some (p::x.1,x.2))=none
   rw[aam r fun w hw=>hne w (by simp[hw])]
  rw[this]
  simp only[]
  rw[Oo true _ ns h]
  unfold wu.eight
  simp[h8]
theorem abz (e:Bool) (ws:List (List UInt8)) (ns:List Nat) (h:ws.map piece=ns.map some):gJ e (dJ (jo ws))=some ns:=by
 match ws,h with
 |[],h=>
  match ns,h with
  |[],_=>rfl
 |p::r,h=>
  have hne:=adW h
  rw[LJ _ ns (by simp) h,oD e,Oo e _ ns h]
  intro h2
  exact hne [] (by rw[h2];simp) rfl
theorem six_gap (ws1 ws2:List (List UInt8)) (ns1 ns2:List Nat) (h1:ws1.map piece=ns1.map some) (h2:ws2.map piece=ns2.map some) (hl:ns1.length+ns2.length<8):
  six (jo ws1++58::58::jo ws2)=some (fill ns1 ns2):=by
 rw[abA]
 match ws1,h1 with
 | [],h1=>
  match ns1,h1,hl with
  |[],_,hl=>
   rw[show jo []++58::58::jo ws2=58::58::jo ws2 from rfl,fP,fP]
   have:adB ([]::[]::dJ (jo ws2))=some ([[]],dJ (jo ws2)):=by
    show(match FC ([]::dJ (jo ws2))with|none=>none|some x=>some ([]::x.1,x.2))=_
    rw[IK _ (kF _)]
   rw[this]
   simp only[]
   rw[abz true ws2 ns2 h2,show gJ false [[]]=some []from rfl]
   unfold both
   simp only[List.length_nil,Nat.zero_add]at hl⊢
   rw[if_pos hl]
   rfl
 |p::r,h1=>
  have hne:=adW h1
  rw[FU _ ns1 _ (by simp) h1,fP]
  have:adB ((p::r)++[]::dJ (jo ws2))=some (p::r,dJ (jo ws2)):=by
   show(match FC (r++[]::dJ (jo ws2))with|none=>none|some x=>some (p::x.1,x.2))=_
   rw[aft r _ (fun w hw=>hne w (by simp[hw])) (kF _)]
  rw[this]
  simp only[]
  rw[abz true ws2 ns2 h2,oD false,Oo false _ ns1 h1]
  ·unfold both
   simp only[List.length_nil,Nat.zero_add]
   rw[if_pos hl]
   rfl
  ·intro h3
   exact hne [] (by rw[h3];simp) rfl
theorem ahl (d:Nat) (h:d<16):eu 16 [lW d]=true:=by
 unfold eu
 simp[(XR d h).1]
theorem IZ:∀(m n:Nat),n≤m→n<65536→eu 16 (hx n)=true∧val 16 (hx n)=n∧1≤(hx n).length
 | m,n,hm,h6=>by
  by_cases h16:16≤n
  ·cases m with
   |zero=>omega
   |succ m=>
    obtain⟨i1,i2,i3⟩:=IZ m (n / 16) (by omega) (by omega)
    have hd:=XR (n%16) (by omega)
    rw[al9 h16 h6]
    refine⟨?_,?_,?_⟩
    ·rw[yI,i1,hd.1];rfl
    ·rw[jh,i2,hd.2.1];omega
    ·simp
  ·have hd:=XR n (by omega)
   rw[aaB (by omega)]
   refine⟨ahl n (by omega),?_,by simp⟩
   show 0*16+dv (lW n)=n
   rw[hd.2.1]
   omega
theorem amV (n:Nat) (h:n<65536):piece (hx n)=some n:=by
 obtain⟨h1,h2,h3⟩:=IZ n n (Nat.le_refl _) h
 rw[Ap h3 (adN n) h1,h2]
theorem XZ:∀(L:List Nat),(∀x ∈ L,x<65536)→(L.map hx).map piece=L.map some
 |[],_=>rfl
 |n::L,h=>by
  rw[List.map_cons,List.map_cons,List.map_cons,amV n (h n (by simp)),XZ L fun x hx=>h x (by simp[hx])]
theorem alr (L:List Nat) (a b:Nat) (hL:L.length=8) (hab:a<b) (hb:b≤8) (hz:∀i (h:i<L.length),a≤i→i<b→L[i]=0):fill (L.take a) (L.drop b)=L:=by
 unfold fill
 apply List.ext_getElem
 ·simp;omega
 intro i h1 h2
 by_cases c1:i<a
 ·rw[List.getElem_append_left (by rw[List.length_append,List.length_take];omega),List.getElem_append_left (by rw[List.length_take];omega),List.getElem_take]
 by_cases c2:i<b
 ·rw[List.getElem_append_left (by rw[List.length_append,List.length_replicate,List.length_take,List.length_drop];omega),List.getElem_append_right (by rw[List.length_take];omega),List.getElem_replicate,hz i h2 (by omega) c2]
 rw[List.getElem_append_right (by rw[List.length_append,List.length_take,List.length_replicate,List.length_drop];omega),List.getElem_drop]
 congr 1
 rw[List.length_append,List.length_take,List.length_replicate,List.length_drop]
 omega
theorem aod (f:Nat→Nat):∀i (h:i<(V8 f).length),(Bz (zs f)).1≤i→i<(Bz (zs f)).2→(V8 f)[i]=0:=by
 intro i h h1 h2
 have hf:=(Vx (f 0==0) (f 1==0) (f 2==0) (f 3==0) (f 4==0) (f 5==0) (f 6==0) (f 7==0)).2.2.1
 replace hf:(((zs f).take (Bz (zs f)).2).drop (Bz (zs f)).1).all id=true:=hf
 have hi8:i<8:=h
 have hz:(zs f)[i]'hi8=true:=by
  have hm:(zs f)[i]'hi8 ∈ ((zs f).take (Bz (zs f)).2).drop (Bz (zs f)).1:=by
   refine List.mem_iff_getElem.2 ⟨i - (Bz (zs f)).1,?_,?_⟩
   ·rw[List.length_drop,List.length_take,Wv];have:=(LC f).2;omega
   rw[List.getElem_drop,List.getElem_take]
   congr 1
   omega
  exact List.all_eq_true.1 hf _ hm
 rw[akC f i hi8]
 have hz2:(f i==0)=true:=(aoe f i hi8 hi8).symm.trans hz
 simpa using hz2
theorem six_prt (f:Nat→Nat) (h:∀i,f i<65536):six (nP.prt f)=some (V8 f):=by
 have h6:=W9 h
 have hab:=LC f
 unfold nP.prt
 by_cases h2:(Bz (zs f)).2 - (Bz (zs f)).1<2
 ·rw[if_pos h2]
  exact six_all _ _ (XZ _ h6) rfl
 rw[if_neg h2]
 unfold jx
 rw[List.append_assoc]
 show six (jo _++58::58::jo _)=_
 have hV:(V8 f).length=8:=rfl
 rw[six_gap _ _ _ _ (XZ _ fun x hx=>h6 x (List.mem_of_mem_take hx)) (XZ _ fun x hx=>h6 x (List.mem_of_mem_drop hx)) (by rw[List.length_take,List.length_drop,hV];omega)]
 rw[alr (V8 f) _ _ rfl (by omega) hab.2 (aod f)]
theorem six_len {s:List UInt8} {V:List Nat} (h:six s=some V):V.length=8:=by
 unfold six at h
 split at h
 ·unfold wu.eight at h
  split at h
  ·split at h
   ·rename_i hlt
    injection h with h
    subst h
    simpa using hlt
   cases h
  cases h
 unfold both at h
 split at h
 ·split at h
  ·injection h with h
   subst h
   rename_i hlt
   unfold fill
   simp at hlt⊢
   omega
  cases h
 cases h
end Go.Proofs.YtgamccijegollaaGreatDoor.akq
