/- Texts that belong together: jQ, WU, nP, cO, jK, SixE, SixF, akq. -/
import Derived.Test.YtmpeaoacaecgpaaGreatDoorYAD
import Derived.Lib.LaidTab
import Derived.Lib.LaidU8
import Derived.Lib.SmallJoins
import Derived.Laws.Bits64b
import Derived.BigQuiet
import Derived.Test.YtmpeaoacaecgpaaGreatDoorYAA
import Derived.Deep.DeepCutAuto
import Derived.Deep.CutBlock
set_option linter.unusedSimpArgs false
set_option linter.unusedVariables false
set_option maxRecDepth 100000
set_option maxHeartbeats 64000000
namespace Go.Proofs.YtmpeaoacaecgpaaGreatDoor.jQ
open Go.RowKit Base Base2
def oI (w:World):Prop:=w.cell? ⟨5,15,none⟩=some (.int .u8 4)
theorem oI.below {w w':World} (h:oI w) (hb:Below w.heap.size w w'):oI w':=(hb.cell (World.block_lt_of_cell? _ _ h)).trans h
def ak4:List Int:=[0,1,56,2,57,49,28,3,61,58,42,50,38,29,17,4,62,47,59,36,45,43,51,22,53,39,33,30,24,18,12,5,63,55,48,27,60,41,37,16,46,35,44,21,52,32,23,11,54,26,40,15,34,20,31,10,25,14,19,9,13,8,7,6]
theorem P9:Tryz.prog.globalNamed "math/bits.deBruijn64tab" =some 5:=by kernel_rfl
theorem lad_of {W:World} {l:List (String×DataW Unit)} (h:laidMet Tryz.prog l W) (hm:("math/bits.deBruijn64tab",Lib.tabData .u8 ak4) ∈ l):oI W:=by
 obtain⟨g',t',cs,fuel,p,hg',ht',hvar,hd⟩:=Lib.laidMet.reads h hm
 obtain rfl:=Option.some.inj (P9.symm.trans hg')
 obtain rfl:=Option.some.inj ((show(Tryz.prog.globals[5]?).map (·.type)=some 338 by kernel_rfl).symm.trans ht')
 have hc:=Lib.cells_of_tab (k:=.u8) (zs:=ak4) Tryz.underlying338 Tryz.underlying5 (by kernel_rfl) (by kernel_rfl) hd
 unfold World.var? at hvar
 rw[P9]at hvar
 simp only[Option.bind_some]at hvar
 unfold oI World.cell?
 split at hvar
 ·rename_i x y z hh
  injection hvar with hvar
  rw[hh]
  simp only[]
  have e:x.toList=ak4.map fun z=>Value.int .u8 z:=by rw[hvar];exact hc
  rw[←Array.getElem?_toList,e]
  rfl
 cases hvar
def lW (n:Nat):UInt8:=if n<10 then UInt8.ofNat (48+n)else UInt8.ofNat (87+n)
def hxs:Nat→Nat→List UInt8→List UInt8
 |0,u,acc=>lW u::acc
 |f+1,u,acc=>if 16≤u then hxs f (u / 16) (lW (u%16)::acc)else lW u::acc
def hx (n:Nat):List UInt8:=hxs 3 n []
theorem Ob:∀(f u:Nat) (acc:List UInt8),hxs f u acc=hxs f u []++acc
 |0,_,_=>rfl
 |f+1,u,acc=>by
  unfold hxs
  split
  ·rw[Ob f _ (_::acc),Ob f _ [_],List.append_assoc]
   rfl
  ·rfl
theorem aaC:∀(f u:Nat) (acc:List UInt8),u<16^(f+1)→hxs (f+1) u acc=hxs f u acc
 |0,u,acc,h=>by
  unfold hxs
  rw[if_neg (by simp at h;omega)]
 |f+1,u,acc,h=>by
  show(if 16≤u then hxs (f+1) (u / 16) (lW (u%16)::acc)else lW u::acc)=(if 16≤u then hxs f (u / 16) (lW (u%16)::acc)else lW u::acc)
  by_cases hu:16≤u
  ·rw[if_pos hu,if_pos hu]
   exact aaC f (u / 16) _ (by rw[Nat.pow_succ]at h;omega)
  ·rw[if_neg hu,if_neg hu]
theorem aaB {n:Nat} (h:n<16):hx n=[lW n]:=by
 unfold hx hxs
 rw[if_neg (by omega)]
theorem al9 {n:Nat} (h:16≤n) (h6:n<65536):hx n=hx (n / 16)++[lW (n%16)]:=by
 unfold hx
 rw[aaC 2 (n / 16) [] (by show n / 16<4096;omega)]
 conv=>lhs;unfold hxs
 rw[if_pos h,Ob]
theorem U7 (k:Nat) (hk:k<16) (h:k<(⟨#[48,49,50,51,52,53,54,55,56,57,97,98,99,100,101,102,103,104,105,106,107,108,109,110,111,112,113,114,115,116,117,118,119,120,121,122]⟩:ByteArray).size):(⟨#[48,49,50,51,52,53,54,55,56,57,97,98,99,100,101,102,103,104,105,106,107,108,109,110,111,112,113,114,115,116,117,118,119,120,121,122]⟩:ByteArray)[k]'h=lW k:=by
 have hcase:k=0∨k=1∨k=2∨k=3∨k=4∨k=5∨k=6∨k=7∨k=8∨k=9∨k=10∨k=11∨k=12∨k=13∨k=14∨k=15:=by omega
 rcases hcase with rfl|rfl|rfl|rfl|rfl|rfl|rfl|rfl|rfl|rfl|rfl|rfl|rfl|rfl|rfl|rfl<;>rfl
theorem PE (u:Nat) (h:u<65536):bits .and .u64 (u:Int) 15=(u:Int)%16:=by
 have:=bits_and_u64_nat u 15 (by omega) (by omega)
 rw[show((15:Nat):Int)=15 from rfl]at this
 rw[this,show(15:Nat)=2^4 - 1 from rfl,Nat.and_two_pow_sub_one_eq_mod]
 omega
def JX (w:World) (g:Nat) (t:TypeId) (L:List UInt8):Prop:=w.heap[g]?=some (.cells (ah L).toArray t (0,0))
theorem JX.cell {w:World} {g:Nat} {t:TypeId} {L:List UInt8} (h:JX w g t L) (j:Nat) (hj:j<L.length):w.cell? ⟨g,j,none⟩=some (.int .u8 (L[j].toNat:Int)):=by
 refine(cell_of_row w g j _ _ _ h).trans ?_
 simp[ah,hj]
theorem JX.frozen {w:World} {g:Nat} {t:TypeId} {L:List UInt8} (h:JX w g t L) (j:Nat):w.frozen? ⟨g,j,none⟩=false:=by
 unfold World.frozen?
 rw[h]
 simp
theorem JX.set {w:World} {g:Nat} {t:TypeId} {L:List UInt8} (h:JX w g t L) (j:Nat) (c:UInt8):JX (w.setCell ⟨g,j,none⟩ (.int .u8 (c.toNat:Int))) g t (L.set j c):=by
 have:=heap_setCell_same w g j _ _ (.int .u8 (c.toNat:Int)) h
 unfold JX
 rw[this]
 simp[ah,List.map_set]
theorem JX.zB {w:World} {g:Nat} {t:TypeId} {L:List UInt8} (h:JX w g t L) (i:Nat) (hi:i≤L.length):aY w (some ⟨g,i,none⟩) (L.length - i) (ah (L.drop i)):=
 aY.jF (by rw[aI,List.length_drop]) (Array.getElem?_eq_some_iff.1 h).1 (fun j hj=>by
  rw[aI,List.length_drop]at hj
  rw[h.cell (i+j) (by omega)]
  simp[ah])
theorem anY (w:World) (hL:oI w):Calls Tryz.prog 366 #[.int .u64 16] w fun e w'=>e=.returned (.int .i64 4)∧w=w':=by
 have h1:IntKind.u64.wrap (-16)=18446744073709551600:=by kernel_rfl
 have h2:bits .and .u64 16 18446744073709551600=16:=by kernel_rfl
 unfold oI at hL
 go_enter Tryz.func366,Tryz.ntmps366
 go_wp2
 go_ret
 exact⟨rfl,rfl⟩
theorem tz_any (w:World) (hL:oI w):Calls Tryz.prog 358 #[.int .u64 16] w fun e w'=>e=.returned (.int .i64 4)∧w=w':=by
 go_enter Tryz.func358,Tryz.ntmps358
 go_wp2_with fail
 refine(anY _ hL).mono ?_
 rintro e w2 ⟨rfl,hw2⟩
 subst hw2
 go_wp2
 go_ret
 exact⟨rfl,rfl⟩
theorem am5 (w:World):Calls Tryz.prog 357 #[.int .i64 16] w fun e w'=>e=.returned (.bool true)∧w=w':=by
 have h1:bits .and .i64 16 15=0:=by kernel_rfl
 go_enter Tryz.func357,Tryz.ntmps357
 go_wp2
 go_ret
 exact⟨rfl,rfl⟩
theorem akT (n:Nat) (hn:n<65536) (w:World) (hL:oI w):Calls Tryz.prog 331 #[.slice none 0 0,.int .u64 (n:Int),.int .i64 16,.bool false,.bool false] w fun e w'=>e=.returned (.tuple #[.slice none 0 0,.string (strOf (hx n))])∧Below w.heap.size w w':=by
 obtain⟨H,hH⟩:∃H,H=hx n:=⟨_,rfl⟩
 rw[←hH]
 have HH:=hid hH
 have Y8:=hid hL
 clear hH hL
 go_enter Tryz.func331,Tryz.ntmps331
 go_upto_region 4 with(fail)
 generalize hw1:w.alloc _=w1
 have HB1:Hid (Below w.heap.size w w1):=by
  show Below _ _ _
  rw[←hw1]
  exact(Below.refl _ _).alloc (Nat.le_refl _) _
 have kP:Hid (JX w1 w.heap.size 328 (List.replicate 65 0)):=by
  show JX _ _ _ _
  rw[←hw1]
  exact heap_alloc_new _ _
 clear hw1
 go_wp2_with fail
 refine(am5 _).mono ?_
 rintro e w2 ⟨rfl,hw2⟩
 subst hw2
 go_wp2_with fail
 refine(tz_any _ (Y8.out.below HB1.out)).mono ?_
 rintro e w2 ⟨rfl,hw2⟩
 subst hw2
 go_wp2_with fail
 go_loopw [1,13] (fun vu vi wr=>∃(f u i:Nat) (L:List UInt8),f≤3∧u<16^(f+1)∧u<65536∧i=62+f∧vu=.int .u64 (u:Int)∧vi=.int .i64 (i:Int)∧Hid (L.length=65)∧Hid (JX wr w.heap.size 328 L)∧Hid (H=hxs f u (L.drop i))∧Hid (Below w.heap.size w wr)) (fun vu _ _=>(intOf vu).toNat)
 case atStart=>exact⟨3,n,65,List.replicate 65 0,by omega,hn,hn,rfl,rfl,rfl,rfl,kP.out,HH.out,HB1.out⟩
 case round =>
  obtain⟨f,u,i,L,hf,hu,hu6,hi,rfl,rfl,Ci,HX,HW,HB⟩:=hrel
  obtain⟨j,hj⟩:∃j,i=j+1:=⟨i - 1,by omega⟩
  have hij:(i:Int) - 1=(j:Int):=by omega
  have hj64:j≤64:=by omega
  have hi65:i≤65:=by omega
  have hi1:(1:Int)≤(i:Int):=by omega
  have hj65:(j:Int)<65:=by omega
  obtain⟨x0,hc0⟩:∃x0,wr.cell? ⟨w.heap.size,j,none⟩=some x0:=⟨_,HX.out.cell j (by rw[Ci.out];omega)⟩
  have hf0:=HX.out.frozen j
  have HJ:=hid hj
  by_cases h16:16≤u
  ·have h16i:(16:Int)≤(u:Int):=by omega
   obtain⟨f',rfl⟩:∃f',f=f'+1:=by
    cases f with
    |zero=>simp at hu;omega
    |succ f'=>exact⟨f',rfl⟩
   have HIF:=hid hi
   have ha:=PE u hu6
   have q0:(0:Int)≤(u:Int)%16:=by omega
   have q1:(u:Int)%16<16:=by omega
   have q2:(u:Int)%16<36:=by omega
   have q3:∀h,(⟨#[48,49,50,51,52,53,54,55,56,57,97,98,99,100,101,102,103,104,105,106,107,108,109,110,111,112,113,114,115,116,117,118,119,120,121,122]⟩:ByteArray)[((u:Int)%16).toNat]'h=lW (u%16):=fun h=>by
    have e:((u:Int)%16).toNat=u%16:=by omega
    simp only[e]
    exact U7 _ (by omega) _
   obtain⟨v,hv⟩:∃v,v=u / 16:=⟨_,rfl⟩
   have hvi:(u:Int) / 16=(v:Int):=by omega
   have gY:=hid (HX.out.set j (lW (u%16)))
   have HB2:Hid (Below w.heap.size w (wr.setCell ⟨w.heap.size,j,none⟩ (.int .u8 ((lW (u%16)).toNat:Int)))):=HB.out.setCell (Nat.le_refl _) _
   have HW2:Hid (H=hxs f' v ((L.set j (lW (u%16))).drop j)):=by
    show _=_
    have hd:(L.set j (lW (u%16))).drop j=lW (u%16)::L.drop i:=by
     rw[List.drop_eq_getElem_cons (by rw[List.length_set,Ci.out];omega),List.getElem_set_self,List.drop_set_of_lt (by omega),←HJ.out]
    rw[hd,HW.out,hv]
    conv=>lhs;unfold hxs
    rw[if_pos h16]
   have HV:Hid (v<16^(f'+1)∧v<65536∧v<u):=⟨by rw[hv];rw[Nat.pow_succ]at hu;omega,by omega,by omega⟩
   have uQ:=hid hv
   clear hu hv hj hi h16
   go_wp2
   go_roundw
   case rel=>exact⟨f',v,j,_,by omega,HV.out.1,HV.out.2.1,by have:=HIF.out;have:=HJ.out;omega,by go_num,by go_num,by rw[List.length_set];exact Ci.out,gY.out,HW2.out,HB2.out⟩
   case measure=>(have:=HV.out.2.2;simp[intOf];omega)
  have h16i:¬(16:Int)≤(u:Int):=by omega
  have q0:(u:Int)<36:=by omega
  have q3:∀h,(⟨#[48,49,50,51,52,53,54,55,56,57,97,98,99,100,101,102,103,104,105,106,107,108,109,110,111,112,113,114,115,116,117,118,119,120,121,122]⟩:ByteArray)[u]'h=lW u:=fun h=>U7 _ (by omega) _
  have gY:=hid (HX.out.set j (lW u))
  have HB2:Hid (Below w.heap.size w (wr.setCell ⟨w.heap.size,j,none⟩ (.int .u8 ((lW u).toNat:Int)))):=HB.out.setCell (Nat.le_refl _) _
  have hd:(L.set j (lW u)).drop j=H:=by
   rw[List.drop_eq_getElem_cons (by rw[List.length_set,Ci.out];omega),List.getElem_set_self,List.drop_set_of_lt (by omega),←HJ.out,HW.out]
   cases f with
   |zero=>rfl
   |succ f'=>unfold hxs;rw[if_neg h16]
  have hrd:=gY.out.zB j (by rw[List.length_set,Ci.out];omega)
  rw[List.length_set,Ci.out,hd]at hrd
  have hs:=aF (P:=Tryz.prog) 45 9 5 Tryz.underlying45 Tryz.underlying5 Tryz.underlying9 H (65 - j) hrd
  have hz:¬65 - j=0:=by omega
  have hj65b:(j:Int)≤65:=by omega
  clear hd hrd hu hi hj h16
  go_wp2
  go_ret2
  exact⟨rfl,HB2.out⟩
theorem aan (n:Nat) (hn:n<65536) (w:World) (hL:oI w):Calls Tryz.prog 368 #[.int .u64 (n:Int),.int .i64 16] w fun e w'=>e=.returned (.string (strOf (hx n)))∧Below w.heap.size w w':=by
 go_enter Tryz.func368,Tryz.ntmps368
 go_wp2_with fail
 refine(akT n hn _ hL).mono ?_
 rintro e w2 ⟨rfl,hb⟩
 go_wp2
 go_ret
 exact⟨rfl,hb⟩
theorem Qm (n:Nat) (hn:n<65536) (w:World) (hL:oI w):Calls Tryz.prog 363 #[.int .u64 (n:Int),.int .i64 16] w fun e w'=>e=.returned (.string (strOf (hx n)))∧Below w.heap.size w w':=by
 go_enter Tryz.func363,Tryz.ntmps363
 go_wp2_with fail
 refine(aan n hn _ hL).mono ?_
 rintro e w2 ⟨rfl,hb⟩
 go_wp2
 go_ret
 exact⟨rfl,hb⟩
end Go.Proofs.YtmpeaoacaecgpaaGreatDoor.jQ
namespace Go.Proofs.YtmpeaoacaecgpaaGreatDoor.WU
open Go.RowKit Base Base2 oO wu O6 TJ O5 gU jQ
theorem afE:∀(f u:Nat) (acc:List UInt8),(hxs f u acc).length≤f+1+acc.length
 |0,u,acc=>by simp[hxs];omega
 |f+1,u,acc=>by
  unfold hxs
  split
  ·have:=afE f (u / 16) (lW (u%16)::acc)
   simp at this⊢
   omega
  ·simp;omega
theorem adN (n:Nat):(hx n).length≤4:=afE 3 n []
theorem XR (d:Nat) (h:d<16):lH 16 (lW d)=true∧dv (lW d)=d∧lW d≠58∧lW d≠46:=by
 have H:∀d:Fin 16,lH 16 (lW d.val)=true∧dv (lW d.val)=d.val∧lW d.val≠58∧lW d.val≠46:=by decide+kernel
 exact H ⟨d,h⟩
def jo:List (List UInt8)→List UInt8
 |[]=>[]
 |[x]=>x
 |x::y::r=>x++58::jo (y::r)
theorem QD:∀(xs:List (List UInt8)) (y:List UInt8),xs≠[]→jo (xs++[y])=jo xs++58::y
 |[],_,h=>absurd rfl h
 |[x],y,_=>rfl
 |x::z::r,y,_=>by
  show x++58::jo ((z::r)++[y])=x++58::jo (z::r)++58::y
  rw[QD (z::r) y (by simp)]
  simp
def jx (L:List Nat):List UInt8:=jo (L.map hx)
theorem jx_nil:jx []=[]:=rfl
theorem amk (n:Nat):jx [n]=hx n:=rfl
theorem afL (L:List Nat) (n:Nat) (h:L≠[]):jx (L++[n])=jx L++58::hx n:=by
 unfold jx
 rw[List.map_append]
 exact QD _ _ (by simpa using h)
theorem KQ (L:List Nat):(jx L).length≤5*L.length:=by
 have H:∀M:List Nat,(jx M.reverse).length≤5*M.length:=by
  intro M
  induction M with
  |nil=>simp[jx,jo]
  |cons n M ih=>
   rw[List.reverse_cons]
   have:=adN n
   by_cases h:M.reverse=[]
   ·rw[h,List.nil_append,amk,List.length_cons]
    omega
   rw[afL _ _ h,List.length_append,List.length_cons,List.length_cons]
   omega
 have:=H L.reverse
 rwa[List.reverse_reverse,List.length_reverse]at this
theorem aeF (L:List Nat) (k:Nat) (h:k<L.length):L.take (k+1)=L.take k++[L[k]]:=List.take_succ_eq_append_getElem h
theorem QE (A:Option Addr) (n c:Nat) (L:List Nat) (w:World) (hr:aY w A n (aT L)) (h8:n≤8) (h6:∀x ∈ L,x<65536) (hL:oI w):
  Calls Tryz.prog 350 #[.slice A n c] w fun e w'=>e=.returned (.string (strOf (jx L)))∧Below w.heap.size w w':=by
 have hl:L.length=n:=by rw[←kN];exact hr.1
 have HM:=hid hl
 have HR:=hid hr
 have Y8:=hid hL
 have H6:=hid h6
 clear hr hL h6 hl
 go_enter Tryz.func350,Tryz.ntmps350
 go_wp2
 go_loopw [3,4,5,8] (fun vo _ _ vk wr=>∃(k:Nat) (X:ByteArray),k≤n∧vk=.int .i64 (k:Int)∧vo=.string X∧Hid (X=strOf (jx (L.take k)))∧Hid (Below w.heap.size w wr)) (fun _ _ _ vk _=>n - (intOf vk).toNat)
 case atStart=>exact⟨0,⟨#[]⟩,by omega,rfl,rfl,rfl,Below.refl _ _⟩
 case round=>
  obtain⟨k,X,hk,rfl,rfl,HX,HB⟩:=hrel
  by_cases hlt:k<n
  ·obtain ⟨b,off,rfl,_,_⟩:=HR.out.spot (by omega)
   obtain⟨x,hx⟩:∃x,L[k]'(by rw[HM.out];exact hlt)=x:=⟨_,rfl⟩
   have hcl:wr.cell? ⟨b,off+k,none⟩=some (.int .u16 (x:Int)):=by
    obtain⟨b',o',e1,_,hc'⟩:=(HR.out.below HB.out).2 k (by rw[kN,HM.out];exact hlt)
    cases e1
    rw[hc']
    simp[aT,hx]
   have hx6:x<65536:=by rw[←hx];exact H6.out _ (List.getElem_mem _)
   have HT:Hid (L.take (k+1)=L.take k++[x]):=by show _=_;rw[aeF L k (by rw[HM.out];exact hlt),hx]
   have hwx:IntKind.u64.wrap (x:Int)=(x:Int):=by simp[IntKind.wrap,IntKind.signed,IntKind.bits];omega
   have HX6:=hid hx6
   clear hx6
   have HXL:Hid (X.size≤40):=by
    show _≤_
    rw[HX.out,size_strOf]
    have:=KQ (L.take k)
    rw[List.length_take]at this
    omega
   have hhl:=adN x
   clear hx
   obtain⟨Z,hZ⟩:∃Z,Z=strOf (jx (L.take (k+1))):=⟨_,rfl⟩
   have HZ:=hid hZ
   by_cases hk0:k=0
   ·have TA:=hid hk0
    have hk1:¬(0:Int)<(k:Int):=by omega
    clear hk0
    have a2:∀w:World,(Op.stringOp .add X (strOf (hx x))).run Tryz.prog w=.ok (.string Z) w:=fun w=>by
     rw[hZ,HT.out,HX.out,TA.out,List.take_zero,List.nil_append,amk,jx_nil]
     exact str_add [] (hx x) w (by simp;omega)
    clear hZ hhl
    go_wp2_with fail
    refine(Qm x HX6.out _ (Y8.out.below HB.out)).mono ?_
    rintro e w2 ⟨rfl,hb2⟩
    have HB2:Hid (Below w.heap.size w w2):=bel HB.out hb2
    clear hb2
    go_wp2
    go_roundw
    case rel=>exact⟨k+1,Z,by omega,by go_num,rfl,HZ.out,HB2.out⟩
    case measure=>simp[intOf];omega
   ·have hk1:(0:Int)<(k:Int):=by omega
    obtain⟨Y,hY⟩:∃Y,Y=strOf (jx (L.take k)++[58]):=⟨_,rfl⟩
    have a1:∀w:World,(Op.stringOp .add X ⟨#[58]⟩).run Tryz.prog w=.ok (.string Y) w:=fun w=>by
     rw[hY,HX.out]
     refine str_add _ [58] w ?_
     have:=HXL.out
     rw[HX.out,size_strOf]at this
     simp
     omega
    have a2:∀w:World,(Op.stringOp .add Y (strOf (hx x))).run Tryz.prog w=.ok (.string Z) w:=fun w=>by
     have hne:L.take k≠[]:=by
      intro h
      have:=congrArg List.length h
      rw[List.length_take,HM.out]at this
      simp at this
      omega
     rw[hZ,HT.out,afL _ _ hne,hY,show jx (L.take k)++58::hx x=(jx (L.take k)++[58])++hx x by simp]
     refine str_add _ _ w ?_
     have:=HXL.out
     rw[HX.out,size_strOf]at this
     rw[List.length_append]
     simp
     omega
    clear hZ hY hhl hk0
    go_wp2_with fail
    refine(Qm x HX6.out _ (Y8.out.below HB.out)).mono ?_
    rintro e w2 ⟨rfl,hb2⟩
    have HB2:Hid (Below w.heap.size w w2):=bel HB.out hb2
    clear hb2
    go_wp2
    go_roundw
    case rel=>exact⟨k+1,Z,by omega,by go_num,rfl,HZ.out,HB2.out⟩
    case measure=>simp[intOf];omega
  ·obtain rfl:k=n:=by omega
   have HE:Hid (X=strOf (jx L)):=by show _=_;rw[HX.out,List.take_of_length_le (by rw[HM.out];exact Nat.le_refl _)]
   go_wp2
   go_ret
   exact⟨by rw[HE.out];rfl,HB.out⟩
def run (Z:List Bool) (k:Nat):Nat:=((Z.drop k).takeWhile id).length
theorem anp {Z:List Bool} {k:Nat} (h:k<Z.length) (hz:Z[k]=true):run Z k=1+run Z (k+1):=by
 unfold run
 rw[List.drop_eq_getElem_cons h,List.takeWhile_cons,hz]
 simp
 omega
theorem run_nz {Z:List Bool} {k:Nat} (h:k<Z.length) (hz:Z[k]=false):run Z k=0:=by
 unfold run
 rw[List.drop_eq_getElem_cons h,List.takeWhile_cons,hz]
 rfl
theorem run_end {Z:List Bool} {k:Nat} (h:Z.length≤k):run Z k=0:=by
 unfold run
 rw[List.drop_eq_nil_of_le h]
 rfl
def goC (Z:List Bool):Nat→Nat→Nat→Nat→Nat×Nat
 |0,_,f,t=>(f,t)
 |fu+1,k,f,t=>if k<Z.length then(if t - f<run Z k then goC Z fu (k+run Z k+1) k (k+run Z k)else goC Z fu (k+run Z k+1) f t)else(f,t)
def Bz (Z:List Bool):Nat×Nat:=goC Z 9 0 0 0
def goR (Z:List Bool):Nat→Nat→Option Nat→Nat→Option Nat×Nat
 |0,_,f,l=>(f,l)
 |fu+1,k,f,l=>if k<Z.length then(if l<run Z k then goR Z fu (k+1) (some k) (run Z k)else goR Z fu (k+1) f l)else(f,l)
def lngR (Z:List Bool):Option Nat×Nat:=goR Z 8 0 none 1
theorem Vx:∀b0 b1 b2 b3 b4 b5 b6 b7:Bool,(Bz [b0,b1,b2,b3,b4,b5,b6,b7]).1≤(Bz [b0,b1,b2,b3,b4,b5,b6,b7]).2∧(Bz [b0,b1,b2,b3,b4,b5,b6,b7]).2≤8∧(([b0,b1,b2,b3,b4,b5,b6,b7].take (Bz [b0,b1,b2,b3,b4,b5,b6,b7]).2).drop (Bz [b0,b1,b2,b3,b4,b5,b6,b7]).1).all id=true∧
  lngR [b0,b1,b2,b3,b4,b5,b6,b7]=if (Bz [b0,b1,b2,b3,b4,b5,b6,b7]).2 - (Bz [b0,b1,b2,b3,b4,b5,b6,b7]).1<2 then(none,1)else(some (Bz [b0,b1,b2,b3,b4,b5,b6,b7]).1,(Bz [b0,b1,b2,b3,b4,b5,b6,b7]).2 - (Bz [b0,b1,b2,b3,b4,b5,b6,b7]).1):=by decide+kernel
def V8 (f:Nat→Nat):List Nat:=[f 0,f 1,f 2,f 3,f 4,f 5,f 6,f 7]
def zs (f:Nat→Nat):List Bool:=(V8 f).map (·==0)
theorem Wv (f:Nat→Nat):(zs f).length=8:=rfl
theorem eight (i:Nat) (h:i<8):i=0∨i=1∨i=2∨i=3∨i=4∨i=5∨i=6∨i=7:=by omega
theorem akC (f:Nat→Nat) (k:Nat) (h:k<8) (h2:k<(V8 f).length):(V8 f)[k]=f k:=by
 rcases eight k h with rfl|rfl|rfl|rfl|rfl|rfl|rfl|rfl<;>rfl
theorem aoe (f:Nat→Nat) (k:Nat) (h:k<8) (h2:k<(zs f).length):(zs f)[k]=(f k==0):=by
 rcases eight k h with rfl|rfl|rfl|rfl|rfl|rfl|rfl|rfl<;>rfl
def A8 (f:Nat→Nat):Value:=.agg #[.int .u16 (f 0:Int),.int .u16 (f 1:Int),.int .u16 (f 2:Int),.int .u16 (f 3:Int),.int .u16 (f 4:Int),.int .u16 (f 5:Int),.int .u16 (f 6:Int),.int .u16 (f 7:Int)]
theorem goC_end {Z:List Bool} {fu k f t:Nat} (h:Z.length≤k):goC Z fu k f t=(f,t):=by
 cases fu with
 |zero=>rfl
 |succ fu=>unfold goC;rw[if_neg (by omega)]
end Go.Proofs.YtmpeaoacaecgpaaGreatDoor.WU
namespace Go.Proofs.YtmpeaoacaecgpaaGreatDoor.nP
open Go.RowKit Base Base2 oO wu O6 TJ O5 gU jQ WU Regs
theorem akW (x:Nat):((x:Int)==0)=(x==0):=by
 cases h:(x==0)with
 | true => have:x=0:=by simpa using h
           subst this;rfl
 | false => have:x≠0:=by simpa using h
            rw[beq_eq_false_iff_ne];omega
theorem Xo {w:World} (f:Nat→Nat):Box (w.alloc (.cells #[.int .u16 (f 0:Int),.int .u16 (f 1:Int),.int .u16 (f 2:Int),.int .u16 (f 3:Int),.int .u16 (f 4:Int),.int .u16 (f 5:Int),.int .u16 (f 6:Int),.int .u16 (f 7:Int)] 290)) w.heap.size 290 (V8 f):=heap_alloc_new _ _
theorem aaL (f : Nat → Nat) (w : World) : Calls Tryz.prog 349 #[A8 f] w fun e w' => e = .returned (.tuple #[.int .i64 ((Bz (zs f)).1 : Int), .int .i64 ((Bz (zs f)).2 : Int)]) ∧ Below w.heap.size w w' := by
 obtain⟨Z,hZ⟩:∃Z,Z=zs f:=⟨_,rfl⟩
 have HZ:=hid hZ
 rw[←hZ]
 have Am:Hid (Z.length=8):=by show _=_;rw[hZ];rfl
 clear hZ
 unfold A8
 go_enter Tryz.func349,Tryz.ntmps349
 go_upto_region 1 with(fail)
 generalize hw1:w.alloc _=w1
 have HB1:Hid (Below w.heap.size w w1):=by
  show Below _ _ _
  rw[←hw1]
  exact(Below.refl _ _).alloc (Nat.le_refl _) _
 have kP:Hid (Box w1 w.heap.size 290 (V8 f)):=by
  show Box _ _ _ _
  rw[←hw1]
  exact Xo f
 clear hw1
 go_wp2
 go_loopw [2,3,4,5] (fun vf vt vk _ wr=>∃(fu k a b:Nat),vk=.int .i64 (k:Int)∧vf=.int .i64 (a:Int)∧vt=.int .i64 (b:Int)∧k≤9∧a≤b∧b≤8∧9≤fu+k∧wr=w1∧Hid (Bz Z=goC Z fu k a b)) (fun _ _ vk _ _=>9 - (intOf vk).toNat)
 case atStart=>exact⟨9,0,0,0,rfl,rfl,rfl,by omega,by omega,by omega,by omega,rfl,rfl⟩
 case round=>
  obtain⟨fu,k0,a,b,rfl,rfl,rfl,hk9,hab,hb8,hfu,rfl,HW⟩:=hrel
  by_cases hlt:k0<8
  ·obtain ⟨fu',rfl⟩:∃fu',fu=fu'+1:=⟨fu - 1,by omega⟩
   have hfu2:9≤fu'+(k0+1):=by omega
   clear hfu
   go_wp2
   go_loopw [4] (fun vk wx=>∃k:Nat,k0≤k∧k≤8∧vk=.int .i64 (k:Int)∧wx=wr∧Hid (run Z k0=(k - k0)+run Z k)) (fun vk _=>8 - (intOf vk).toNat)
   case atStart=>exact⟨k0,by omega,by omega,rfl,rfl,by show _=_;omega⟩
   case round =>
    obtain⟨k,hk0,hk8,rfl,rfl,HR⟩:=hrel
    by_cases hk:k<8
    ·have hc0:=kP.out.cell k (by show k<8;exact hk)
     rw[akC f k hk]at hc0
     have hzk:Z[k]'(by rw[Am.out];exact hk)=(f k==0):=by
      have:=aoe f k hk (by rw[Wv];exact hk)
      simp only[HZ.out]
      exact this
     have HZK:=hid hzk
     obtain⟨x,hx⟩:∃x,f k=x:=⟨_,rfl⟩
     rw[hx]at hc0 HZK
     have hk8i:(k:Int)<8:=by omega
     clear hx hzk
     by_cases hx0:x=0
     ·subst hx0
      have HR2:Hid (run Z k0=(k+1 - k0)+run Z (k+1)):=by
       show _=_
       rw[HR.out,anp (by rw[Am.out];exact hk) (by rw[HZK.out];rfl)]
       omega
      rw[show((0:Nat):Int)=0 from rfl]at hc0
      go_wp2
      go_roundw
      case rel=>exact⟨k+1,by omega,by omega,by go_num,by first|rfl|trivial,HR2.out⟩
      case measure=>simp[intOf];omega
     have hxb:((x:Int)==0)=false:=by rw[akW];simpa using hx0
     have hxn:¬(x:Int)=0:=by omega
     have HRE:Hid (run Z k0=k - k0):=by
      show _=_
      rw[HR.out,run_nz (by rw[Am.out];exact hk) (by rw[HZK.out];simpa using hx0)]
      rfl
     clear hx0
     by_cases hgt:b - a<k - k0
     ·have HW2:Hid (Bz Z=goC Z fu' (k+1) k0 k):=by
       show _=_
       rw[HW.out]
       conv=>lhs;unfold goC
       rw[if_pos (by rw[Am.out];exact hlt),HRE.out,if_pos hgt,show k0+(k - k0)=k by omega]
      have hgi:(b:Int) - (a:Int)<(k:Int) - (k0:Int):=by omega
      have hki:(k0:Int)≤(k:Int):=by omega
      have hai:(a:Int)≤(b:Int):=by omega
      clear hgt
      go_wp2
      go_roundw
      case rel=>exact⟨fu',k+1,k0,k,by go_num,rfl,rfl,by omega,by omega,by omega,by omega,by first|rfl|trivial,HW2.out⟩
      case measure=>simp[intOf];omega
     have HW2:Hid (Bz Z=goC Z fu' (k+1) a b):=by
      show _=_
      rw[HW.out]
      conv=>lhs;unfold goC
      rw[if_pos (by rw[Am.out];exact hlt),HRE.out,if_neg hgt,show k0+(k - k0)=k by omega]
     have hgi:¬(b:Int) - (a:Int)<(k:Int) - (k0:Int):=by omega
     clear hgt
     go_wp2
     go_roundw
     case rel=>exact⟨fu',k+1,a,b,by go_num,rfl,rfl,by omega,by omega,by omega,by omega,by first|rfl|trivial,HW2.out⟩
     case measure=>simp[intOf];omega
    obtain rfl:k=8:=by omega
    have HRE:Hid (run Z k0=8 - k0):=by show _=_;rw[HR.out,run_end (by rw[Am.out];exact Nat.le_refl _)];rfl
    by_cases hgt:b - a<8 - k0
    ·have HW2:Hid (Bz Z=goC Z fu' (8+1) k0 8):=by
      show _=_
      rw[HW.out]
      conv=>lhs;unfold goC
      rw[if_pos (by rw[Am.out];exact hlt),HRE.out,if_pos hgt,show k0+(8 - k0)=8 by omega]
     have hgi:(b:Int) - (a:Int)<8 - (k0:Int):=by omega
     have hki:(k0:Int)≤8:=by omega
     have hai:(a:Int)≤(b:Int):=by omega
     clear hgt
     go_wp2
     go_roundw
     case rel=>exact⟨fu',8+1,k0,8,by go_num,rfl,rfl,by omega,by omega,by omega,by omega,by first|rfl|trivial,HW2.out⟩
     case measure=>simp[intOf];omega
    have HW2:Hid (Bz Z=goC Z fu' (8+1) a b):=by
     show _=_
     rw[HW.out]
     conv=>lhs;unfold goC
     rw[if_pos (by rw[Am.out];exact hlt),HRE.out,if_neg hgt,show k0+(8 - k0)=8 by omega]
    have hgi:¬(b:Int) - (a:Int)<8 - (k0:Int):=by omega
    clear hgt
    go_wp2
    go_roundw
    case rel=>exact⟨fu',8+1,a,b,by go_num,rfl,rfl,by omega,by omega,by omega,by omega,by first|rfl|trivial,HW2.out⟩
    case measure=>simp[intOf];omega
  have HE:Hid (Bz Z=(a,b)):=by show _=_;rw[HW.out];exact goC_end (by rw[Am.out];omega)
  have hk8i:¬(k0:Int)<8:=by omega
  go_wp2
  go_ret2
  exact⟨by rw[HE.out];rfl,HB1.out⟩
theorem LC (f:Nat→Nat):(Bz (zs f)).1≤(Bz (zs f)).2∧(Bz (zs f)).2≤8:=by
 have:=Vx (f 0==0) (f 1==0) (f 2==0) (f 3==0) (f 4==0) (f 5==0) (f 6==0) (f 7==0)
 exact⟨this.1,this.2.1⟩
def prt (f:Nat→Nat):List UInt8:=if (Bz (zs f)).2 - (Bz (zs f)).1<2 then jx (V8 f)else jx ((V8 f).take (Bz (zs f)).1)++[58,58]++jx ((V8 f).drop (Bz (zs f)).2)
theorem Kw {w:World} {g:Nat} {t:TypeId} {L:List Nat} (h:Box w g t L):aY w (some ⟨g,0,none⟩) L.length (aT L):=
 aY.jF (kN L) (Array.getElem?_eq_some_iff.1 h).1 (fun j hj=>by
  rw[Nat.zero_add,h.cell j (by rw[kN]at hj;exact hj)]
  simp[aT])
theorem W9 {f:Nat→Nat} (h:∀i,f i<65536):∀x ∈ V8 f,x<65536:=by
 intro x hx
 simp only[V8,List.mem_cons,List.not_mem_nil,or_false]at hx
 rcases hx with rfl|rfl|rfl|rfl|rfl|rfl|rfl|rfl<;>exact h _
theorem print_any (f:Nat→Nat) (h6:∀i,f i<65536) (w:World) (hL:oI w):Calls Tryz.prog 324 #[A8 f] w fun e w'=>e=.returned (.string (strOf (prt f)))∧Below w.heap.size w w':=by
 obtain⟨P,hP⟩:∃P,P=prt f:=⟨_,rfl⟩
 rw[←hP]
 have Y8:=hid hL
 have H6:=hid (W9 h6)
 have hab:=LC f
 have hlq:=fun w=>aaL f w
 unfold prt at hP
 unfold A8 at hlq⊢
 obtain⟨a,ha⟩:∃a,a=(Bz (zs f)).1:=⟨_,rfl⟩
 obtain⟨b,hb⟩:∃b,b=(Bz (zs f)).2:=⟨_,rfl⟩
 rw[←ha,←hb]at hP hab
 have hlq2:∀w,Calls Tryz.prog 349 #[.agg #[.int .u16 (f 0:Int),.int .u16 (f 1:Int),.int .u16 (f 2:Int),.int .u16 (f 3:Int),.int .u16 (f 4:Int),.int .u16 (f 5:Int),.int .u16 (f 6:Int),.int .u16 (f 7:Int)]] w fun e w'=>e=.returned (.tuple #[.int .i64 (a:Int),.int .i64 (b:Int)])∧Below w.heap.size w w':=by
  intro w
  rw[ha,hb]
  exact hlq w
 have HLQ:=hid hlq2
 obtain⟨hab1,hab2⟩:=hab
 have HP:=hid hP
 clear hlq hlq2 ha hb hL h6 hP
 go_enter Tryz.func324,Tryz.ntmps324
 go_upto_region 1 with(fail)
 generalize hw1:w.alloc _=w1
 have HB1:Hid (Below w.heap.size w w1):=by
  show Below _ _ _
  rw[←hw1]
  exact(Below.refl _ _).alloc (Nat.le_refl _) _
 have kP:Hid (Box w1 w.heap.size 290 (V8 f)):=by
  show Box _ _ _ _
  rw[←hw1]
  exact Xo f
 clear hw1
 obtain⟨c0,c1,c2,c3,c4,c5,c6,c7⟩:=dK kP.out f rfl
 go_wp2_with fail
 refine(HLQ.out _).mono ?_
 rintro e w2 ⟨rfl,hb2⟩
 have HB2:Hid (Below w.heap.size w w2):=bel HB1.out hb2
 have gY:=hid (kP.out.below hb2)
 have hab3:(a:Int)≤(b:Int):=by omega
 have hb8i:(b:Int)≤8:=by omega
 clear hb2 c0 c1 c2 c3 c4 c5 c6 c7
 by_cases hlt:b - a<2
 ·have hlti:(b:Int) - (a:Int)<2:=by omega
  have HE:Hid (P=jx (V8 f)):=by show _=_;rw[HP.out,if_pos hlt]
  clear hlt
  go_wp2_with fail
  refine(QE _ 8 8 (V8 f) _ (Kw gY.out) (Nat.le_refl _) H6.out (Y8.out.below HB2.out)).mono ?_
  rintro e w3 ⟨rfl,hb3⟩
  go_wp2
  go_ret
  exact⟨by rw[HE.out];rfl,bel HB2.out hb3⟩
 have hlti:¬(b:Int) - (a:Int)<2:=by omega
 have ha8:a≤8:=by omega
 obtain⟨P1,hP1⟩:∃P1,P1=strOf (jx ((V8 f).take a)):=⟨_,rfl⟩
 obtain⟨P2,hP2⟩:∃P2,P2=strOf (jx ((V8 f).take a)++[58,58]):=⟨_,rfl⟩
 obtain⟨P3,hP3⟩:∃P3,P3=strOf (jx ((V8 f).drop b)):=⟨_,rfl⟩
 obtain⟨P4,hP4⟩:∃P4,P4=strOf P:=⟨_,rfl⟩
 have hl1:=KQ ((V8 f).take a)
 have hl2:=KQ ((V8 f).drop b)
 rw[List.length_take]at hl1
 rw[List.length_drop]at hl2
 have h8l:(V8 f).length=8:=rfl
 rw[h8l]at hl1 hl2
 have a1:∀w:World,(Op.stringOp .add P1 ⟨#[58,58]⟩).run Tryz.prog w=.ok (.string P2) w:=fun w=>by
  rw[hP1,hP2]
  exact str_add _ [58,58] w (by simp;omega)
 have a2:∀w:World,(Op.stringOp .add P2 P3).run Tryz.prog w=.ok (.string P4) w:=fun w=>by
  rw[hP2,hP3,hP4,HP.out,if_neg hlt]
  exact str_add _ _ w (by rw[List.length_append];simp;omega)
 have yc:=hid hP1
 have Zb:=hid hP3
 have HE:Hid (P4=strOf P):=hP4
 have HT:Hid (aY w2 (some ⟨w.heap.size,0,none⟩) a (aT ((V8 f).take a))):=by
  have:=(Kw gY.out).upto a (by show a≤8;omega)
  have e:aT ((V8 f).take a)=(aT (V8 f)).take a:=by simp[aT]
  show aY _ _ _ _
  rw[e]
  exact this
 have HD:Hid (aY w2 (some ⟨w.heap.size,b,none⟩) (8 - b) (aT ((V8 f).drop b))):=by
  have:=(Kw gY.out).cut b (by show b≤8;omega)
  have e:aT ((V8 f).drop b)=(aT (V8 f)).drop b:=by simp[aT]
  show aY _ _ _ _
  rw[e]
  rw[show(V8 f).length=8 from rfl,Nat.zero_add]at this
  exact this
 have HM1:Hid (∀x ∈ (V8 f).take a,x<65536):=fun x hx=>H6.out x (List.mem_of_mem_take hx)
 have HM2:Hid (∀x ∈ (V8 f).drop b,x<65536):=fun x hx=>H6.out x (List.mem_of_mem_drop hx)
 clear hlt hP1 hP2 hP3 hP4 hl1 hl2 h8l
 go_wp2_with fail
 refine aV (by kernel_rfl) [is (.int .i64 (a:Int)),is (.slice (some ⟨w.heap.size,0,none⟩) a 8),is (.string P1),is (.string P2),is (.int .i64 (b:Int)),row (8 - b) (aT ((V8 f).drop b)),is (.string P3),is (.string P4),is (.string P4)] [[],[0],[1],[2],[],[4],[5],[3,6],[7]] (by kernel_rfl) ?_ ?_
 ·refine ⟨?_,?_,?_,?_,?_,?_,?_,?_,?_,trivial⟩
  all_goals(intro t wq hbq hh K hK;simp only[filled,upd,Have,is,any,row,pick,Act.put,List.setIfInBounds_toArray,List.set_cons_zero,List.set_cons_succ,Nat.reduceAdd,Nat.reduceEqDiff,reduceIte,List.tail_cons,List.headD_cons]at hh hK⊢)
  ·(try clear hh);go_simp;exact hK _ _ (Below.refl _ _) rfl
  ·simp only[hh]at hK⊢
   clear hh
   have ha1:(a:Int)≤8:=by omega
   have ha0:(0:Int)≤(a:Int):=by omega
   go_simp
   exact hK _ _ (Below.refl _ _) rfl
  ·simp only[hh]at hK⊢;clear hh;go_simp;refine(QE _ a 8 ((V8 f).take a) _ (HT.out.below hbq) (by omega) HM1.out (Y8.out.below (HB2.out.trans (hbq.mono HB2.out.size)))).mono ?_;rintro e w5 ⟨rfl,hb5⟩;rw[←yc.out];exact hK _ _ hb5 rfl
  ·simp only[hh]at hK⊢;clear hh;go_simp;exact hK _ _ (Below.refl _ _) rfl
  ·(try clear hh);go_simp;exact hK _ _ (Below.refl _ _) rfl
  ·simp only[hh]at hK⊢
   clear hh
   have hb1:(b:Int)≤8:=by omega
   have hb0:(0:Int)≤(b:Int):=by omega
   by_cases hb8:b=8
   ·have hz:8 - b=0:=by omega
    simp only[hb8]at hK
    go_simp
    exact hK _ _ (Below.refl _ _) ⟨_,_,rfl,by omega,by unfold maxLen;omega,by rw[List.drop_eq_nil_of_le (by show 8≤8;omega)];exact aY.nil _⟩
   have hz:¬8 - b=0:=by omega
   have hz2:¬8=b:=by omega
   go_simp
   exact hK _ _ (Below.refl _ _) ⟨_,_,rfl,Nat.le_refl _,by unfold maxLen;omega,HD.out.below hbq⟩
  ·have e5:=hh.1;(try clear hh);obtain⟨A5,c5,e5,hc5,hm5,hr5⟩:=e5;simp only[e5]at hK⊢;go_simp;refine(QE A5 (8 - b) c5 ((V8 f).drop b) _ hr5 (by omega) HM2.out (Y8.out.below (HB2.out.trans (hbq.mono HB2.out.size)))).mono ?_;rintro e w5 ⟨rfl,hb5⟩;rw[←Zb.out];exact hK _ _ hb5 rfl
  ·simp only[hh]at hK⊢;clear hh;go_simp;first|exact hK _ _ (Below.refl _ _) rfl|exact hK _ _ (Below.refl _ _) trivial
  simp only[hh]at hK⊢;clear hh;go_simp;exact hK _ _ (Below.refl _ _) rfl
 intro t wq hbq hh
 have f8:=aB hh 8 (by decide)
 simp only[pick]at f8
 replace f8:t 8=(.string P4):=f8
 clear hh
 simp only[filled,upd,Have,is,any,row,pick,Act.put,List.setIfInBounds_toArray,List.set_cons_zero,List.set_cons_succ,Nat.reduceAdd,Nat.reduceEqDiff,reduceIte]
 simp only[f8]
 go_wp2
 go_ret
 exact⟨by rw[←HE.out];rfl,HB2.out.trans (hbq.mono HB2.out.size)⟩
end Go.Proofs.YtmpeaoacaecgpaaGreatDoor.nP
namespace Go.Proofs.YtmpeaoacaecgpaaGreatDoor.cO
open Go.RowKit Base
def low (c:UInt8):UInt8:=if 65≤c.toNat∧c.toNat≤90 then c+32 else c
def lower (l:List UInt8):List UInt8:=l.map low
def wU (l:List UInt8) (k:Nat):List UInt8:=(l.take k).map low++l.drop k
theorem pz (l:List UInt8) (k:Nat):(wU l k).length=l.length:=by simp[wU];omega
theorem Vy (l:List UInt8) (k:Nat) (h:k<l.length):(wU l k)[k]'(by rw[pz];exact h)=l[k]:=by
 have:k≤l.length:=by omega
 simp[wU,List.getElem_append,this,Nat.min_eq_left this]
theorem QK (l:List UInt8) (k:Nat) (h:k<l.length):wU l (k+1)=(wU l k).set k (low l[k]):=by
 unfold wU
 apply List.ext_getElem
 ·simp;omega
 intro i h1 h2
 simp only[List.getElem_append,List.getElem_set,List.length_map,List.length_take,List.getElem_map,List.getElem_take,List.getElem_drop]
 by_cases a:i<k
 ·rw[dif_pos (by omega),if_neg (by omega),dif_pos (by omega)]
 by_cases b:i=k
 ·subst b
  rw[dif_pos (by omega),if_pos rfl]
 rw[dif_neg (by omega),if_neg (by omega),dif_neg (by omega)]
 congr 1
 omega
theorem ahW (l:List UInt8):wU l l.length=lower l:=by simp[wU,lower]
theorem adV (l:List UInt8):wU l 0=l:=by simp[wU]
theorem afP (c:UInt8) (h1:65≤(c.toNat:Int)) (h2:(c.toNat:Int)≤90):((low c).toNat:Int)=(c.toNat:Int)+32:=by
 unfold low;rw[if_pos (by omega)];simp[UInt8.toNat_add];omega
theorem amq (c:UInt8) (h:¬(65≤(c.toNat:Int)∧(c.toNat:Int)≤90)):low c=c:=by
 unfold low;rw[if_neg (by omega)]
theorem set_self {l:List UInt8} {k:Nat} (h:k<l.length) (c:UInt8) (e:l[k]=c):l.set k c=l:=by subst e;simp
theorem gI (s:ByteArray) (w:World) (hs:s.size≤maxLen):Calls Tryz.prog 112 #[.string s] w fun e w'=>e=.returned (.string (strOf (lower s.data.toList)))∧Below w.heap.size w w':=by
 unfold maxLen at hs
 have hcv:=fun(w:World) s=>run_bytes_of_string (P:=Tryz.prog) w 9 45 5 s Tryz.underlying9 Tryz.underlying45 Tryz.underlying5
 have Gh:Hid (s.size≤grownCap w s.size 0 5):=grownCap_ge w s.size 0 5
 go_enter Tryz.func112,Tryz.ntmps112
 go_wp2
 clear hcv
 go_loopw [4,5,10] (fun _ _ i wr=>∃k:Nat,k≤s.size∧i=.int .i64 k∧oK wr w.heap.size 5 (wU s.data.toList k)∧Below w.heap.size w wr) (fun _ _ i _=>s.size - (intOf i).toNat)
 case atStart=>exact⟨0,Nat.zero_le _,rfl,(by rw[adV];exact oK.made w s 5 _ Gh.out),((Below.refl _ _).alloc (Nat.le_refl _) _).drew⟩
 case round =>
  obtain⟨k,hk,rfl,hrow,hbel⟩:=hrel
  by_cases hlt:k<s.size
  ·obtain ⟨c,hcs⟩:∃c:UInt8,c=s.data.toList[k]:=⟨_,rfl⟩
   have hc:wr.cell? ⟨w.heap.size,k,none⟩=some (.int .u8 (c.toNat:Int)):=by
    rw[hcs,hrow.cell k (by rw[pz];exact hlt)]
    simp only[Vy s.data.toList k hlt]
   have hf:=hrow.frozen k (by rw[pz];exact hlt)
   have HC:=hid hcs
   clear hcs
   have HR:=hid hrow
   clear hrow
   by_cases hA:65≤(c.toNat:Int)∧(c.toNat:Int)≤90
   ·obtain⟨hA1,hA2⟩:=hA
    go_wp2
    go_roundw
    case rel=>exact⟨k+1,by omega,by go_num,by
     have:=HR.out.set k (low c)
     rw[afP c hA1 hA2]at this
     rw[QK s.data.toList k hlt,←HC.out]
     exact this,hbel.setCell (Nat.le_refl _) _⟩
    case measure=>simp[intOf];omega
   have hlow:=amq c hA
   have HL:=hid hlow
   clear hlow
   go_wp2
   all_goals
    go_roundw
    case rel=>exact⟨k+1,by omega,by go_num,by
     rw[QK s.data.toList k hlt,←HC.out,HL.out,set_self (by rw[pz];exact hlt) c (by rw[Vy _ _ hlt,HC.out])]
     exact HR.out,hbel⟩
    case measure=>simp[intOf];omega
  obtain rfl:k=s.size:=by omega
  have hback:=run_convert_bytes_back (P:=Tryz.prog) wr 45 9 5 ⟨w.heap.size,0,none⟩ (grownCap w s.size 0 5) (wU s.data.toList s.size) Tryz.underlying45 Tryz.underlying5 Tryz.underlying9 (fun j hj=>by
   have:=hrow.cell j hj
   rw[Xd];exact this)
  rw[pz,show s.data.toList.length=s.size from Array.length_toList,show wU s.data.toList s.size=lower s.data.toList from ahW _]at hback
  go_wp2
  go_ret
  exact⟨rfl,hbel⟩
end Go.Proofs.YtmpeaoacaecgpaaGreatDoor.cO
namespace Go.Proofs.YtmpeaoacaecgpaaGreatDoor.jK
open Go.RowKit Base dI cO
theorem dN (c:Int) (w:World):Calls Tryz.prog 123 #[.int .u8 c] w fun e w'=>e=.returned (.bool (letter c))∧w=w':=by
 go_enter Tryz.func123,Tryz.ntmps123
 go_wp2
 all_goals
  go_ret
  exact⟨ak (by unfold letter;rw[Bool.eq_iff_iff];simp;omega),rfl⟩
theorem fE (c:Int) (w:World):Calls Tryz.prog 234 #[.int .u8 c] w fun e w'=>e=.returned (.bool (digit c))∧w=w':=by
 go_enter Tryz.func234,Tryz.ntmps234
 go_wp2
 all_goals
  go_ret
  exact⟨ak (by unfold digit;rw[Bool.eq_iff_iff];simp;omega),rfl⟩
def jR (k:Nat):Int:=if k<10 then 48+k else 87+k
def hit (c:Int) (k:Nat):Prop:=jR k=c∨9<k∧jR k - 32=c
theorem afy (c:Int) (k:Nat) (hk:k<16) (h:hit c k):hex c=k:=by
 unfold hit jR at h
 unfold hex
 split at h<;>(repeat' split)<;>omega
theorem alW (c:Int) (h:∀j,j<16→¬hit c j):hex c= -1:=by
 unfold hex
 split
 ·rename_i h1
  refine absurd ?_ (h (c - 48).toNat (by omega))
  unfold hit jR
  rw[if_pos (by omega)]
  omega
 split
 ·rename_i h1
  refine absurd ?_ (h (c - 87).toNat (by omega))
  unfold hit jR
  rw[if_neg (by omega)]
  omega
 split
 ·rename_i h1
  refine absurd ?_ (h (c - 55).toNat (by omega))
  unfold hit jR
  rw[if_neg (by omega)]
  omega
 rfl
def aj1 (c:Int) (k:Nat):Prop:=∀j,j<k→¬hit c j
theorem zV (k:Nat) (h:k<(⟨#[48,49,50,51,52,53,54,55,56,57,97,98,99,100,101,102]⟩:ByteArray).size):(((⟨#[48,49,50,51,52,53,54,55,56,57,97,98,99,100,101,102]⟩:ByteArray)[k]'h).toNat:Int)=jR k:=by
 have h':k<16:=h
 have hcase:k=0∨k=1∨k=2∨k=3∨k=4∨k=5∨k=6∨k=7∨k=8∨k=9∨k=10∨k=11∨k=12∨k=13∨k=14∨k=15:=by omega
 rcases hcase with rfl|rfl|rfl|rfl|rfl|rfl|rfl|rfl|rfl|rfl|rfl|rfl|rfl|rfl|rfl|rfl<;>rfl
theorem dig_lo (k:Nat) (h:k<16):48≤jR k∧jR k≤102∧(9<k→97≤jR k):=by
 unfold jR
 split<;>omega
theorem dV (c:Int) (w:World):Calls Tryz.prog 177 #[.int .u8 c] w fun e w'=>e=.returned (.int .i64 (hex c))∧w=w':=by
 go_enter Tryz.func177,Tryz.ntmps177
 go_wp2
 go_loop [4] (fun i=>∃k:Nat,k≤16∧i=.int .i64 k∧aj1 c k) (fun i=>16 - (intOf i).toNat)
 case atStart=>exact⟨0,by omega,rfl,fun j hj=>absurd hj (by omega)⟩
 case round=>
  obtain⟨k,hk,rfl,hno⟩:=hrel
  have HN:=hid hno
  clear hno
  by_cases h16:k<16
  ·have hx:=zV k h16
   obtain⟨b1,b2,b3⟩:=dig_lo k h16
   obtain⟨d,hd⟩:∃d,d=jR k:=⟨_,rfl⟩
   rw[←hd]at hx b1 b2 b3
   have HD:=hid hd
   clear hd
   by_cases e1:d=c
   ·have HE:Hid (hex c=k):=afy c k h16 (.inl (by rw[←HD.out];exact e1))
    have e1':(d==c)=true:=by simpa using e1
    clear e1
    go_wp2
    go_ret
    rw[HE.out]
    exact⟨rfl,rfl⟩
   have e1':(d==c)=false:=by simpa using e1
   by_cases h9:9<k
   ·have b4:=b3 h9
    by_cases e2:d - 32=c
    ·have HE:Hid (hex c=k):=afy c k h16 (.inr ⟨h9,by rw[←HD.out];exact e2⟩)
     have e2':(d - 32==c)=true:=by simpa using e2
     clear e1 e2 b3
     go_wp2
     go_ret
     rw[HE.out]
     exact⟨rfl,rfl⟩
    have HE:Hid (aj1 c (k+1)):=fun j hj=>by
     by_cases e:j=k
     ·subst e
      rintro(h|⟨_,h⟩)
      ·exact e1 (by rw[HD.out];exact h)
      exact e2 (by rw[HD.out];exact h)
     exact HN.out j (by omega)
    have e2':(d - 32==c)=false:=by simpa using e2
    clear e1 e2 b3
    go_wp2
    go_round
    case rel=>exact⟨k+1,by omega,by go_num,HE.out⟩
    case measure=>simp[intOf];omega
   have HE:Hid (aj1 c (k+1)):=fun j hj=>by
    by_cases e:j=k
    ·subst e
     rintro(h|⟨h,_⟩)
     ·exact e1 (by rw[HD.out];exact h)
     exact h9 h
    exact HN.out j (by omega)
   clear e1 b3
   go_wp2
   go_round
   case rel=>exact⟨k+1,by omega,by go_num,HE.out⟩
   case measure=>simp[intOf];omega
  obtain rfl:k=16:=by omega
  have HE:Hid (hex c= -1):=alW c HN.out
  go_wp2
  go_ret
  rw[HE.out]
  exact⟨rfl,rfl⟩
theorem gI (s:ByteArray) (w:World) (hs:s.size≤1073741824):Calls Tryz.prog 79 #[.string s] w fun e w'=>e=.returned (.string (strOf (lower s.data.toList)))∧Below w.heap.size w w':=by
 obtain⟨i0,hi,hz0,hz1,hz2⟩:=info_parts iR
 have hl:s.data.toList.length=s.size:=Array.length_toList
 have HL:=hid hl
 clear hl
 go_enter Tryz.func79,Tryz.ntmps79
 go_wp2
 go_loopw [3,8] (fun v vk wr=>∃k:Nat,k≤s.size∧vk=.int .i64 k∧wr.ownsRow w.heap.size 5 1 v k (ah (lower (s.data.toList.take k)))∧Below w.heap.size w wr) (fun _ vk _=>s.size - (intOf vk).toNat)
 case atStart=>exact⟨0,Nat.zero_le _,rfl,World.ownsRow_nil _ _ _ _,Below.refl _ _⟩
 case round=>
  obtain⟨k,hk,rfl,hown,hbel⟩:=hrel
  by_cases hlt:k<s.size
  ·obtain⟨c,hc⟩:∃c,s[k]=c:=⟨_,rfl⟩
   have HS:Hid (ah (lower (s.data.toList.take (k+1)))=ah (lower (s.data.toList.take k))++[.int .u8 ((low c).toNat:Int)]):=by
    rw[←hc,List.take_succ_eq_append_getElem (by rw[HL.out];exact hlt)]
    simp[lower,ah]
    rfl
   by_cases hA:65≤(c.toNat:Int)∧(c.toNat:Int)≤90
   ·obtain⟨hA1,hA2⟩:=hA
    have HC:=hid (afP c hA1 hA2)
    go_wp2_with (at_builtin;refine wpList_append_own _ rfl _ _ 45 rfl w.heap.size 5 i0 (.int .u8 0) 1 1 Tryz.underlying45 hi hz0 hz1 hz2 rfl (by decide) _ _ _ rfl (hown.alloc _) ⟨wr.heap.size,0,none⟩ 1 1 [.int .u8 ((c.toNat:Int)+32)] rfl rfl ?c1 ?c2 ?c3 ?c4 ?c5 ?_)
    case c1=>exact cell_one_new _ _ _
    case c2=>intro u hu;simp at hu;subst hu;rfl
    case c3=>unfold maxLen;omega
    case c4=>omega
    case c5=>have:=hbel.size;simp;omega
    intro v' w2 hown2 hg2 _
    have dZ:Below w.heap.size w w2:=(hbel.alloc hbel.size _).grown hg2 (by have:=hbel.size;simp;omega) (fun g hg=>(hown.lt g hg).1)
    clear hown hbel hg2
    go_wp2
    go_roundw
    case rel=>exact⟨k+1,by omega,by go_num,by rw[HS.out,HC.out];exact hown2,dZ⟩
    case measure=>simp[intOf];omega
   have HC:=hid (amq c hA)
   go_wp2_with (at_builtin;refine wpList_append_own _ rfl _ _ 45 rfl w.heap.size 5 i0 (.int .u8 0) 1 1 Tryz.underlying45 hi hz0 hz1 hz2 rfl (by decide) _ _ _ rfl (hown.alloc _) ⟨wr.heap.size,0,none⟩ 1 1 [.int .u8 (c.toNat:Int)] rfl rfl (cell_one_new _ _ _) (by intro u hu;simp at hu;subst hu;rfl) (by unfold maxLen;omega) (by omega) (by have:=hbel.size;simp;omega) ?_)
   all_goals
    intro v' w2 hown2 hg2 _
    have dZ:Below w.heap.size w w2:=(hbel.alloc hbel.size _).grown hg2 (by have:=hbel.size;simp;omega) (fun g hg=>(hown.lt g hg).1)
    clear hown hbel hg2
    go_wp2
    go_roundw
    case rel=>exact⟨k+1,by omega,by go_num,by rw[HS.out,HC.out];exact hown2,dZ⟩
    case measure=>simp[intOf];omega
  obtain rfl:k=s.size:=by omega
  obtain⟨A,c,rfl,_,_,hrd⟩:=aJ hown
  have hst:=aF 45 9 5 Tryz.underlying45 Tryz.underlying5 Tryz.underlying9 _ c hrd
  have HE:Hid (s.data.toList.take s.size=s.data.toList):=by
   rw[←HL.out];exact List.take_length
  rw[HE.out]at hst
  go_wp2
  go_ret
  exact⟨rfl,hbel⟩
end Go.Proofs.YtmpeaoacaecgpaaGreatDoor.jK
namespace Go.Proofs.YtmpeaoacaecgpaaGreatDoor.SixE
open Go.RowKit Base Base2 Base3 dI oO wu O6 TJ O5
theorem Ey (s:ByteArray) (k:Nat):(s.extract k s.size).data.toList=s.data.toList.drop k:=by
 have hl:s.data.toList.length=s.size:=Array.length_toList
 rw[ByteArray.data_extract]
 simp only[Array.toList_extract,List.extract_eq_take_drop]
 rw[List.take_of_length_le (by rw[List.length_drop];omega)]
end Go.Proofs.YtmpeaoacaecgpaaGreatDoor.SixE
namespace Go.Proofs.YtmpeaoacaecgpaaGreatDoor.SixF
open Go.RowKit Base Base2 Base3 dI oO wu O6 TJ O5 gU SixE
theorem Rl {t:List UInt8} {a b:Nat} (h:lN t=some [a,b]):a<65536∧b<65536:=by
 have hall:∀(ps:List (List UInt8)) (l:List Nat),smalls ps=some l→∀x ∈ l,x≤255:=by
  intro ps
  induction ps with
  |nil=>intro l h;injection h with h;subst h;intro x hx;simp at hx
  |cons p r ih=>
   intro l h
   rw[smalls]at h
   split at h
   ·rename_i n y h1 h2
    injection h with h
    subst h
    intro x hx
    rcases List.mem_cons.1 hx with rfl|hx
    ·exact abB h1
    exact ih y h2 x hx
   cases h
 unfold lN at h
 cases e:smalls (bZ t)with
 |none=>rw[e]at h;cases h
 |some l=>
  rw[e]at h
  replace h:two l=some [a,b]:=h
  unfold two at h
  split at h
  ·rename_i x1 x2 x3 x4
   injection h with h
   injection h with h1 h
   injection h with h2 _
   have y1:=hall _ _ e x1 (by simp)
   have y2:=hall _ _ e x2 (by simp)
   have y3:=hall _ _ e x3 (by simp)
   have y4:=hall _ _ e x4 (by simp)
   omega
  cases h
end Go.Proofs.YtmpeaoacaecgpaaGreatDoor.SixF
namespace Go.Proofs.YtmpeaoacaecgpaaGreatDoor.akq
open Go.RowKit Base oO wu O6 TJ O5 gU jQ WU nP
theorem abA (s:List UInt8):six s=match adB (dJ s)with
  |none=>wu.eight (iT true (dJ s)) []
  |some p=>both (gJ false p.1) (gJ true p.2) []:=by
 rw[KA s]
 unfold six
 cases BQ s<;>rfl
theorem aa2 {p:List UInt8} {n:Nat} (h:piece p=some n):p≠[]∧eu 16 p=true:=by
 unfold piece at h
 split at h
 ·rename_i h2
  refine⟨?_,h2.2.2⟩
  rintro rfl
  simp at h2
 cases h
theorem DX {p:List UInt8} {n:Nat} (h:piece p=some n) (x:UInt8) (hx:lH 16 x=false):∀c ∈ p,c≠x:=by
 rintro c hc rfl
 rw[Iw (aa2 h).2 hc]at hx
 cases hx
theorem LJ:∀(ws:List (List UInt8)) (ns:List Nat),ws≠[]→ws.map piece=ns.map some→dJ (jo ws)=ws
 |[],_,h,_=>absurd rfl h
 |[w],ns,_,h=>by
  match ns,h with
  |[],h=>simp at h
  |n::ns,h=>
   simp at h
   exact AP w (DX h.1 58 (lX 16))
 |w::v::r,ns,_,h=>by
  match ns,h with
  |n::ns,h=>
   simp only[List.map_cons,List.cons.injEq]at h
   show dJ (w++58::jo (v::r))=_
   rw[zu w _ (DX h.1 58 (lX 16)),LJ (v::r) ns (by simp) (by simpa using h.2)]
theorem FU:∀(ws:List (List UInt8)) (ns:List Nat) (M:List UInt8),ws≠[]→ws.map piece=ns.map some→dJ (jo ws++58::M)=ws++dJ M
 |[],_,_,h,_=>absurd rfl h
 |[w],ns,M,_,h=>by
  match ns,h with
  |[],h=>simp at h
  |n::ns,h=>
   simp at h
   exact zu w M (DX h.1 58 (lX 16))
 |w::v::r,ns,M,_,h=>by
  match ns,h with
  |n::ns,h=>
   simp only[List.map_cons,List.cons.injEq]at h
   show dJ ((w++58::jo (v::r))++58::M)=_
   rw[List.append_assoc,List.cons_append,zu w _ (DX h.1 58 (lX 16)),FU (v::r) ns M (by simp) (by simpa using h.2)]
   rfl
theorem Oo (e:Bool):∀(ws:List (List UInt8)) (ns:List Nat),ws.map piece=ns.map some→iT e ws=some ns
 |[],ns,h=>by
  match ns,h with
  |[],_=>rfl
 | w :: r, ns, h => by
  match ns,h with
  |n::ns,h=>
   simp only[List.map_cons,List.cons.injEq]at h
   have hn:¬(e=true∧r=[]∧w.contains 46=true):=by
    rintro⟨_,_,h3⟩
    have hm:(46:UInt8) ∈ w:=by simpa using h3
    exact DX h.1 46 (qW 16) 46 hm rfl
   rw[iT,if_neg hn,h.1,Oo e r ns h.2]
theorem aam:∀(ws:List (List UInt8)),(∀w ∈ ws,w≠[])→FC ws=none
 |[],_=>rfl
 |[_],_=>rfl
 |p::q::r,h=>by
  rw[FC,if_neg (h p (by simp)),aam (q::r) fun w hw=>h w (by simp[hw])]
theorem aft:∀(ws q:List (List UInt8)),(∀w ∈ ws,w≠[])→q≠[]→FC (ws++[]::q)=some (ws,q)
 |[],q,_,hq=>IK q hq
 |p::r,q,h,hq=>by
  have ih:=aft r q (fun w hw=>h w (by simp[hw])) hq
  cases hr:r++[]::q with
  |nil=>simp at hr
  |cons x y=>
   rw[hr]at ih
   show FC (p::(r++[]::q))=_
   rw[hr,FC,if_neg (h p (by simp)),ih]
theorem adW {ws:List (List UInt8)} {ns:List Nat} (h:ws.map piece=ns.map some):∀w ∈ ws,w≠[]:=by
 induction ws generalizing ns with
 |nil=>intro w hw;simp at hw
 |cons v r ih=>
  match ns,h with
  |n::ns,h=>
   simp only[List.map_cons,List.cons.injEq]at h
   intro w hw
   rcases List.mem_cons.1 hw with rfl|hw
   ·exact(aa2 h.1).1
   exact ih h.2 w hw
theorem map_len {ws:List (List UInt8)} {ns:List Nat} (h:ws.map piece=ns.map some):ws.length=ns.length:=by
 have:=congrArg List.length h
 simpa using this
theorem six_all (ws:List (List UInt8)) (ns:List Nat) (h:ws.map piece=ns.map some) (h8:ns.length=8):six (jo ws)=some ns:=by
 have hl:=map_len h
 have hne:=adW h
 match ws,hl,hne,h with
 |[],hl,_,_=>simp at hl;omega
 |p::r,_,hne,h=>
  rw[abA,LJ _ ns (by simp) h]
  have:adB (p::r)=none:=by
   show(match FC r with|none=>none|some x=>some (p::x.1,x.2))=none
   rw[aam r fun w hw=>hne w (by simp[hw])]
  rw[this]
  simp only[]
  rw[Oo true _ ns h]
  unfold wu.eight
  simp[h8]
theorem abz (e:Bool) (ws:List (List UInt8)) (ns:List Nat) (h:ws.map piece=ns.map some):gJ e (dJ (jo ws))=some ns:=by
 match ws,h with
 |[],h=>
  match ns,h with
  |[],_=>rfl
 |p::r,h=>
  have hne:=adW h
  rw[LJ _ ns (by simp) h,oD e,Oo e _ ns h]
  intro h2
  exact hne [] (by rw[h2];simp) rfl
theorem six_gap (ws1 ws2:List (List UInt8)) (ns1 ns2:List Nat) (h1:ws1.map piece=ns1.map some) (h2:ws2.map piece=ns2.map some) (hl:ns1.length+ns2.length<8):
  six (jo ws1++58::58::jo ws2)=some (fill ns1 ns2):=by
 rw[abA]
 match ws1,h1 with
 | [],h1=>
  match ns1,h1,hl with
  |[],_,hl=>
   rw[show jo []++58::58::jo ws2=58::58::jo ws2 from rfl,fP,fP]
   have:adB ([]::[]::dJ (jo ws2))=some ([[]],dJ (jo ws2)):=by
    show(match FC ([]::dJ (jo ws2))with|none=>none|some x=>some ([]::x.1,x.2))=_
    rw[IK _ (kF _)]
   rw[this]
   simp only[]
   rw[abz true ws2 ns2 h2,show gJ false [[]]=some []from rfl]
   unfold both
   simp only[List.length_nil,Nat.zero_add]at hl⊢
   rw[if_pos hl]
   rfl
 |p::r,h1=>
  have hne:=adW h1
  rw[FU _ ns1 _ (by simp) h1,fP]
  have:adB ((p::r)++[]::dJ (jo ws2))=some (p::r,dJ (jo ws2)):=by
   show(match FC (r++[]::dJ (jo ws2))with|none=>none|some x=>some (p::x.1,x.2))=_
   rw[aft r _ (fun w hw=>hne w (by simp[hw])) (kF _)]
  rw[this]
  simp only[]
  rw[abz true ws2 ns2 h2,oD false,Oo false _ ns1 h1]
  ·unfold both
   simp only[List.length_nil,Nat.zero_add]
   rw[if_pos hl]
   rfl
  ·intro h3
   exact hne [] (by rw[h3];simp) rfl
theorem ahl (d:Nat) (h:d<16):eu 16 [lW d]=true:=by
 unfold eu
 simp[(XR d h).1]
theorem IZ:∀(m n:Nat),n≤m→n<65536→eu 16 (hx n)=true∧val 16 (hx n)=n∧1≤(hx n).length
 | m,n,hm,h6=>by
  by_cases h16:16≤n
  ·cases m with
   |zero=>omega
   |succ m=>
    obtain⟨i1,i2,i3⟩:=IZ m (n / 16) (by omega) (by omega)
    have hd:=XR (n%16) (by omega)
    rw[al9 h16 h6]
    refine⟨?_,?_,?_⟩
    ·rw[yI,i1,hd.1];rfl
    ·rw[jh,i2,hd.2.1];omega
    ·simp
  ·have hd:=XR n (by omega)
   rw[aaB (by omega)]
   refine⟨ahl n (by omega),?_,by simp⟩
   show 0*16+dv (lW n)=n
   rw[hd.2.1]
   omega
theorem amV (n:Nat) (h:n<65536):piece (hx n)=some n:=by
 obtain⟨h1,h2,h3⟩:=IZ n n (Nat.le_refl _) h
 rw[Ap h3 (adN n) h1,h2]
theorem XZ:∀(L:List Nat),(∀x ∈ L,x<65536)→(L.map hx).map piece=L.map some
 |[],_=>rfl
 |n::L,h=>by
  rw[List.map_cons,List.map_cons,List.map_cons,amV n (h n (by simp)),XZ L fun x hx=>h x (by simp[hx])]
theorem alr (L:List Nat) (a b:Nat) (hL:L.length=8) (hab:a<b) (hb:b≤8) (hz:∀i (h:i<L.length),a≤i→i<b→L[i]=0):fill (L.take a) (L.drop b)=L:=by
 unfold fill
 apply List.ext_getElem
 ·simp;omega
 intro i h1 h2
 by_cases c1:i<a
 ·rw[List.getElem_append_left (by rw[List.length_append,List.length_take];omega),List.getElem_append_left (by rw[List.length_take];omega),List.getElem_take]
 by_cases c2:i<b
 ·rw[List.getElem_append_left (by rw[List.length_append,List.length_replicate,List.length_take,List.length_drop];omega),List.getElem_append_right (by rw[List.length_take];omega),List.getElem_replicate,hz i h2 (by omega) c2]
 rw[List.getElem_append_right (by rw[List.length_append,List.length_take,List.length_replicate,List.length_drop];omega),List.getElem_drop]
 congr 1
 rw[List.length_append,List.length_take,List.length_replicate,List.length_drop]
 omega
theorem aod (f:Nat→Nat):∀i (h:i<(V8 f).length),(Bz (zs f)).1≤i→i<(Bz (zs f)).2→(V8 f)[i]=0:=by
 intro i h h1 h2
 have hf:=(Vx (f 0==0) (f 1==0) (f 2==0) (f 3==0) (f 4==0) (f 5==0) (f 6==0) (f 7==0)).2.2.1
 replace hf:(((zs f).take (Bz (zs f)).2).drop (Bz (zs f)).1).all id=true:=hf
 have hi8:i<8:=h
 have hz:(zs f)[i]'hi8=true:=by
  have hm:(zs f)[i]'hi8 ∈ ((zs f).take (Bz (zs f)).2).drop (Bz (zs f)).1:=by
   refine List.mem_iff_getElem.2 ⟨i - (Bz (zs f)).1,?_,?_⟩
   ·rw[List.length_drop,List.length_take,Wv];have:=(LC f).2;omega
   rw[List.getElem_drop,List.getElem_take]
   congr 1
   omega
  exact List.all_eq_true.1 hf _ hm
 rw[akC f i hi8]
 have hz2:(f i==0)=true:=(aoe f i hi8 hi8).symm.trans hz
 simpa using hz2
theorem six_prt (f:Nat→Nat) (h:∀i,f i<65536):six (nP.prt f)=some (V8 f):=by
 have h6:=W9 h
 have hab:=LC f
 unfold nP.prt
 by_cases h2:(Bz (zs f)).2 - (Bz (zs f)).1<2
 ·rw[if_pos h2]
  exact six_all _ _ (XZ _ h6) rfl
 rw[if_neg h2]
 unfold jx
 rw[List.append_assoc]
 show six (jo _++58::58::jo _)=_
 have hV:(V8 f).length=8:=rfl
 rw[six_gap _ _ _ _ (XZ _ fun x hx=>h6 x (List.mem_of_mem_take hx)) (XZ _ fun x hx=>h6 x (List.mem_of_mem_drop hx)) (by rw[List.length_take,List.length_drop,hV];omega)]
 rw[alr (V8 f) _ _ rfl (by omega) hab.2 (aod f)]
theorem six_len {s:List UInt8} {V:List Nat} (h:six s=some V):V.length=8:=by
 unfold six at h
 split at h
 ·unfold wu.eight at h
  split at h
  ·split at h
   ·rename_i hlt
    injection h with h
    subst h
    simpa using hlt
   cases h
  cases h
 unfold both at h
 split at h
 ·split at h
  ·injection h with h
   subst h
   rename_i hlt
   unfold fill
   simp at hlt⊢
   omega
  cases h
 cases h
end Go.Proofs.YtmpeaoacaecgpaaGreatDoor.akq
