/- Texts that belong together: O6, Dp, TJ, acj, SplG, pO, O5, gU. -/
import Derived.Test.YtgamccijegollaaGreatDoorSOAAB
import Derived.Test.YtgamccijegollaaGreatDoorSOAAA
import Derived.Laws.BitsAllLaws
import Derived.Laws.OwnMore
import Derived.Test.YtgamccijegollaaGreatDoorShelf3
import Derived.Lib.SplitLaws
import Derived.Lib.IndexLaws
import Derived.Test.YtgamccijegollaaGreatDoorShelf
import Derived.Laws.Rows
import Derived.BigQuiet
import Derived.Laws.CopyOwn
set_option linter.unusedSimpArgs false
set_option linter.unusedVariables false
set_option maxRecDepth 100000
set_option maxHeartbeats 64000000
namespace Go.Proofs.YtgamccijegollaaGreatDoor.O6
open Go.RowKit Base dI oO wu
theorem lX (b:Nat):lH b 58=false:=by unfold lH;rfl
theorem qW (b:Nat):lH b 46=false:=by unfold lH;rfl
theorem Iw {b:Nat} {L:List UInt8} (h:eu b L=true) {c:UInt8} (hc:c ∈ L):lH b c=true:=List.all_eq_true.1 h c hc
theorem afj {b:Nat} {L:List UInt8} {c:UInt8} (hc:c ∈ L) (h:lH b c=false):eu b L=false:=by
 cases e:eu b L with
 |false=>rfl
 |true=>rw[Iw e hc]at h;cases h
theorem RJ {t:List UInt8}:dJ t=[[]]↔t=[]:=by
 constructor
 ·intro h
  cases t with
  |nil=>rfl
  |cons a r=>
   by_cases ha:a=58
   ·subst ha;rw[fP]at h;injection h with _ h;exact absurd h (kF r)
   obtain⟨x,s,_,e⟩:=jk ha r
   rw[e]at h
   cases h
 rintro rfl;rfl
theorem Ap {p:List UInt8} (h1:1≤p.length) (h4:p.length≤4) (hd:eu 16 p=true):piece p=some (val 16 p):=if_pos ⟨h1,h4,hd⟩
theorem jX {q:List UInt8} {r:List (List UInt8)} (h:small q=none):smalls (q::r)=none:=by rw[smalls,h]
theorem zq {q:List UInt8} {c:UInt8} (hc:c ∈ q) (h:lH 10 c=false):small q=none:=if_neg (fun e=>by have:=afj hc h;rw[this]at e;cases e.2.2.2.1)
theorem xg {t:List UInt8} (h:smalls (bZ t)=none):lN t=none:=by unfold lN;rw[h];rfl
theorem Lh {q:List UInt8} {c:UInt8} (hc:c ∈ q) (h:lH 16 c=false):piece q=none:=if_neg (fun e=>by have:=afj hc h;rw[this]at e;cases e.2.2)
theorem abV {l:List Nat} (h:l.length≠4):two l=none:=by
 unfold two
 split
 ·exact absurd rfl h
 rfl
end Go.Proofs.YtgamccijegollaaGreatDoor.O6
namespace Go.Proofs.YtgamccijegollaaGreatDoor.Dp
open Go.RowKit Base
theorem fV (s:ByteArray) (cap:Nat) (w:World) (t:TypeId):aY (w.drew.alloc (.cells (bytesRow s cap) t ((bytesRow s cap).size,(bytesRow s cap).size+1))) (some ⟨w.heap.size,0,none⟩) s.size (ah s.data.toList):=
 aY.jF (by rw[aI];exact Array.length_toList) (by simp) (fun j hj=>by
  have hj':j<s.data.size:=by rw[aI,Array.length_toList]at hj;exact hj
  rw[Nat.zero_add]
  have e:w.heap.size=w.drew.heap.size:=rfl
  rw[e,World.cell?_alloc_mark,bytesRow_at s cap j hj']
  simp[ah])
theorem aci {P:Program} (X Y:List UInt8) (w:World) (h:X.length+Y.length≤9223372036854775807):(Op.stringOp .add (strOf X) (strOf Y)).run P w=.ok (.string (strOf (X++Y))) w:=by
 rw[run_string_add_sum w _ _ (by rw[o9,o9];exact h)]
 congr 2
theorem dL {P:Program} (a b:ByteArray) (w:World) (h:a.size+b.size≤9223372036854775807):(Op.stringOp .add a b).run P w=.ok (.string (strOf (a.data.toList++b.data.toList))) w:=by
 rw[run_string_add_sum w _ _ h]
 congr 3
theorem bel {w0 w w':World} (h:Below w0.heap.size w0 w) (hb:Below w.heap.size w w'):Below w0.heap.size w0 w':=h.trans (hb.mono h.size)
theorem CY {w0 w w':World} (h:Below w0.heap.size w0 w) (hb:Below w.drew.heap.size w.drew w'):Below w0.heap.size w0 w':=h.drew.trans (hb.mono h.size)
end Go.Proofs.YtgamccijegollaaGreatDoor.Dp
namespace Go.Proofs.YtgamccijegollaaGreatDoor.TJ
open Go.RowKit Base Dp dI oO wu O6
theorem take_snoc {α:Type} (l:List α) (k:Nat) (h:k<l.length):l.take (k+1)=l.take k++[l[k]]:=List.take_succ_eq_append_getElem h
theorem tq (b:Nat) (c:UInt8) (h:lH b c=true):hex c.toNat=(dv c:Int):=by
 unfold lH at h
 rw[Bool.and_eq_true]at h
 have:=of_decide_eq_true h.1
 unfold dv
 omega
theorem afz (c:UInt8) (h:hex c.toNat<0):lH 16 c=false:=by
 unfold lH
 rw[decide_eq_false (by omega)]
 rfl
theorem afA (c:UInt8) (h:0≤hex c.toNat):lH 16 c=true:=by
 have:=vG c
 unfold lH
 rw[decide_eq_true h,decide_eq_true (by omega)]
 rfl
theorem alc (b:Nat) (c:UInt8) (h:lH b c=true):dv c<b:=by
 unfold lH at h
 rw[Bool.and_eq_true]at h
 have h1:=of_decide_eq_true h.1
 have h2:=of_decide_eq_true h.2
 unfold dv
 omega
theorem qN (b:Nat) (hb:1≤b) (L:List UInt8) (h:eu b L=true):val b L<b^L.length:=by
 have H:∀M:List UInt8,eu b M.reverse=true→val b M.reverse<b^M.length:=by
  intro M
  induction M with
  |nil=>intro _;simp[val]
  |cons c M ih=>
   intro h
   rw[List.reverse_cons]at h⊢
   unfold eu at h
   rw[List.all_append,Bool.and_eq_true]at h
   have h1:=ih h.1
   have h2:lH b c=true:=by simpa using h.2
   have h3:=alc b c h2
   rw[jh,List.length_cons,Nat.pow_succ]
   have:(val b M.reverse+1)*b≤b^M.length*b:=Nat.mul_le_mul_right _ h1
   rw[Nat.add_mul]at this
   omega
 have:=H L.reverse (by rwa[List.reverse_reverse])
 rwa[List.reverse_reverse,List.length_reverse]at this
theorem yI (b:Nat) (L:List UInt8) (c:UInt8):eu b (L++[c])=(eu b L&&lH b c):=by
 unfold eu
 rw[List.all_append]
 simp
theorem VE (a:Nat) (ha:a<9223372036854775808):(BitVec.ofInt 64 (a:Int)).toNat=a:=by
 rw[BitVec.ofInt_natCast,BitVec.toNat_ofNat];exact Nat.mod_eq_of_lt (by omega)
theorem adP (a b:Nat) (ha:a<9223372036854775808) (hb:b<9223372036854775808):bits .or .i64 (a:Int) (b:Int)=((a|||b:Nat):Int):=by
 have hx:a|||b<2^63:=Nat.or_lt_two_pow (by omega) (by omega)
 show IntKind.i64.wrap ((BitVec.ofInt 64 (a:Int)|||BitVec.ofInt 64 (b:Int)).toNat:Int)=_
 rw[BitVec.toNat_or,VE a ha,VE b hb,IntKind.wrap_i64]
 omega
theorem or_hex (n d:Nat) (hn:n<65536) (hd:d<16):bits .or .i64 ((n:Int)*16) (d:Int)=((n*16+d:Nat):Int):=by
 rw[show((n:Int)*16)=((n*16:Nat):Int)by omega,adP _ _ (by omega) (by omega)]
 have:=Nat.shiftLeft_add_eq_or_of_lt (i:=4) (b:=d) (by omega) n
 rw[Nat.shiftLeft_eq]at this
 rw[←this]
def PV (o:Option Nat):Value:=match o with
 |some v=>.tuple #[.int .u16 (v:Int),.bool true]
 |none=>.tuple #[.int .u16 0,.bool false]
theorem Yg {o:Option Nat} (h:o=none):PV o=.tuple #[.int .u16 0,.bool false]:=by rw[h];rfl
theorem pv_some {o:Option Nat} {v:Nat} (h:o=some v):PV o=.tuple #[.int .u16 (v:Int),.bool true]:=by rw[h];rfl
theorem VK {p:List UInt8} (h:¬(1≤p.length∧p.length≤4)):piece p=none:=if_neg (fun e=>h ⟨e.1,e.2.1⟩)
theorem uH (s:ByteArray) (w:World):Calls Tryz.prog 343 #[.string s] w fun e w'=>e=.returned (PV (piece s.data.toList))∧w=w':=by
 have hl:s.data.toList.length=s.size:=Array.length_toList
 have HL:=hid hl
 by_cases h1:s.size<1
 ·have HE:=hid (Yg (VK (p:=s.data.toList) (by omega)))
  have hi:(s.size:Int)<1:=by omega
  clear hl h1
  go_enter Tryz.func343,Tryz.ntmps343
  go_wp2
  go_ret2
  exact⟨by rw[HE.out];rfl,rfl⟩
 by_cases h4:4<s.size
 ·have HE:=hid (Yg (VK (p:=s.data.toList) (by omega)))
  have hi:(4:Int)<(s.size:Int):=by omega
  have hi1:¬(s.size:Int)<1:=by omega
  clear hl h1 h4
  go_enter Tryz.func343,Tryz.ntmps343
  go_wp2
  go_ret2
  exact⟨by rw[HE.out];rfl,rfl⟩
 have hi:¬(4:Int)<(s.size:Int):=by omega
 have hi1:¬(s.size:Int)<1:=by omega
 have MC:Hid (1≤s.size∧s.size≤4):=⟨by omega,by omega⟩
 clear hl h1 h4
 go_enter Tryz.func343,Tryz.ntmps343
 go_wp2
 clear hi hi1
 generalize decide ((s.size:Int)<1)=d1
 generalize decide ((4:Int)<(s.size:Int))=d2
 go_loopw [4,5,6] (fun vn vk _ wr=>∃(k n:Nat),k≤s.size∧vk=.int .i64 (k:Int)∧vn=.int .i64 (n:Int)∧wr=w∧Hid (n=val 16 (s.data.toList.take k))∧Hid (eu 16 (s.data.toList.take k)=true)) (fun _ vk _ _=>s.size - (intOf vk).toNat)
 case atStart=>exact⟨0,0,Nat.zero_le _,rfl,rfl,rfl,rfl,rfl⟩
 case round=>
  obtain⟨k,n,hk,rfl,rfl,rfl,HV,HT⟩:=hrel
  have hs4:s.size≤4:=MC.out.2
  by_cases hlt:k<s.size
  ·obtain⟨c,hc⟩:∃c,s[k]=c:=⟨_,rfl⟩
   have hkl:k<s.data.toList.length:=by rw[HL.out];exact hlt
   have hcl:s.data.toList[k]=c:=hc
   have HS:Hid (s.data.toList.take (k+1)=s.data.toList.take k++[c]):=by rw[←hcl];exact take_snoc _ k hkl
   have HM:Hid (c ∈ s.data.toList):=by show _ ∈ _;rw[←hcl];exact List.getElem_mem _
   have h0:0≤(c.toNat:Int):=by omega
   have h1:(c.toNat:Int)≤255:=by have:=c.toNat_lt;omega
   have hn:n<4096:=by
    have h:=qN 16 (by omega) _ HT.out
    rw[←HV.out,List.length_take,HL.out]at h
    have h2:k≤3:=by have:=MC.out.2;omega
    have h3:16^min k s.size≤16^3:=Nat.pow_le_pow_right (by omega) (by omega)
    omega
   clear hcl hkl
   by_cases hx:hex c.toNat<0
   ·have HE:=hid (Yg (Lh HM.out (afz c hx)))
    obtain⟨x,hxx⟩:∃x,x=hex c.toNat:=⟨_,rfl⟩
    rw[←hxx]at hx
    have HX:=hid hxx
    clear hxx
    go_wp2_with fail
    refine(dI.dV _ _ h0 h1).mono ?_
    rintro e w2 ⟨rfl,hw2⟩
    subst hw2
    rw[←HX.out]
    go_wp2
    go_ret2
    exact⟨by rw[HE.out];rfl,rfl⟩
   have hD:lH 16 c=true:=afA c (by omega)
   obtain⟨d,hd⟩:∃d,d=dv c:=⟨_,rfl⟩
   have atf:d<16:=by rw[hd];exact alc 16 c hD
   have HX:Hid (hex c.toNat=(d:Int)):=by show _=_;rw[hd];exact tq 16 c hD
   have uQ:Hid (n*16+d=val 16 (s.data.toList.take (k+1))):=by show _=_;rw[HS.out,jh,←HV.out,hd]
   have HT2:Hid (eu 16 (s.data.toList.take (k+1))=true):=by show _=_;rw[HS.out,yI,HT.out,hD];rfl
   have hor:=or_hex n d (by omega) atf
   have hd0:¬(d:Int)<0:=by omega
   have hnb:(n:Int)<4096:=by omega
   clear hx hD hd
   go_wp2_with fail
   refine(dI.dV _ _ h0 h1).mono ?_
   rintro e w2 ⟨rfl,hw2⟩
   subst hw2
   rw[HX.out]
   go_wp2
   go_roundw
   case rel=>exact⟨k+1,n*16+d,by omega,by go_num,by first|rfl|go_num,by first|rfl|trivial,uQ.out,HT2.out⟩
   case measure=>simp[intOf];omega
  obtain rfl:k=s.size:=by omega
  have hfull:s.data.toList.take s.size=s.data.toList:=List.take_of_length_le (by rw[HL.out];exact Nat.le_refl _)
  have hn:n<65536:=by
   have h:=qN 16 (by omega) _ HT.out
   rw[←HV.out,hfull,HL.out]at h
   have h3:16^s.size≤16^4:=Nat.pow_le_pow_right (by omega) MC.out.2
   omega
  have HE:Hid (PV (piece s.data.toList)=.tuple #[.int .u16 (n:Int),.bool true]):=by
   show _=_
   have h1:=HT.out
   have h2:=HV.out
   rw[hfull]at h1 h2
   rw[h2]
   exact pv_some (Ap (by rw[HL.out];exact MC.out.1) (by rw[HL.out];exact MC.out.2) h1)
  have hni:(n:Int)<65536:=by omega
  clear hfull
  go_wp2
  go_ret2
  exact⟨by rw[HE.out];rfl,rfl⟩
def SV (o:Option Nat) (e:Ending):Prop:=match o with
 |some v=>e=.returned (.tuple #[.int .u16 (v:Int),.bool true])
 |none=>∃x:Int,e=.returned (.tuple #[.int .u16 x,.bool false])
theorem JF {o:Option Nat} (h:o=none) (x:Int):SV o (.returned (.tuple #[.int .u16 x,.bool false])):=by rw[h];exact⟨x,rfl⟩
theorem sv_some {o:Option Nat} {v:Nat} (h:o=some v):SV o (.returned (.tuple #[.int .u16 (v:Int),.bool true])):=by rw[h];rfl
theorem U6 (c:UInt8) (h:lH 10 c=true):48≤c.toNat∧c.toNat≤57∧dv c=c.toNat - 48:=by
 have H:∀n:Fin 256,(decide (0≤hex (n.val:Int))&&decide (hex (n.val:Int)<(10:Nat)))=true→48≤n.val∧n.val≤57∧(hex (n.val:Int)).toNat=n.val - 48:=by decide+kernel
 exact H ⟨c.toNat,c.toNat_lt⟩ h
theorem V5 {p:List UInt8} (h:¬(1≤p.length∧p.length≤3)):small p=none:=if_neg (fun e=>h ⟨e.1,e.2.1⟩)
theorem aeA {p:List UInt8} (h1:1<p.length) (h2:p.head?=some 48):small p=none:=if_neg (fun e=>e.2.2.1 ⟨h1,h2⟩)
theorem uJ (s:ByteArray) (w:World):Calls Tryz.prog 350 #[.string s] w fun e w'=>SV (small s.data.toList) e∧w=w':=by
 have hl:s.data.toList.length=s.size:=Array.length_toList
 have HL:=hid hl
 by_cases h1:s.size<1
 ·have HE:Hid (small s.data.toList=none):=V5 (by omega)
  have hi:(s.size:Int)<1:=by omega
  clear hl h1
  go_enter Tryz.func350,Tryz.ntmps350
  go_wp2
  go_ret2
  exact⟨JF HE.out _,rfl⟩
 by_cases h4:3<s.size
 ·have HE:Hid (small s.data.toList=none):=V5 (by omega)
  have hi:(3:Int)<(s.size:Int):=by omega
  have hi1:¬(s.size:Int)<1:=by omega
  clear hl h1 h4
  go_enter Tryz.func350,Tryz.ntmps350
  go_wp2
  go_ret2
  exact⟨JF HE.out _,rfl⟩
 have hi:¬(3:Int)<(s.size:Int):=by omega
 have hi1:¬(s.size:Int)<1:=by omega
 have MC:Hid (1≤s.size∧s.size≤3):=⟨by omega,by omega⟩
 have h0s:0<s.size:=by omega
 obtain⟨a,ha⟩:∃a,s[0]=a:=⟨_,rfl⟩
 have HA:Hid (s.data.toList.head?=some a):=by
  show _=_
  have hcl:s.data.toList[0]'(by omega)=a:=ha
  rw[List.head?_eq_getElem?,List.getElem?_eq_getElem (by omega),hcl]
 have hbr:(1<s.size∧a=48)∨¬(1<s.size∧a=48):=Classical.em _
 clear hl h1 h4
 rcases hbr with⟨hb1,hb2⟩|hb
 ·have HE:Hid (small s.data.toList=none):=aeA (by rw[HL.out];exact hb1) (by rw[HA.out,hb2])
  have hb1i:(1:Int)<(s.size:Int):=by omega
  have hb2i:((a.toNat:Int)==48)=true:=by rw[hb2];rfl
  clear hb2
  go_enter Tryz.func350,Tryz.ntmps350
  go_wp2
  go_ret2
  exact⟨JF HE.out _,rfl⟩
 have HBR:Hid (¬(1<s.size∧s.data.toList.head?=some 48)):=by
  rintro⟨x1,x2⟩
  rw[HA.out]at x2
  injection x2 with x2
  exact hb ⟨x1,x2⟩
 have hbr2:¬(1:Int)<(s.size:Int)∨((1:Int)<(s.size:Int)∧((a.toNat:Int)==48)=false):=by
  by_cases h:1<s.size
  ·refine .inr ⟨by omega,?_⟩
   have:a≠48:=fun e=>hb ⟨h,e⟩
   rw[beq_eq_false_iff_ne]
   intro e
   exact this (UInt8.toNat_inj.1 (by show _=48;omega))
  exact .inl (by omega)
 clear hb
 rcases hbr2 with hq|⟨hq,hq2⟩
 all_goals
  go_enter Tryz.func350,Tryz.ntmps350
  go_wp2
  try generalize decide ((s.size:Int)<1)=d1
  try generalize decide ((3:Int)<(s.size:Int))=d2
  try generalize decide ((1:Int)<(s.size:Int))=d3
  clear hi hi1 hq
  go_loopw [4,5] (fun vn vk wr=>∃(k n:Nat),k≤s.size∧vk=.int .i64 (k:Int)∧vn=.int .u16 (n:Int)∧wr=w∧Hid (n=val 10 (s.data.toList.take k))∧Hid (eu 10 (s.data.toList.take k)=true)) (fun _ vk _=>s.size - (intOf vk).toNat)
  case atStart=>exact⟨0,0,Nat.zero_le _,rfl,rfl,rfl,rfl,rfl⟩
  case round=>
   obtain⟨k,n,hk,rfl,rfl,rfl,HV,HT⟩:=hrel
   have hs3:s.size≤3:=MC.out.2
   by_cases hlt:k<s.size
   ·obtain⟨c,hc⟩:∃c,s[k]=c:=⟨_,rfl⟩
    have hkl:k<s.data.toList.length:=by rw[HL.out];exact hlt
    have hcl:s.data.toList[k]=c:=hc
    have HS:Hid (s.data.toList.take (k+1)=s.data.toList.take k++[c]):=by rw[←hcl];exact take_snoc _ k hkl
    have HM:Hid (c ∈ s.data.toList):=by show _ ∈ _;rw[←hcl];exact List.getElem_mem _
    have hn:n<100:=by
     have h:=qN 10 (by omega) _ HT.out
     rw[←HV.out,List.length_take,HL.out]at h
     have h2:k≤2:=by have:=MC.out.2;omega
     have h3:10^min k s.size≤10^2:=Nat.pow_le_pow_right (by omega) (by omega)
     omega
    clear hcl hkl
    cases hD:lH 10 c with
    |false=>
     have HE:Hid (small s.data.toList=none):=zq HM.out hD
     have hdg:dI.digit (c.toNat:Int)=false:=by rw[yH,hD]
     have Tv:=hid hdg
     clear hD hdg
     go_wp2_with fail
     refine(dI.fE _ _).mono ?_
     rintro e w2 ⟨rfl,hw2⟩
     subst hw2
     rw[Tv.out]
     go_wp2
     go_ret2
     exact⟨JF HE.out _,rfl⟩
    |true=>
     obtain⟨hc1,hc2,hc3⟩:=U6 c hD
     have Tv:Hid (dI.digit (c.toNat:Int)=true):=by show _=_;rw[yH,hD]
     have uQ:Hid (n*10+(c.toNat - 48)=val 10 (s.data.toList.take (k+1))):=by show _=_;rw[HS.out,jh,←HV.out,hc3]
     have HT2:Hid (eu 10 (s.data.toList.take (k+1))=true):=by show _=_;rw[HS.out,yI,HT.out,hD];rfl
     have hnb:(n:Int)<100:=by omega
     have hci:48≤(c.toNat:Int):=by omega
     have hci2:(c.toNat:Int)≤57:=by omega
     have eG:Hid ((n:Int)*10+((c.toNat:Int) - 48)=((n*10+(c.toNat - 48):Nat):Int)):=by show _=_;omega
     clear hD hc3 hc1 hc2
     go_wp2_with fail
     refine(dI.fE _ _).mono ?_
     rintro e w2 ⟨rfl,hw2⟩
     subst hw2
     rw[Tv.out]
     go_wp2
     go_roundw
     case rel=>exact⟨k+1,n*10+(c.toNat - 48),by omega,by go_num,by first|exact int_eq eG.out|go_num,by first|rfl|trivial,uQ.out,HT2.out⟩
     case measure=>simp[intOf];omega
   obtain rfl:k=s.size:=by omega
   have hfull:s.data.toList.take s.size=s.data.toList:=List.take_of_length_le (by rw[HL.out];exact Nat.le_refl _)
   have hn:n<1000:=by
    have h:=qN 10 (by omega) _ HT.out
    rw[←HV.out,hfull,HL.out]at h
    have h3:10^s.size≤10^3:=Nat.pow_le_pow_right (by omega) MC.out.2
    omega
   have h1:=HT.out
   have h2:=HV.out
   rw[hfull]at h1 h2
   have hni:(n:Int)<1000:=by omega
   clear hfull
   by_cases adD:n≤255
   ·have HE:Hid (small s.data.toList=some n):=by
     show _=_
     rw[h2]at adD⊢
     exact if_pos ⟨by rw[HL.out];exact MC.out.1,by rw[HL.out];exact MC.out.2,by rw[HL.out];exact HBR.out,h1,adD⟩
    have hle:(n:Int)≤255:=by omega
    clear h1 h2 adD
    go_wp2
    go_ret2
    exact⟨sv_some HE.out,rfl⟩
   have HE:Hid (small s.data.toList=none):=if_neg (fun e=>adD (by rw[h2];exact e.2.2.2.2))
   have hle:¬(n:Int)≤255:=by omega
   clear h1 h2 adD
   go_wp2
   go_ret2
   exact⟨JF HE.out _,rfl⟩
end Go.Proofs.YtgamccijegollaaGreatDoor.TJ
namespace Go.Proofs.YtgamccijegollaaGreatDoor.acj
open Go.RowKit Base Dp
section
variable {P:Program} {W w0:World} {ops:Array Oper} {rest:List Oper} {o:Oper} {a:Act} {Q:Exit→Act→World→Prop}
theorem abv (base:Nat) (t ty e:TypeId) (i:TypeInfo) (size c:Nat) (ht:P.underlying t=some (.slice e)) (hi:P.info? e=some i) (v:Value) (n:Nat) (xs:List Value) (hown:W.ownsRow base e size v n xs):
  (Builtin.append_ #[t,t] ty #[v,.slice none 0 c]).run P W=.ok v W:=by
 rcases hown.2 with⟨rfl,rfl⟩|⟨g,cap,cur,rfl,_,_,hnc,_⟩
 ·simp[Builtin.append_,run_underlying ht,sizeOf,typeInfo,hi,Builtin.lenOf,Builtin.firstCells]
 ·simp[Builtin.append_,run_underlying ht,sizeOf,typeInfo,hi,Builtin.lenOf,Builtin.firstCells,hnc,storeCells]
theorem dH (hgd:o.guard=none) (s x:Operand) (t:TypeId) (ho:o.op=.call {callee:=.builtin .append,args:=#[s,x],argTypes:=#[t,t]})
  (B:Nat) (e:TypeId) (i:TypeInfo) (z:Value) (by_:Nat) (ht:P.underlying t=some (.slice e)) (hi:P.info? e=some i) (hz:i.zero=some z) (hsize:i.size=1) (hby:i.bytes=by_) (hzs:z.cells.size=1)
  (v:Value) (n:Nat) (xs:List Value) (hs:a.eval s=v) (hown:W.ownsRow B e 1 v n xs) (hbel:Below B w0 W) (hB:B≤W.heap.size)
  (A:Option Addr) (m c:Nat) (news:List Value) (hx:a.eval x=.slice A m c) (hr:aY W A m news) (h1:∀u ∈ news,u.oneCell'=true)
  (h63:n+m≤maxLen) (hbytes:(n+m)*by_≤140737488355328)
  (h:∀v' w',w'.ownsRow B e 1 v' (n+m) (xs++news)→Below B w0 w'→wpList P ops Q rest (a.put o.dst v') w'):
  wpList P ops Q (o::rest) a W:=by
 cases A with
 | none=>
  have hm:m=0:=by
   rcases Nat.eq_zero_or_pos m with h0|h0
   ·exact h0
   ·obtain⟨_,_,e,_⟩:=hr.spot h0
    cases e
  subst hm
  have hn:news=[]:=List.eq_nil_of_length_eq_zero hr.1
  subst hn
  have hh:=h v W (by simpa using hown) hbel
  refine wpList_plain hgd fun K hK=>?_
  have hrun:=abv (P:=P) (W:=W) B t o.type e i 1 c ht hi v n xs hown
  unfold Oper.wp
  simp[execOp,ho,resolve,invoke,builtin,hs,hx,hrun,Result.andThen]
  exact hK _ _ hh
 |some ad=>
  refine wpList_append_own _ hgd s x t ho B e i z 1 by_ ht hi hz hsize hby hzs (by decide) v n xs hs hown ad m c news hx (by rw[hr.1,Nat.mul_one]) (fun j u hj=>?_) h1 h63 hbytes hB (fun v' w' h2 h3 _=>h v' w' h2 (hbel.grown h3 hB (fun g hg=>(hown.lt g hg).1)))
  obtain⟨hj',e⟩:=List.getElem?_eq_some_iff.1 hj
  obtain⟨b,off,e1,_,hc⟩:=hr.2 j hj'
  injection e1 with e1
  subst e1
  have ha:(⟨b,off,none⟩:Addr).add j=⟨b,off+j,none⟩:=by
   unfold Addr.add
   split<;>simp_all
  rw[ha,hc,e]
end
end Go.Proofs.YtgamccijegollaaGreatDoor.acj
namespace Go.Proofs.YtgamccijegollaaGreatDoor.pO
open Go.RowKit Base Dp acj
def Max (w:World):Prop:=∃m,w.cell? ⟨2,0,none⟩=some (.int .i64 m)
theorem Max.below {w w':World} (h:Max w) (hb:Below w.heap.size w w'):Max w':=by
 obtain⟨m,hm⟩:=h
 exact⟨m,(hb.cell (World.block_lt_of_cell? _ _ hm)).trans hm⟩
theorem qJ (b:UInt8) (f:List UInt8→List (List UInt8)) (f0:f []=[[]]) (f1:∀L,f (b::L)=[]::f L) (f2:∀c L,c≠b→f (c::L)=match f L with
  |[]=>[[c]]
  |x::r=>(c::x)::r):∀(L:List UInt8) (k:Nat),L.count b≤k→Lib.splitK [b] 0 k L=f L
 |[],0,_=>f0.symm
 |[],k+1,_=>f0.symm
 |a::l,0,h=>by
  have hb:a≠b:=by rintro rfl;simp at h
  have ih:=qJ b f f0 f1 f2 l 0 (by rw[List.count_cons_of_ne (by simpa using hb)]at h;exact h)
  show[a::l]=_
  rw[f2 a l hb,←ih]
  rfl
 | a :: l, k + 1, h => by
  by_cases hb:a=b
  ·subst hb
   have ih:=qJ a f f0 f1 f2 l k (by simp at h;omega)
   have e:Lib.index (a::l) [a]=0:=by rw[Lib.index,if_pos (by simp[List.isPrefixOf])]
   rw[f1,Lib.splitK,e,if_neg (by decide)]
   show[]::_=_
   rw[←ih]
   rfl
  ·have hc:l.count b≤k+1:=by rw[List.count_cons_of_ne (by simpa using hb)]at h;exact h
   have ih:=qJ b f f0 f1 f2 l (k+1) hc
   have e:Lib.index (a::l) [b]=if Lib.index l [b]== -1 then -1 else Lib.index l [b]+1:=by rw[Lib.index,if_neg (by simp[List.isPrefixOf,Ne.symm hb])]
   rw[Lib.splitK]at ih⊢
   rw[f2 a l hb,←ih,e]
   by_cases hm:Lib.index l [b]= -1
   ·rw[hm]
    rfl
   ·have hge:=Lib.index_ge l [b]
    obtain⟨j,hj⟩:∃j:Nat,Lib.index l [b]=j:=⟨(Lib.index l [b]).toNat,by omega⟩
    have h1:((j:Int)== -1)=false:=beq_eq_false_iff_ne.2 (by omega)
    have h2:((j:Int)+1== -1)=false:=beq_eq_false_iff_ne.2 (by omega)
    have h3:((j:Int)+1).toNat=j+1:=by omega
    simp only[hj,h1,Bool.false_eq_true,if_false,h2,h3]
    simp
def Read (w:World) (l:List (List UInt8)) (e:Ending) (w':World):Prop:=∃A n c,e=.returned (.slice A n c)∧n=l.length∧n≤c∧c≤maxLen∧aY w' A n ((l.map strOf).map Value.string)∧Below w.heap.size w w'
theorem lZ (b:UInt8) (f:List UInt8→List (List UInt8)) (f0:f []=[[]]) (f1:∀L,f (b::L)=[]::f L) (f2:∀c L,c≠b→f (c::L)=match f L with
  |[]=>[[c]]
  |x::r=>(c::x)::r) (s:ByteArray) (w:World) (hs:s.size≤1073741824) (hM:Max w):Calls Tryz.prog 330 #[.string s,.string ⟨#[b]⟩] w (Read w (f s.data.toList)):=by
 obtain⟨m,hm⟩:=hM
 refine(Tryz.strings_Split s ⟨#[b]⟩ m w (by omega) hm (Nat.le_refl _)).mono ?_
 rintro e w' ⟨rfl,rfl⟩
 have hd:=Lib.splitB_data ⟨#[b]⟩ 0 (Lib.countB s ⟨#[b]⟩) s
 rw[show(⟨#[b]⟩:ByteArray).data.toList=[b]from rfl,qJ b f f0 f1 f2 _ _ (by rw[←Lib.count_one];exact Nat.le_refl _)]at hd
 have hl:=Lib.splitB_all ⟨#[b]⟩ (Nat.le_refl _) 0 _ s rfl
 have hc:=Lib.countB_le ⟨#[b]⟩ (Nat.le_refl _) s.size s (Nat.le_refl _)
 generalize Lib.splitB ⟨#[b]⟩ 0 (Lib.countB s ⟨#[b]⟩) s=B at hd hl⊢
 have hB:B=(f s.data.toList).map strOf:=by
  rw[←hd,List.map_map]
  conv=>lhs;rw[←List.map_id B]
  exact List.map_congr_left fun x _=>(aG x).symm
 unfold Read
 rw[←hB]
 refine⟨_,_,_,rfl,by rw[←hl,hB,List.length_map],Nat.le_refl _,by unfold maxLen;omega,?_,(Below.refl _ _).alloc (Nat.le_refl _) _⟩
 exact aY.jF (by rw[List.length_map,hl]) (by simp) (fun j hj=>by
  rw[Nat.zero_add,World.cell?_alloc_mark]
  simp)
end Go.Proofs.YtgamccijegollaaGreatDoor.pO
namespace Go.Proofs.YtgamccijegollaaGreatDoor.pO
open Go.RowKit Base Dp acj oO wu O6
theorem abG (s:ByteArray) (w:World) (hs:s.size≤1073741824) (hM:Max w):Calls Tryz.prog 330 #[.string s,.string ⟨#[46]⟩] w (Read w (bZ s.data.toList)):=
 lZ 46 bZ rfl (fun L=>by rw[bZ,if_pos rfl]) (fun c L h=>by rw[bZ,if_neg h];cases bZ L<;>rfl) s w hs hM
theorem abI (s:ByteArray) (w:World) (hs:s.size≤1073741824) (hM:Max w):Calls Tryz.prog 330 #[.string s,.string ⟨#[58]⟩] w (Read w (dJ s.data.toList)):=
 lZ 58 dJ rfl fP (fun c L h=>by rw[dJ,if_neg h];cases dJ L<;>rfl) s w hs hM
theorem has46 (L:List UInt8):decide (0≤Lib.indexByte L 46)=L.contains 46:=by
 have hge:=Lib.indexByte_ge L 46
 by_cases h:Lib.indexByte L 46= -1
 ·have hn:=Lib.indexByte_none h
  rw[decide_eq_false (by omega)]
  cases e:L.contains 46 with
  |false=>rfl
  |true=>
   have hm:(46:UInt8) ∈ L:=by simpa using e
   obtain⟨j,hj,he⟩:=List.getElem_of_mem hm
   exact absurd (List.getElem?_eq_some_iff.2 ⟨hj,he⟩) (hn j)
 obtain⟨o,ho⟩:∃o:Nat,Lib.indexByte L 46=o:=⟨(Lib.indexByte L 46).toNat,by omega⟩
 have hs:=(Lib.indexByte_some ho).1
 rw[decide_eq_true (by omega)]
 obtain⟨hj,he⟩:=List.getElem?_eq_some_iff.1 hs
 symm
 simpa using(show(46:UInt8) ∈ L by rw[←he];exact List.getElem_mem _)
theorem Il (s:ByteArray) (w:World):Calls Tryz.prog 89 #[.string s,.string ⟨#[46]⟩] w fun e w'=>e=.returned (.bool (s.data.toList.contains 46))∧w=w':=by
 refine(Tryz.strings_Contains_one s 46 w).mono ?_
 rintro e w' ⟨rfl,rfl⟩
 exact⟨ak (has46 _),rfl⟩
theorem Vr:∀(s:List UInt8),Lib.cut s [58,58]=match BQ s with
  |some p=>(p.1,p.2,true)
  |none=>(s,[],false)
 |[]=>rfl
 | [a]=>by
  by_cases h:a=58
  ·subst h;rfl
  ·have:Lib.index [a] [58,58]= -1:=by
    rw[Lib.index,if_neg (by simp[List.isPrefixOf])]
    rfl
   unfold Lib.cut
   rw[this]
   rfl
 | a ::b::r=>by
  have ih:=Vr (b::r)
  rw[BQ]
  by_cases h:a=58∧b=58
  ·obtain⟨rfl,rfl⟩:=h
   rw[if_pos ⟨rfl,rfl⟩]
   have:Lib.index (58::58::r) [58,58]=0:=by rw[Lib.index,if_pos (by simp[List.isPrefixOf])]
   unfold Lib.cut
   rw[this]
   rfl
  ·rw [if_neg h]
   have e:Lib.index (a::b::r) [58,58]=if Lib.index (b::r) [58,58]== -1 then -1 else Lib.index (b::r) [58,58]+1:=by
    rw[Lib.index,if_neg]
    simp only[List.isPrefixOf,Bool.and_eq_true,beq_iff_eq]
    rintro⟨h1,h2,_⟩
    exact h ⟨h1.symm,h2.symm⟩
   have hge:=Lib.index_ge (b::r) [58,58]
   unfold Lib.cut at ih⊢
   rw[e]
   by_cases hm:Lib.index (b::r) [58,58]= -1
   ·rw[hm]at ih⊢
    cases hc:BQ (b::r)with
    |none=>rfl
    |some p=>rw[hc]at ih;simp at ih
   ·obtain ⟨j,hj⟩:∃j:Nat,Lib.index (b::r) [58,58]=j:=⟨(Lib.index (b::r) [58,58]).toNat,by omega⟩
    rw[hj]at ih⊢
    have h1:((j:Int)== -1)=false:=beq_eq_false_iff_ne.2 (by omega)
    rw[if_pos (by omega)]at ih
    simp only[h1,Bool.false_eq_true,if_false]
    rw[if_pos (by omega)]
    cases hc:BQ (b::r)with
    |none=>rw[hc]at ih;simp at ih
    |some p=>
     rw[hc]at ih
     simp only[Prod.mk.injEq]at ih⊢
     have h3:((j:Int)+1).toNat=j+1:=by omega
     rw[h3,←ih.1,←ih.2.1]
     refine⟨?_,?_,?_⟩
     ·simp
     ·show List.drop (j+2+1) (a::b::r)=List.drop (j+2) (b::r)
      rw[List.drop_succ_cons]
     ·trivial
def cutV (s:ByteArray):Value:=match BQ s.data.toList with
 |some p=>.tuple #[.string (strOf p.1),.string (strOf p.2),.bool true]
 |none=>.tuple #[.string s,.string (strOf []),.bool false]
theorem cut_any (s:ByteArray) (w:World) (hs:s.size≤1073741824) (hM:Max w):Calls Tryz.prog 71 #[.string s,.string ⟨#[58,58]⟩] w fun e w'=>e=.returned (cutV s)∧∃n,w'=w.drewN n:=by
 obtain⟨m,hm⟩:=hM
 refine(Tryz.strings_Cut s ⟨#[58,58]⟩ m w (by omega) hm).mono ?_
 rintro e w' ⟨rfl,hn⟩
 refine⟨?_,hn⟩
 rw[show(⟨#[58,58]⟩:ByteArray).data.toList=[58,58]from rfl,Vr]
 unfold cutV
 cases BQ s.data.toList with
 |none=>exact ret3 (by show Value.string (strOf s.data.toList)=_;rw[aG]) rfl rfl
 |some p=>rfl
end Go.Proofs.YtgamccijegollaaGreatDoor.pO
namespace Go.Proofs.YtgamccijegollaaGreatDoor.O5
open Go.RowKit Base Dp acj dI oO wu O6 TJ pO
theorem drop_at {α:Type} (R:List α) (k:Nat) (p:α) (hk:k<R.length) (h:R[k]=p):R.drop k=p::R.drop (k+1):=by rw[←h];exact List.drop_eq_getElem_cons hk
def aT (L:List Nat):List Value:=L.map fun(n:Nat)=>Value.int .u16 (n:Int)
theorem kN (L:List Nat):(aT L).length=L.length:=by simp[aT]
theorem Af (a b:List Nat):aT (a++b)=aT a++aT b:=by simp[aT]
theorem ad1 (L:List Nat):∀u ∈ aT L,u.oneCell'=true:=by
 intro u hu
 simp only[aT,List.mem_map]at hu
 obtain⟨c,_,rfl⟩:=hu
 rfl
def Box (w:World) (g:Nat) (t:TypeId) (L:List Nat):Prop:=w.heap[g]?=some (.cells (aT L).toArray t (0,0))
theorem Box.cell {w:World} {g:Nat} {t:TypeId} {L:List Nat} (h:Box w g t L) (j:Nat) (hj:j<L.length):w.cell? ⟨g,j,none⟩=some (.int .u16 (L[j]:Int)):=by
 refine(cell_of_row w g j _ _ _ h).trans ?_
 simp[aT,hj]
theorem Box.frozen {w:World} {g:Nat} {t:TypeId} {L:List Nat} (h:Box w g t L) (j:Nat):w.frozen? ⟨g,j,none⟩=false:=by
 unfold World.frozen?
 rw[h]
 simp
theorem Box.set {w:World} {g:Nat} {t:TypeId} {L:List Nat} (h:Box w g t L) (j n:Nat):Box (w.setCell ⟨g,j,none⟩ (.int .u16 (n:Int))) g t (L.set j n):=by
 have:=heap_setCell_same w g j _ _ (.int .u16 (n:Int)) h
 unfold Box
 rw[this]
 simp[aT,List.map_set]
theorem Box.below {w w':World} {g:Nat} {t:TypeId} {L:List Nat} (h:Box w g t L) (hb:Below w.heap.size w w'):Box w' g t L:=(hb.block _ (Array.getElem?_eq_some_iff.1 h).1).trans h
theorem Box.lt {w:World} {g:Nat} {t:TypeId} {L:List Nat} (h:Box w g t L):g<w.heap.size:=(Array.getElem?_eq_some_iff.1 h).1
theorem abC (p:List UInt8) (r:List (List UInt8)) (v:Nat) (h:small p=some v):smalls (p::r)=(smalls r).map (v::·):=by
 rw[smalls,h]
 cases smalls r<;>rfl
theorem abB {p:List UInt8} {v:Nat} (h:small p=some v):v≤255:=by
 unfold small at h
 split at h
 ·rename_i h2;injection h with h;omega
 cases h
theorem wW (xs:List Nat) (v:Nat) (o:Option (List Nat)):(o.map (v::·)).map (xs++·)=o.map ((xs++[v])++·):=by
 cases o<;>simp
theorem Uo (L:List Nat) (k v:Nat) (h:k<L.length):(L.set k v).take (k+1)=L.take k++[v]:=by
 rw[List.take_succ_eq_append_getElem (by simpa using h)]
 simp[List.take_set_of_le]
theorem af0 (a b:Nat) (ha:a≤255) (hb:b≤255):bits .or .u16 ((a:Int)*256) (b:Int)=((a*256+b:Nat):Int):=by
 rw[show((a:Int)*256)=((a*256:Nat):Int)by omega,u16_or_nat _ _ (by omega) (by omega)]
 have:=Nat.shiftLeft_add_eq_or_of_lt (i:=8) (b:=b) (by omega) a
 rw[Nat.shiftLeft_eq]at this
 rw[←this]
def QV (o:Option (List Nat)):Value:=match o with
 |some [a,b]=>.tuple #[.int .u16 (a:Int),.int .u16 (b:Int),.bool true]
 |_=>.tuple #[.int .u16 0,.int .u16 0,.bool false]
theorem agf {o:Option (List Nat)} (h:o=none):QV o=.tuple #[.int .u16 0,.int .u16 0,.bool false]:=by rw[h];rfl
theorem qv_some {o:Option (List Nat)} {a b:Nat} (h:o=some [a,b]):QV o=.tuple #[.int .u16 (a:Int),.int .u16 (b:Int),.bool true]:=by rw[h];rfl
theorem RD:∀{ps:List (List UInt8)} {l:List Nat},smalls ps=some l→l.length=ps.length
 |[],l,h=>by injection h with h;subst h;rfl
 |p::r,l,h=>by
  rw[smalls]at h
  split at h
  ·rename_i n x h1 h2
   injection h with h
   subst h
   simp[RD h2]
  ·cases h
theorem aiq {t:List UInt8} (h:(bZ t).length≠4):lN t=none:=by
 unfold lN
 cases e:smalls (bZ t)with
 |none=>rfl
 |some l=>exact abV (by rw[RD e];exact h)
theorem abj (s:ByteArray) (w:World) (hs:s.size≤1073741824) (hM:Max w):Calls Tryz.prog 342 #[.string s] w fun e w'=>e=.returned (QV (lN s.data.toList))∧Below w.heap.size w w':=by
 have hsl:s.data.toList.length=s.size:=Array.length_toList
 obtain⟨S,hS⟩:∃S,S=lN s.data.toList:=⟨_,rfl⟩
 obtain⟨R,hR⟩:∃R,R=bZ s.data.toList:=⟨_,rfl⟩
 have Bf:Hid (∀p ∈ R,p.length≤1073741824):=by
  intro p hp
  rw[hR]at hp
  have:=qK _ p hp
  omega
 have HR:=hid hR
 have HS:=hid hS
 have SB:=hid hM
 rw[←hS]
 clear hS hR hM hsl
 go_enter Tryz.func342,Tryz.ntmps342
 go_wp2_with fail
 refine(abG s _ hs SB.out).mono ?_
 rintro e w3 ⟨A,n,c,rfl,hn,hnc,hcm,hrd,hb⟩
 rw[←HR.out]at hn hrd
 have HN:=hid hn
 have uq:=hid hrd
 have HB:=hid hb
 unfold maxLen at hcm
 clear hn hrd hb
 by_cases h4:n=4
 ·subst h4
  obtain⟨g,off,rfl,hg,_⟩:=uq.out.spot (by omega)
  go_wp2
  generalize hw4:w3.alloc _=w4
  have rQ:Below w3.heap.size w3 w4:=by rw[←hw4];exact(Below.refl _ _).alloc (Nat.le_refl _) _
  have TP:Hid (Box w4 w3.heap.size 349 [0,0,0,0]):=by show Box _ _ _ _;rw[←hw4];exact heap_alloc_new _ _
  have HW0:Hid (smalls R=(smalls (R.drop 0)).map (([]:List Nat)++·)):=by show _=_;rw[List.drop_zero];cases smalls R<;>simp
  clear hw4
  go_loopw [7,8,9,10,18] (fun _ _ _ _ vk wr=>∃(k:Nat) (L:List Nat),k≤4∧vk=.int .i64 (k:Int)∧L.length=4∧Hid (Box wr w3.heap.size 349 L)∧Hid (Below w3.heap.size w3 wr)∧Hid (smalls R=(smalls (R.drop k)).map (L.take k++·))∧Hid (∀x ∈ L,x≤255)) (fun _ _ _ _ vk _=>4 - (intOf vk).toNat)
  case atStart=>exact⟨0,[0,0,0,0],by omega,rfl,rfl,TP,rQ,HW0,by intro x hx;simp at hx;omega⟩
  case round =>
   clear HW0 TP rQ
   obtain⟨k,L,hk,rfl,hL,TP,Z4,HW,pY⟩:=hrel
   by_cases hlt:k<4
   ·obtain ⟨p,hp⟩:∃p,R[k]'(by rw[←HN.out];exact hlt)=p:=⟨_,rfl⟩
    obtain⟨Y,hY⟩:∃Y,Y=strOf p:=⟨_,rfl⟩
    have kU:Hid (Y.data.toList=p):=by show _=_;rw[hY];rfl
    have hcl:wr.cell? ⟨g,off+k,none⟩=some (.string Y):=by
     obtain⟨b',o',e1,_,hc'⟩:=(uq.out.below Z4.out).2 k (by rw[List.length_map,List.length_map,←HN.out];exact hlt)
     cases e1
     rw[hc',List.getElem_map,List.getElem_map,hp,hY]
    have HDR:Hid (R.drop k=p::R.drop (k+1)):=drop_at R k p (by rw[←HN.out];exact hlt) hp
    clear hp hY
    cases hsm:small p with
    |none=>
     have HE:Hid (QV S=.tuple #[.int .u16 0,.int .u16 0,.bool false]):=by
      refine agf ?_
      rw[HS.out]
      refine xg ?_
      rw[←HR.out,HW.out,HDR.out,jX hsm]
      rfl
     have JO:=hid hsm
     clear hsm
     go_wp2_with fail
     refine(uJ Y _).mono ?_
     rw[kU.out,JO.out]
     rintro e w5 ⟨⟨x,rfl⟩,rfl⟩
     go_wp2
     go_ret3
     exact⟨by rw[HE.out];rfl,bel HB.out Z4.out⟩
    |some v=>
     have hv:=abB hsm
     have JO:=hid hsm
     have HW2:Hid (smalls R=(smalls (R.drop (k+1))).map ((L.set k v).take (k+1)++·)):=by
      show _=_
      rw[HW.out,HDR.out,abC p _ v hsm,Uo L k v (by omega),wW]
     have hc0:=TP.out.cell k (by omega)
     have hf0:=TP.out.frozen k
     have HB2:=hid (TP.out.set k v)
     have H8:Hid (Below w3.heap.size w3 (wr.setCell ⟨w3.heap.size,k,none⟩ (.int .u16 (v:Int)))):=Z4.out.setCell (Nat.le_refl _) _
     have uO:Hid (∀x ∈ L.set k v,x≤255):=by
      intro x hx
      rcases List.mem_or_eq_of_mem_set hx with h|h
      ·exact pY.out x h
      omega
     clear hsm hv
     go_wp2_with fail
     refine(uJ Y _).mono ?_
     rw[kU.out,JO.out]
     rintro e w5 ⟨rfl,rfl⟩
     go_wp2
     go_roundw
     case rel=>exact⟨k+1,L.set k v,by omega,by go_num,by rw[List.length_set];exact hL,HB2.out,H8.out,HW2.out,uO.out⟩
     case measure=>simp[intOf];omega
   obtain rfl:k=4:=by omega
   have hall:smalls R=some L:=by
    rw[HW.out,List.drop_eq_nil_of_le (by rw[←HN.out];exact Nat.le_refl _),List.take_of_length_le (by omega)]
    simp[smalls]
   match L,hL,TP,pY,hall with
   |[a,b,c,d],_,TP,pY,hall=>
    have ha:=pY.out a (by simp)
    have hb:=pY.out b (by simp)
    have hc:=pY.out c (by simp)
    have hd:=pY.out d (by simp)
    have HE:Hid (QV S=.tuple #[.int .u16 ((a*256+b:Nat):Int),.int .u16 ((c*256+d:Nat):Int),.bool true]):=by
     refine qv_some ?_
     rw[HS.out]
     unfold lN
     rw[←HR.out,hall]
     rfl
    have c0:=TP.out.cell 0 (by simp)
    have c1:=TP.out.cell 1 (by simp)
    have c2:=TP.out.cell 2 (by simp)
    have c3:=TP.out.cell 3 (by simp)
    simp only[List.getElem_cons_zero,List.getElem_cons_succ]at c0 c1 c2 c3
    have o1:=af0 a b ha hb
    have o2:=af0 c d hc hd
    have hai:(a:Int)≤255:=by omega
    have hci:(c:Int)≤255:=by omega
    have HBZ:=hid (bel HB.out Z4.out)
    clear hall hL TP pY Z4 HW ha hb hc hd
    go_wp2_with fail
    go_quiet (fail)
    go_wp2
    go_ret3
    exact⟨by rw[HE.out];rfl,Base.below_drewN HBZ.out _⟩
 have HE:Hid (QV S=.tuple #[.int .u16 0,.int .u16 0,.bool false]):=by
  refine agf ?_
  rw[HS.out]
  exact aiq (by rw[←HR.out,←HN.out];exact h4)
 have h4i:¬(n:Int)=4:=by omega
 go_wp2
 go_ret3
 exact⟨by rw[HE.out];rfl,HB.out⟩
def PcV (w:World) (o:Option (List Nat)) (e:Ending) (w':World):Prop:=match o with
 |some l=>∃v,e=.returned (.tuple #[v,.bool true])∧w'.ownsRow w.heap.size 66 1 v l.length (aT l)
 |none=>∃v,e=.returned (.tuple #[v,.bool false])
theorem DW {w w':World} {o:Option (List Nat)} (h:o=none) (v:Value):PcV w o (.returned (.tuple #[v,.bool false])) w':=by rw[h];exact⟨v,rfl⟩
theorem Jj {w w':World} {o:Option (List Nat)} {l:List Nat} (h:o=some l) (v:Value) (ho:w'.ownsRow w.heap.size 66 1 v l.length (aT l)):PcV w o (.returned (.tuple #[v,.bool true])) w':=by rw[h];exact⟨v,rfl,ho⟩
theorem amd:(Tryz.prog.info? 66).map (fun i=>(i.zero,i.size,i.bytes))=some (some (.int .u16 0),1,2):=by kernel_rfl
def NB (e:Bool) (r:List (List UInt8)) (p:List UInt8):Prop:=¬(e=true∧r=[]∧p.contains 46=true)
theorem amS {e:Bool} {p:List UInt8} {r:List (List UInt8)} (h:NB e r p) {v:Nat} (hp:piece p=some v):iT e (p::r)=(iT e r).map (v::·):=by
 rw[iT,if_neg h,hp]
 cases iT e r<;>rfl
theorem aea {e:Bool} {p:List UInt8} {r:List (List UInt8)} (h:NB e r p) (hp:piece p=none):iT e (p::r)=none:=by
 rw[iT,if_neg h,hp]
theorem amW {p:List UInt8} {v:Nat} (h:piece p=some v):v<65536:=by
 unfold piece at h
 split at h
 ·rename_i h2
  injection h with h
  have h3:=qN 16 (by omega) p h2.2.2
  have h4:16^p.length≤16^4:=Nat.pow_le_pow_right (by omega) h2.2.1
  omega
 cases h
theorem two_ex {l x:List Nat} (h:two l=some x):∃a b,x=[a,b]:=by
 unfold two at h
 split at h
 ·injection h with h;exact⟨_,_,h.symm⟩
 cases h
theorem Yi {p:List UInt8} {x:List Nat} (h:lN p=some x):∃a b,x=[a,b]:=by
 unfold lN at h
 cases e:smalls (bZ p)with
 |none=>rw[e]at h;cases h
 |some l=>rw[e]at h;exact two_ex h
theorem QZ (s:ByteArray) (e:Bool) (w:World) (hs:s.size≤1048576) (hM:Max w):Calls Tryz.prog 323 #[.string s,.bool e] w fun en w'=>PcV w (iT e (dJ s.data.toList)) en w'∧Below w.heap.size w w':=by
 have hsl:s.data.toList.length=s.size:=Array.length_toList
 obtain⟨i0,hi,hz0,hz1,hz2⟩:=info_parts amd
 obtain⟨R,hR⟩:∃R,R=dJ s.data.toList:=⟨_,rfl⟩
 have Bf:Hid (∀p ∈ R,p.length≤1073741824):=by
  intro p hp
  rw[hR]at hp
  have:=EZ _ p hp
  omega
 have hRl:R.length≤1048577:=by have:=Dz s.data.toList;rw[hR];omega
 rw[←hR]
 obtain⟨S,hS⟩:∃S,S=iT e R:=⟨_,rfl⟩
 rw[←hS]
 have HR:=hid hR
 have HS:=hid hS
 have SB:=hid hM
 clear hR hM hsl hS
 go_enter Tryz.func323,Tryz.ntmps323
 go_wp2_with fail
 refine(abI s _ (by omega) SB.out).mono ?_
 rintro en w3 ⟨A,n,c,rfl,hn,hnc,hcm,hrd,hb⟩
 rw[←HR.out]at hn hrd
 rw[←hn]at hRl
 have HN:=hid hn
 have uq:=hid hrd
 have HB:=hid hb
 unfold maxLen at hcm
 have hnp:0<n:=by rw[hn,HR.out];exact List.length_pos_iff.2 (kF _)
 clear hn hrd hb
 have HW0:Hid (S=(iT e (R.drop 0)).map (([]:List Nat)++·)):=by show _=_;rw[List.drop_zero,HS.out];cases iT e R<;>simp
 have jI:Hid (Max w3):=SB.out.below HB.out
 obtain⟨g,off,rfl,hg,_⟩:=uq.out.spot hnp
 go_wp2
 go_loopw [6,8,9,13,14,19] (fun vl _ _ _ _ vk wr=>∃(k:Nat) (xs:List Nat),k≤n∧xs.length≤k∧vk=.int .i64 (k:Int)∧Hid (wr.ownsRow w3.heap.size 66 1 vl xs.length (aT xs))∧Hid (Below w3.heap.size w3 wr)∧Hid (S=(iT e (R.drop k)).map (xs++·))) (fun _ _ _ _ _ vk _=>n - (intOf vk).toNat)
 case atStart=>exact⟨0,[],by omega,Nat.le_refl _,rfl,World.ownsRow_nil _ _ _ _,Below.refl _ _,HW0⟩
 case round=>
  clear HW0
  obtain⟨k,xs,hk,hxk,rfl,HO,Z4,HW⟩:=hrel
  by_cases hlt:k<n
  ·obtain ⟨p,hp⟩:∃p,R[k]'(by rw[←HN.out];exact hlt)=p:=⟨_,rfl⟩
   obtain⟨Y,hY⟩:∃Y,Y=strOf p:=⟨_,rfl⟩
   obtain⟨m,hm⟩:∃m,m=xs.length:=⟨_,rfl⟩
   have kU:Hid (Y.data.toList=p):=by show _=_;rw[hY];rfl
   have hcl:wr.cell? ⟨g,off+k,none⟩=some (.string Y):=by
    obtain⟨b',o',e1,_,hc'⟩:=(uq.out.below Z4.out).2 k (by rw[List.length_map,List.length_map,←HN.out];exact hlt)
    cases e1
    rw[hc',List.getElem_map,List.getElem_map,hp,hY]
   have HYS:Hid (Y.size≤1073741824):=by
    show _≤_
    rw[hY,o9]
    exact Bf.out p (by rw[←hp];exact List.getElem_mem _)
   have HDR:Hid (R.drop k=p::R.drop (k+1)):=drop_at R k p (by rw[←HN.out];exact hlt) hp
   have ajC:Hid (R.drop (k+1)=[]↔k+1=n):=by
    show _↔_
    rw[List.drop_eq_nil_iff,←HN.out]
    omega
   rw[←hm]at HO hxk
   have HM:=hid hm
   have hbw:wr.heap.size≥w3.heap.size:=Z4.out.size
   clear hp hY hm
   cases e with
   | false=>
    have HNB:Hid (NB false (R.drop (k+1)) p):=fun h=>by cases h.1
    cases hpc:piece p with
    |none=>
     have HE:Hid (S=none):=by show _=_;rw[HW.out,HDR.out,aea HNB.out hpc];rfl
     have HPC:=hid hpc
     clear hpc
     go_wp2_with fail
     refine(uH Y _).mono ?_
     rw[kU.out,HPC.out]
     rintro e5 w5 ⟨rfl,hw5⟩
     subst hw5
     rw[PV]
     go_wp2
     go_ret2
     exact⟨DW HE.out _,bel HB.out Z4.out⟩
    |some v=>
     have HPC:=hid hpc
     have HW2:Hid (S=(iT false (R.drop (k+1))).map ((xs++[v])++·)):=by show _=_;rw[HW.out,HDR.out,amS HNB.out hpc,wW]
     have hown:=HO.out
     have hbel:=Z4.out
     clear hpc HO Z4 HW
     go_wp2_with fail
     refine(uH Y _).mono ?_
     rw[kU.out,HPC.out]
     rintro e5 w5 ⟨rfl,hw5⟩
     subst hw5
     rw[PV]
     go_wp2_with (at_builtin;refine aQ rfl _ _ 321 rfl w3.heap.size 66 i0 (.int .u16 0) 2 Tryz.underlying321 hi hz0 hz1 hz2 rfl _ m _ rfl hown hbel hbel.size [.int .u16 (v:Int)] 1 rfl rfl (by intro u hu;simp at hu;subst hu;rfl) (by unfold maxLen;omega) (by omega) ?_)
     intro v7 w7 dU dA
     have Ia:Hid (w7.ownsRow w3.heap.size 66 1 v7 (xs++[v]).length (aT (xs++[v]))):=by
      show World.ownsRow _ _ _ _ _ _ _
      rw[List.length_append,←HM.out,Af]
      exact dU
     have kZ:=hid dA
     clear hown hbel dU dA
     go_wp2
     go_roundw
     case rel=>exact⟨k+1,xs++[v],by omega,by rw[List.length_append,←HM.out];show m+1≤_;omega,by go_num,Ia.out,kZ.out,HW2.out⟩
     case measure=>simp[intOf];omega
   | true=>
    by_cases hkn:k+1=n
    ·have HKN:=hid hkn
     have hq:((k:Int)==(n:Int) - 1)=true:=by simp;omega
     cases hct:p.contains 46 with
     | true=>
      have HCT:=hid hct
      clear hct hkn
      go_wp2_with fail
      refine(Il Y _).mono ?_
      rw[kU.out,HCT.out]
      rintro e4 w4 ⟨rfl,hw4⟩
      subst hw4
      have HCOND:Hid (iT true (p::R.drop (k+1))=lN p):=by show _=_;rw[iT,if_pos ⟨rfl,ajC.out.2 HKN.out,HCT.out⟩]
      cases hqd:lN p with
      |none=>
       have HE:Hid (S=none):=by show _=_;rw[HW.out,HDR.out,HCOND.out,hqd];rfl
       have HQD:Hid (QV (lN p)=.tuple #[.int .u16 0,.int .u16 0,.bool false]):=by show _=_;rw[hqd];rfl
       have hown:=HO.out
       clear hqd HO
       go_wp2_with fail
       refine(abj Y _ HYS.out (jI.out.below Z4.out)).mono ?_
       rw[kU.out,HQD.out]
       rintro e5 w5 ⟨rfl,hb5⟩
       have hown5:=aP hown hb5
       have mJ:Below w3.heap.size w3 w5:=Z4.out.trans (hb5.mono hbw)
       clear hown hb5
       go_wp2_with (at_builtin;refine aQ rfl _ _ 321 rfl w3.heap.size 66 i0 (.int .u16 0) 2 Tryz.underlying321 hi hz0 hz1 hz2 rfl _ m _ rfl hown5 mJ mJ.size [.int .u16 0,.int .u16 0] 2 rfl rfl (by intro u hu;simp at hu;subst hu;rfl) (by unfold maxLen;omega) (by omega) ?_)
       intro v7 w7 dU dA
       have kZ:=hid dA
       clear hown5 mJ dU dA
       go_wp2
       go_ret2
       exact⟨DW HE.out _,bel HB.out kZ.out⟩
      |some x=>
       obtain⟨a,b,rfl⟩:=Yi hqd
       have HE:Hid (S=some (xs++[a,b])):=by show _=_;rw[HW.out,HDR.out,HCOND.out,hqd];rfl
       have HQD:Hid (QV (lN p)=.tuple #[.int .u16 (a:Int),.int .u16 (b:Int),.bool true]):=by show _=_;rw[hqd];rfl
       have hown:=HO.out
       clear hqd HO
       go_wp2_with fail
       refine(abj Y _ HYS.out (jI.out.below Z4.out)).mono ?_
       rw[kU.out,HQD.out]
       rintro e5 w5 ⟨rfl,hb5⟩
       have hown5:=aP hown hb5
       have mJ:Below w3.heap.size w3 w5:=Z4.out.trans (hb5.mono hbw)
       clear hown hb5
       go_wp2_with (at_builtin;refine aQ rfl _ _ 321 rfl w3.heap.size 66 i0 (.int .u16 0) 2 Tryz.underlying321 hi hz0 hz1 hz2 rfl _ m _ rfl hown5 mJ mJ.size [.int .u16 (a:Int),.int .u16 (b:Int)] 2 rfl rfl (by intro u hu;simp at hu;rcases hu with rfl|rfl<;>rfl) (by unfold maxLen;omega) (by omega) ?_)
       intro v7 w7 dU dA
       have Ia:Hid (w7.ownsRow w3.heap.size 66 1 v7 (xs++[a,b]).length (aT (xs++[a,b]))):=by
        show World.ownsRow _ _ _ _ _ _ _
        rw[List.length_append,←HM.out,Af]
        exact dU
       have kZ:=hid dA
       clear hown5 mJ dU dA
       go_wp2
       go_ret2
       exact⟨Jj HE.out _ (ay Ia.out HB.out.size),bel HB.out kZ.out⟩
     | false=>
      have HCT:=hid hct
      have HNB:Hid (NB true (R.drop (k+1)) p):=fun h=>by rw[HCT.out]at h;cases h.2.2
      clear hct hkn
      go_wp2_with fail
      refine(Il Y _).mono ?_
      rw[kU.out,HCT.out]
      rintro e4 w4 ⟨rfl,hw4⟩
      subst hw4
      cases hpc:piece p with
      |none=>
       have HE:Hid (S=none):=by show _=_;rw[HW.out,HDR.out,aea HNB.out hpc];rfl
       have HPC:=hid hpc
       clear hpc
       go_wp2_with fail
       refine(uH Y _).mono ?_
       rw[kU.out,HPC.out]
       rintro e5 w5 ⟨rfl,hw5⟩
       subst hw5
       rw[PV]
       go_wp2
       go_ret2
       exact⟨DW HE.out _,bel HB.out Z4.out⟩
      |some v=>
       have HPC:=hid hpc
       have HW2:Hid (S=(iT true (R.drop (k+1))).map ((xs++[v])++·)):=by show _=_;rw[HW.out,HDR.out,amS HNB.out hpc,wW]
       have hown:=HO.out
       have hbel:=Z4.out
       clear hpc HO Z4 HW
       go_wp2_with fail
       refine(uH Y _).mono ?_
       rw[kU.out,HPC.out]
       rintro e5 w5 ⟨rfl,hw5⟩
       subst hw5
       rw[PV]
       go_wp2_with (at_builtin;refine aQ rfl _ _ 321 rfl w3.heap.size 66 i0 (.int .u16 0) 2 Tryz.underlying321 hi hz0 hz1 hz2 rfl _ m _ rfl hown hbel hbel.size [.int .u16 (v:Int)] 1 rfl rfl (by intro u hu;simp at hu;subst hu;rfl) (by unfold maxLen;omega) (by omega) ?_)
       intro v7 w7 dU dA
       have Ia:Hid (w7.ownsRow w3.heap.size 66 1 v7 (xs++[v]).length (aT (xs++[v]))):=by
        show World.ownsRow _ _ _ _ _ _ _
        rw[List.length_append,←HM.out,Af]
        exact dU
       have kZ:=hid dA
       clear hown hbel dU dA
       go_wp2
       go_roundw
       case rel=>exact⟨k+1,xs++[v],by omega,by rw[List.length_append,←HM.out];show m+1≤_;omega,by go_num,Ia.out,kZ.out,HW2.out⟩
       case measure=>simp[intOf];omega
    have hq:((k:Int)==(n:Int) - 1)=false:=by simp;omega
    have HNB:Hid (NB true (R.drop (k+1)) p):=fun h=>hkn (ajC.out.1 h.2.1)
    clear hkn
    cases hpc:piece p with
    |none=>
     have HE:Hid (S=none):=by show _=_;rw[HW.out,HDR.out,aea HNB.out hpc];rfl
     have HPC:=hid hpc
     clear hpc
     go_wp2_with fail
     refine(uH Y _).mono ?_
     rw[kU.out,HPC.out]
     rintro e5 w5 ⟨rfl,hw5⟩
     subst hw5
     rw[PV]
     go_wp2
     go_ret2
     exact⟨DW HE.out _,bel HB.out Z4.out⟩
    |some v=>
     have HPC:=hid hpc
     have HW2:Hid (S=(iT true (R.drop (k+1))).map ((xs++[v])++·)):=by show _=_;rw[HW.out,HDR.out,amS HNB.out hpc,wW]
     have hown:=HO.out
     have hbel:=Z4.out
     clear hpc HO Z4 HW
     go_wp2_with fail
     refine(uH Y _).mono ?_
     rw[kU.out,HPC.out]
     rintro e5 w5 ⟨rfl,hw5⟩
     subst hw5
     rw[PV]
     go_wp2_with (at_builtin;refine aQ rfl _ _ 321 rfl w3.heap.size 66 i0 (.int .u16 0) 2 Tryz.underlying321 hi hz0 hz1 hz2 rfl _ m _ rfl hown hbel hbel.size [.int .u16 (v:Int)] 1 rfl rfl (by intro u hu;simp at hu;subst hu;rfl) (by unfold maxLen;omega) (by omega) ?_)
     intro v7 w7 dU dA
     have Ia:Hid (w7.ownsRow w3.heap.size 66 1 v7 (xs++[v]).length (aT (xs++[v]))):=by
      show World.ownsRow _ _ _ _ _ _ _
      rw[List.length_append,←HM.out,Af]
      exact dU
     have kZ:=hid dA
     clear hown hbel dU dA
     go_wp2
     go_roundw
     case rel=>exact⟨k+1,xs++[v],by omega,by rw[List.length_append,←HM.out];show m+1≤_;omega,by go_num,Ia.out,kZ.out,HW2.out⟩
     case measure=>simp[intOf];omega
  obtain rfl:k=n:=by omega
  have HE:Hid (S=some xs):=by
   show _=_
   rw[HW.out,List.drop_eq_nil_of_le (by rw[←HN.out];exact Nat.le_refl _)]
   simp[iT]
  go_wp2
  go_ret2
  exact⟨Jj HE.out _ (ay HO.out HB.out.size),bel HB.out Z4.out⟩
theorem Ry (s:ByteArray) (e:Bool) (w:World) (hs:s.size≤1048576) (hM:Max w):Calls Tryz.prog 324 #[.string s,.bool e] w fun en w'=>PcV w (gJ e (dJ s.data.toList)) en w'∧Below w.heap.size w w':=by
 by_cases h:s.data.toList=[]
 ·have HE:Hid (gJ e (dJ s.data.toList)=some []):=by show _=_;rw[h];rfl
  have h1:s.toList=[]:=by rw[Lib.toList_data];exact h
  clear h
  go_enter Tryz.func324,Tryz.ntmps324
  go_wp2
  go_ret2
  exact⟨Jj HE.out _ (World.ownsRow_nil _ _ _ _),Below.refl _ _⟩
 have HE:Hid (gJ e (dJ s.data.toList)=iT e (dJ s.data.toList)):=oD e (fun h2=>h (RJ.1 h2))
 have h1:(s.toList==[])=false:=by rw[Lib.toList_data];simpa using h
 have h2:s.toList.isEmpty=false:=by rw[Lib.toList_data];simpa using h
 have SB:=hid hM
 obtain⟨S,hS⟩:∃S,S=iT e (dJ s.data.toList):=⟨_,rfl⟩
 have HS:=hid hS
 rw[HE.out,←hS]
 clear hM hS
 go_enter Tryz.func324,Tryz.ntmps324
 go_wp2_with fail
 refine(QZ s e _ hs SB.out).mono ?_
 rw[←HS.out]
 rintro en w2 ⟨hp,hb⟩
 cases S with
 |none=>
  obtain⟨v,rfl⟩:=hp
  go_wp2
  go_ret2
  exact⟨DW rfl _,hb⟩
 |some l=>
  obtain⟨v,rfl,ho⟩:=hp
  go_wp2
  go_ret2
  exact⟨Jj rfl _ ho,hb⟩
end Go.Proofs.YtgamccijegollaaGreatDoor.O5
namespace Go.Proofs.YtgamccijegollaaGreatDoor.gU
open Go.RowKit Base Dp acj dI oO wu O6 TJ O5 pO
def oJ:List Nat:=[0,0,0,0,0,0,0,0]
def acQ (o:Option (List Nat)):Value:=match o with
 |some V=>.tuple #[.agg (aT V).toArray,.bool true]
 |none=>.tuple #[.agg (aT oJ).toArray,.bool false]
theorem gK {o:Option (List Nat)} (h:o=none):acQ o=.tuple #[.agg (aT oJ).toArray,.bool false]:=by rw[h];rfl
theorem zo {o:Option (List Nat)} {V:List Nat} (h:o=some V):acQ o=.tuple #[.agg (aT V).toArray,.bool true]:=by rw[h];rfl
theorem dK {w:World} {g:Nat} {t:TypeId} {L:List Nat} (h:Box w g t L) (f:Nat→Nat) (hL:L=[f 0,f 1,f 2,f 3,f 4,f 5,f 6,f 7]):
  w.cell? ⟨g,0,none⟩=some (.int .u16 (f 0:Int))∧w.cell? ⟨g,1,none⟩=some (.int .u16 (f 1:Int))∧w.cell? ⟨g,2,none⟩=some (.int .u16 (f 2:Int))∧w.cell? ⟨g,3,none⟩=some (.int .u16 (f 3:Int))∧w.cell? ⟨g,4,none⟩=some (.int .u16 (f 4:Int))∧w.cell? ⟨g,5,none⟩=some (.int .u16 (f 5:Int))∧w.cell? ⟨g,6,none⟩=some (.int .u16 (f 6:Int))∧w.cell? ⟨g,7,none⟩=some (.int .u16 (f 7:Int)):=by
 subst hL
 refine⟨h.cell 0 (by simp),h.cell 1 (by simp),h.cell 2 (by simp),h.cell 3 (by simp),h.cell 4 (by simp),h.cell 5 (by simp),h.cell 6 (by simp),h.cell 7 (by simp)⟩
theorem iq {w:World} {g:Nat} {t:TypeId} {L:List Nat} (h:Box w g t L):w.frozen? ⟨g,0,none⟩=false∧w.frozen? ⟨g,1,none⟩=false∧w.frozen? ⟨g,2,none⟩=false∧w.frozen? ⟨g,3,none⟩=false∧w.frozen? ⟨g,4,none⟩=false∧w.frozen? ⟨g,5,none⟩=false∧w.frozen? ⟨g,6,none⟩=false∧w.frozen? ⟨g,7,none⟩=false:=
 ⟨h.frozen 0,h.frozen 1,h.frozen 2,h.frozen 3,h.frozen 4,h.frozen 5,h.frozen 6,h.frozen 7⟩
def um (w:World) (g:Nat) (f:Nat→Nat):World:=(((((((w.setCell ⟨g,0,none⟩ (.int .u16 (f 0:Int))).setCell ⟨g,1,none⟩ (.int .u16 (f 1:Int))).setCell ⟨g,2,none⟩ (.int .u16 (f 2:Int))).setCell ⟨g,3,none⟩ (.int .u16 (f 3:Int))).setCell ⟨g,4,none⟩ (.int .u16 (f 4:Int))).setCell ⟨g,5,none⟩ (.int .u16 (f 5:Int))).setCell ⟨g,6,none⟩ (.int .u16 (f 6:Int))).setCell ⟨g,7,none⟩ (.int .u16 (f 7:Int))
theorem ig {w:World} {g:Nat} {t:TypeId} (h:Box w g t oJ) (f:Nat→Nat):Box (um w g f) g t [f 0,f 1,f 2,f 3,f 4,f 5,f 6,f 7]:=
 (((((((h.set 0 (f 0)).set 1 (f 1)).set 2 (f 2)).set 3 (f 3)).set 4 (f 4)).set 5 (f 5)).set 6 (f 6)).set 7 (f 7)
theorem dM {w0 w:World} {B g:Nat} (h:Below B w0 w) (hg:B≤g) (f:Nat→Nat):Below B w0 (um w g f):=(((((((h.setCell hg _).setCell hg _).setCell hg _).setCell hg _).setCell hg _).setCell hg _).setCell hg _).setCell hg _
theorem load8 {w:World} {g:Nat} {L:List Nat} (h:Box w g 304 L) (hl:L.length=8):(loadVar 304 ⟨g,0,none⟩).run Tryz.prog w=.ok (.agg (aT L).toArray) w:=
 run_loadVar_row w g _ _ (aT L).toArray (0,0) _ h Tryz.underlying304 rfl (by
  rw[show(Tryz.prog.info? 304).map (·.size)=some 8 by kernel_rfl]
  simp[aT,hl])
theorem jq {w:World} {g:Nat} {L:List Nat} (h:Box w g 304 L) (hl:L.length=8) (ok:Bool) (tmps:Array Value) (h2:tmps.getD 2 undef=.pointer (some ⟨g,0,none⟩)) (h3:tmps.getD 3 undef=.bool ok):
  (results Tryz.f302 tmps).run Tryz.prog w=.ok (.tuple #[.agg (aT L).toArray,.bool ok]) w:=by
 have hp':tmps[2]?.getD undef=.pointer (some ⟨g,0,none⟩):=by simpa using h2
 have hq':tmps[3]?.getD undef=.bool ok:=by simpa using h3
 simp[results,Tryz.results302,hp',hq',asAddr,load8 h hl]
theorem aN {w w':World} {base gb:Nat} {e:TypeId} {size n:Nat} {v:Value} {xs:List Value} (h:w.ownsRow base e size v n xs) (ho:∀k,k≠gb→w'.heap[k]?=w.heap[k]?) (hg:gb<base):w'.ownsRow base e size v n xs:=by
 refine⟨h.1,?_⟩
 rcases h.2 with hn|⟨g,cap,cur,rfl,hb,hh,rest⟩
 ·exact .inl hn
 exact .inr ⟨g,cap,cur,rfl,hb,(ho g (by omega)).trans hh,rest⟩
theorem Ue (L:List Nat) (off:Nat) (cs:List Nat):splice (aT L) off (aT cs)=aT (splice L off cs):=by simp[splice,aT]
theorem Df {P:Program} {w:World} {ops:Array Oper} {rest:List Oper} {o:Oper} {a:Act} {Q:Exit→Act→World→Prop} (hgd:o.guard=none) (d s:Operand) (dT sT:TypeId)
  (ho:o.op=.call {callee:=.builtin .copy,args:=#[d,s],argTypes:=#[dT,sT]}) (elem:TypeId) (hu:P.underlying dT=some (.slice elem)) (hsz:(P.info? elem).map (·.size)=some 1)
  (dp:Option Addr) (dLen dCap:Nat) (A:Option Addr) (n c:Nat) (hd:a.eval d=.slice dp dLen dCap) (hs:a.eval s=.slice A n c)
  (g off:Nat) (L:List Nat) (t:TypeId) (hg:Box w g t L) (cs:List Nat) (hr:aY w A n (aT cs)) (hn:n≤dLen) (hpos:0<n→dp=some ⟨g,off,none⟩) (hfit:off+cs.length≤L.length)
  (h:∀w',Hid (Box w' g t (splice L off cs))→(∀k,k≠g→w'.heap[k]?=w.heap[k]?)→Below g w w'→wpList P ops Q rest (a.put o.dst (goInt (aT cs).length)) w'):
  wpList P ops Q (o::rest) a w:=by
 have hl:cs.length=n:=by rw[←kN];exact hr.1
 by_cases h0:n=0
 ·subst h0
  obtain rfl:cs=[]:=List.eq_nil_of_length_eq_zero hl
  refine wpList_copy_nothing hgd d s dT sT ho elem hu hsz dp A dLen dCap 0 c hd hs (by simp) ?_
  exact h w (show Box _ _ _ _ by simpa[splice]using hg) (fun _ _=>rfl) (Below.refl _ _)
 ·obtain rfl:=hpos (by omega)
  obtain⟨b,bo,rfl,_,hc⟩:=hr.spot (by omega)
  refine wpList_copy_own hgd d s dT sT ho elem hu hsz g off dLen dCap ⟨b,bo,none⟩ n c hd hs (aT L).toArray t hg (aT cs) (by rw[kN,hl];exact(Nat.min_eq_left hn).symm) (fun j v hj=>?_) (by simpa[aT]using hfit) (ad1 cs) ?_
  ·obtain⟨hj',e⟩:=List.getElem?_eq_some_iff.1 hj
   have ha:(⟨b,bo,none⟩:Addr).add j=⟨b,bo+j,none⟩:=by
    unfold Addr.add
    split<;>simp_all
   rw[ha,hc j hj',e]
  ·refine h _ ?_ (fun k hk=>setRow_other w g k _ hk) (below_setRow (Below.refl _ _) (Nat.le_refl _) _)
   have:=setRow_heap w g (aT L).toArray ((aT L).take off++(aT cs++(aT L).drop (off+(aT cs).length))).toArray t (0,0) hg
   show Box _ _ _ _
   unfold Box
   rw[←Ue]
   exact this
theorem ZX:∀{s:List UInt8} {p:List UInt8×List UInt8},BQ s=some p→p.1.length≤s.length∧p.2.length≤s.length
 |[],_,h=>by cases h
 |[_],_,h=>by cases h
 | a :: b :: r, p, h => by
  rw[BQ]at h
  split at h
  ·injection h with h;subst h;simp;omega
  ·cases e:BQ (b::r)with
   |none=>rw[e]at h;cases h
   |some q=>
    rw[e]at h
    injection h with h
    subst h
    have:=ZX e
    simp at this⊢
    omega
theorem amU (e:Bool):∀{ps:List (List UInt8)} {l:List Nat},iT e ps=some l→l.length≤ps.length+1
 |[],l,h=>by injection h with h;subst h;simp
 | p ::r,l,h=>by
  rw[iT]at h
  split at h
  ·have:=Jm h;simp;omega
  ·split at h
   ·cases h
   ·split at h
    ·cases h
    ·rename_i x e2
     injection h with h
     subst h
     have:=amU e e2
     simp
     omega
theorem aby {e:Bool} {ps:List (List UInt8)} {l:List Nat} (h:gJ e ps=some l):l.length≤ps.length+1:=by
 unfold gJ at h
 split at h
 ·injection h with h;subst h;simp
 exact amU e h
theorem Bv {V:List Nat} (h:V.length=8):V=[V.getD 0 0,V.getD 1 0,V.getD 2 0,V.getD 3 0,V.getD 4 0,V.getD 5 0,V.getD 6 0,V.getD 7 0]:=by
 match V,h with
 |[a,b,c,d,e,f,g,i],_=>rfl
theorem aeB {l:List Nat} (h:l.length=8):splice oJ 0 l=l:=by
 unfold splice
 rw[h]
 simp[oJ]
theorem Nq (a b:List Nat) (h:a.length+b.length<8):splice (splice oJ 0 a) (8 - b.length) b=fill a b:=by
 have h1:splice oJ 0 a=a++List.replicate (8 - a.length) 0:=by
  unfold splice
  rw[show oJ=List.replicate 8 0 from rfl,List.take_zero,List.nil_append,List.drop_replicate,Nat.zero_add]
 rw[h1]
 unfold splice fill
 rw[List.take_append,List.take_of_length_le (show a.length≤8 - b.length by omega),List.take_replicate,List.drop_eq_nil_of_le (by simp;omega),List.append_nil]
 rw[show min (8 - b.length - a.length) (8 - a.length)=8 - (a.length+b.length)by omega]
theorem parse_any (s : ByteArray) (w : World) (hs : s.size ≤ 1048576) (hM : Max w) : Calls Tryz.prog 302 #[.string s] w fun e w' => e = .returned (acQ (six s.data.toList)) ∧ Below w.heap.size w w' := by
 have SB:=hid hM
 clear hM
 go_enter Tryz.func302,Tryz.ntmps302
 go_wp2_with fail
 generalize hw1:((w.alloc _).alloc _).alloc _=w1
 have HB1:Hid (Below w.heap.size w w1):=by
  show Below _ _ _
  rw[←hw1]
  exact(((Below.refl _ _).alloc (Nat.le_refl _) _).alloc (by simp) _).alloc (by simp;omega) _
 have HA:Hid (Box w1 w.heap.size 304 oJ):=by
  show Box _ _ _ _
  rw[←hw1]
  unfold Box
  rw[heap_alloc_old _ _ (by simp;omega),heap_alloc_old _ _ (by simp)]
  exact heap_alloc_new _ _
 have HN:Hid (Box w1 (w.heap.size+1) 304 oJ):=by
  show Box _ _ _ _
  rw[←hw1]
  unfold Box
  rw[heap_alloc_old _ _ (by simp)]
  have:=heap_alloc_new (w.alloc (.cells (aT oJ).toArray 304)) (.cells (aT oJ).toArray 304)
  rw[show(w.alloc (.cells (aT oJ).toArray 304)).heap.size=w.heap.size+1 by simp]at this
  exact this
 have HV:Hid (Box w1 (w.heap.size+1+1) 304 oJ):=by
  show Box _ _ _ _
  rw[←hw1]
  unfold Box
  have:=heap_alloc_new ((w.alloc (.cells (aT oJ).toArray 304)).alloc (.cells (aT oJ).toArray 304)) (.cells (aT oJ).toArray 304)
  rw[show((w.alloc (.cells (aT oJ).toArray 304)).alloc (.cells (aT oJ).toArray 304)).heap.size=w.heap.size+1+1 by simp]at this
  exact this
 clear hw1
 refine(cut_any s _ (by omega) (SB.out.below HB1.out)).mono ?_
 rintro e wc ⟨rfl,m,rfl⟩
 have HB2:Hid (Below w.heap.size w (w1.drewN m)):=Base.below_drewN HB1.out m
 have HA2:Hid (Box (w1.drewN m) w.heap.size 304 oJ):=HA
 have xE:Hid (Box (w1.drewN m) (w.heap.size+1) 304 oJ):=HN
 have uQ:Hid (Box (w1.drewN m) (w.heap.size+1+1) 304 oJ):=HV
 generalize w1.drewN m=w2 at HB2 HA2 xE uQ
 clear HB1 HA HN HV
 cases hc:BQ s.data.toList with
 | none=>
  have HC:Hid (six s.data.toList=eight (iT true (dJ s.data.toList)) []):=by show _=_;unfold six;rw[hc]
  have HCV:Hid (cutV s=.tuple #[.string s,.string (strOf []),.bool false]):=by show _=_;unfold cutV;rw[hc]
  rw[HCV.out]
  clear hc
  go_wp2_with fail
  refine(QZ s true _ hs (SB.out.below HB2.out)).mono ?_
  rintro e w3 ⟨hp,hb3⟩
  have HB3:=hid (bel HB2.out hb3)
  have HA3:=hid (HA2.out.below hb3)
  have HN3:=hid (xE.out.below hb3)
  have Zj:=hid (uQ.out.below hb3)
  have HG3:=hid uQ.out.lt
  obtain⟨S,hS⟩:∃S,S=iT true (dJ s.data.toList):=⟨_,rfl⟩
  rw[←hS]at hp HC
  clear hS hb3
  cases S with
  |none=>
   obtain⟨v,rfl⟩:=hp
   have HE:=hid (gK HC.out)
   obtain⟨c0,c1,c2,c3,c4,c5,c6,c7⟩:=dK HN3.out (fun _=>0) rfl
   obtain⟨a0,a1,a2,a3,a4,a5,a6,a7⟩:=dK HA3.out (fun _=>0) rfl
   obtain⟨f0,f1,f2,f3,f4,f5,f6,f7⟩:=iq HA3.out
   go_wp2
   exact bodyPost_ret (w:=um _ w.heap.size (fun _=>0)) (jq (L:=oJ) (ig HA3.out (fun _=>0)) rfl false _ rfl rfl) rfl ⟨by rw[HE.out],dM HB3.out (Nat.le_refl _) _⟩
  |some l=>
   obtain⟨v,rfl,ho⟩:=hp
   obtain⟨A,c,rfl,hlc,hcm,hr⟩:=aJ ho
   have HR:=hid hr
   clear ho hr
   by_cases h8:l.length=8
   ·have Me:=hid h8
    have h8i:((l.length:Int)==8)=true:=by simp;omega
    have h8n:(l.length:Int)=8:=by omega
    rw[h8]at HR
    obtain⟨n8,hn8⟩:∃n8,n8=l.length:=⟨_,rfl⟩
    rw[←hn8]at h8i h8n h8 hlc⊢
    subst h8
    clear hn8
    go_wp2_with (refine Df rfl _ _ 321 321 rfl 66 Tryz.underlying321 (by kernel_rfl) _ _ _ A _ _ (by rfl) (by rfl) (w.heap.size+1+1) 0 oJ 304 Zj.out l HR.out (Nat.le_refl _) (fun _=>rfl) (by rw[Me.out];exact Nat.le_refl _) ?_)
    intro w4 hv4 ho4 hb4
    have X7:Hid (Box w4 (w.heap.size+1+1) 304 l):=by have:=hv4.out;rw[aeB Me.out]at this;exact this
    have lg:Hid (Box w4 w.heap.size 304 oJ):=(ho4 _ (by omega)).trans HA3.out
    have HB4:Hid (Below w.heap.size w w4):=HB3.out.trans (hb4.mono (by omega))
    clear hv4 ho4 hb4
    have HE:=hid (zo (show six s.data.toList=some l by rw[HC.out];unfold eight;simp only[];rw[if_pos (by rw[Me.out];rfl)];rfl))
    obtain⟨c0,c1,c2,c3,c4,c5,c6,c7⟩:=dK X7.out (fun i=>(l).getD i 0) (Bv Me.out)
    obtain⟨a0,a1,a2,a3,a4,a5,a6,a7⟩:=dK lg.out (fun _=>0) rfl
    obtain⟨f0,f1,f2,f3,f4,f5,f6,f7⟩:=iq lg.out
    go_wp2
    exact bodyPost_ret (w:=um _ w.heap.size (fun i=>(l).getD i 0)) (jq (ig lg.out (fun i=>(l).getD i 0)) rfl true _ rfl rfl) rfl ⟨(congrArg (fun z=>Ending.returned (.tuple #[.agg (aT z).toArray,.bool true])) (Bv Me.out).symm).trans (by rw[HE.out]),dM HB4.out (Nat.le_refl _) _⟩
   have h8i:((l.length:Int)==8)=false:=by simp;omega
   have Me:=hid h8
   have HE:=hid (gK (show six s.data.toList=none by rw[HC.out];unfold eight;simp only[];rw[if_neg (by simpa using Me.out)]))
   obtain⟨c0,c1,c2,c3,c4,c5,c6,c7⟩:=dK HN3.out (fun _=>0) rfl
   obtain⟨a0,a1,a2,a3,a4,a5,a6,a7⟩:=dK HA3.out (fun _=>0) rfl
   obtain⟨f0,f1,f2,f3,f4,f5,f6,f7⟩:=iq HA3.out
   go_wp2
   exact bodyPost_ret (w:=um _ w.heap.size (fun _=>0)) (jq (L:=oJ) (ig HA3.out (fun _=>0)) rfl false _ rfl rfl) rfl ⟨by rw[HE.out],dM HB3.out (Nat.le_refl _) _⟩
 | some p =>
  have HC:Hid (six s.data.toList=both (gJ false (dJ p.1)) (gJ true (dJ p.2)) []):=by show _=_;unfold six;rw[hc]
  have HCV:Hid (cutV s=.tuple #[.string (strOf p.1),.string (strOf p.2),.bool true]):=by show _=_;unfold cutV;rw[hc]
  have hlen:=ZX hc
  have hsl:s.data.toList.length=s.size:=Array.length_toList
  rw[HCV.out]
  clear hc
  obtain⟨X,hXe⟩:∃X,X=strOf p.1:=⟨_,rfl⟩
  obtain⟨Y,hYe⟩:∃Y,Y=strOf p.2:=⟨_,rfl⟩
  have hX:X.size≤1048576:=by rw[hXe,o9];omega
  have hY:Y.size≤1048576:=by rw[hYe,o9];omega
  obtain⟨S1,hS1⟩:∃S1,S1=gJ false (dJ p.1):=⟨_,rfl⟩
  obtain⟨S2,hS2⟩:∃S2,S2=gJ true (dJ p.2):=⟨_,rfl⟩
  have BD:Hid (S1=gJ false (dJ X.data.toList)):=by show _=_;rw[hXe,hS1];rfl
  have HS2:Hid (S2=gJ true (dJ Y.data.toList)):=by show _=_;rw[hYe,hS2];rfl
  have HLS1:Hid (∀l,S1=some l→l.length≤1048578):=by
   intro l hl
   have h1:=aby (hS1.symm.trans hl)
   have h2:=Dz p.1
   omega
  have HLS2:Hid (∀l,S2=some l→l.length≤1048578):=by
   intro l hl
   have h1:=aby (hS2.symm.trans hl)
   have h2:=Dz p.2
   omega
  rw[←hXe,←hYe]
  rw[←hS1,←hS2]at HC
  clear hXe hYe hS1 hS2 hlen hsl HCV
  go_wp2_with fail
  refine(Ry X false _ hX (SB.out.below HB2.out)).mono ?_
  rw[←BD.out]
  rintro e w3 ⟨hp1,hb3⟩
  have HB3:=hid (bel HB2.out hb3)
  have HA3:=hid (HA2.out.below hb3)
  have HN3:=hid (xE.out.below hb3)
  have Zj:=hid (uQ.out.below hb3)
  have hG2:=uQ.out.lt
  cases S1 with
  |none=>
   obtain⟨v1,rfl⟩:=hp1
   clear hb3 hG2
   go_wp2_with fail
   refine(Ry Y true _ hY (SB.out.below HB3.out)).mono ?_
   rw[←HS2.out]
   rintro e w4 ⟨hp2,hb4⟩
   have HB4:=hid (bel HB3.out hb4)
   have lg:=hid (HA3.out.below hb4)
   have F7:=hid (HN3.out.below hb4)
   have X7:=hid (Zj.out.below hb4)
   clear hb4
   cases S2 with
   |none=>
    obtain⟨v2,rfl⟩:=hp2
    have HE:=hid (gK (show six s.data.toList=none by rw[HC.out];rfl))
    obtain⟨c0,c1,c2,c3,c4,c5,c6,c7⟩:=dK F7.out (fun _=>0) rfl
    obtain⟨a0,a1,a2,a3,a4,a5,a6,a7⟩:=dK lg.out (fun _=>0) rfl
    obtain⟨f0,f1,f2,f3,f4,f5,f6,f7⟩:=iq lg.out
    go_wp2
    exact bodyPost_ret (w:=um _ w.heap.size (fun _=>0)) (jq (L:=oJ) (ig lg.out (fun _=>0)) rfl false _ rfl rfl) rfl ⟨by rw[HE.out],dM HB4.out (Nat.le_refl _) _⟩
   |some b=>
    obtain⟨v2,rfl,_⟩:=hp2
    have HE:=hid (gK (show six s.data.toList=none by rw[HC.out];rfl))
    obtain⟨c0,c1,c2,c3,c4,c5,c6,c7⟩:=dK F7.out (fun _=>0) rfl
    obtain⟨a0,a1,a2,a3,a4,a5,a6,a7⟩:=dK lg.out (fun _=>0) rfl
    obtain⟨f0,f1,f2,f3,f4,f5,f6,f7⟩:=iq lg.out
    go_wp2
    exact bodyPost_ret (w:=um _ w.heap.size (fun _=>0)) (jq (L:=oJ) (ig lg.out (fun _=>0)) rfl false _ rfl rfl) rfl ⟨by rw[HE.out],dM HB4.out (Nat.le_refl _) _⟩
  | some a=>
   obtain⟨v1,rfl,ho1⟩:=hp1
   have hG3:=Zj.out.lt
   go_wp2_with fail
   refine(Ry Y true _ hY (SB.out.below HB3.out)).mono ?_
   rw[←HS2.out]
   rintro e w4 ⟨hp2,hb4⟩
   have HB4:=hid (bel HB3.out hb4)
   have lg:=hid (HA3.out.below hb4)
   have F7:=hid (HN3.out.below hb4)
   have X7:=hid (Zj.out.below hb4)
   cases S2 with
   |none=>
    obtain⟨v2,rfl⟩:=hp2
    clear hb4 hb3 ho1 hG2 hG3
    have HE:=hid (gK (show six s.data.toList=none by rw[HC.out];rfl))
    obtain⟨c0,c1,c2,c3,c4,c5,c6,c7⟩:=dK F7.out (fun _=>0) rfl
    obtain⟨a0,a1,a2,a3,a4,a5,a6,a7⟩:=dK lg.out (fun _=>0) rfl
    obtain⟨f0,f1,f2,f3,f4,f5,f6,f7⟩:=iq lg.out
    go_wp2
    exact bodyPost_ret (w:=um _ w.heap.size (fun _=>0)) (jq (L:=oJ) (ig lg.out (fun _=>0)) rfl false _ rfl rfl) rfl ⟨by rw[HE.out],dM HB4.out (Nat.le_refl _) _⟩
   | some b=>
    obtain⟨v2,rfl,ho2⟩:=hp2
    obtain⟨A1,c1,rfl,hlc1,hcm1,hr1⟩:=aJ (aP ho1 hb4)
    obtain⟨A2,c2,rfl,hlc2,hcm2,hr2⟩:=aJ ho2
    have jy:=hid ho2
    have hla1:=HLS1.out a rfl
    have hlb1:=HLS2.out b rfl
    obtain⟨la,hla⟩:∃la,la=a.length:=⟨_,rfl⟩
    obtain⟨lb,hlb⟩:∃lb,lb=b.length:=⟨_,rfl⟩
    have Uy:=hid hla
    have WE:=hid hlb
    rw[←hla]at hr1 hla1 hlc1⊢
    rw[←hlb]at hr2 hlb1 hlc2⊢
    have HR1:=hid hr1
    have HR2:=hid hr2
    have HGB:Hid (w.heap.size+1+1<w3.heap.size):=hG3
    clear hla hlb hr1 hr2 ho1 ho2 hb3 hb4 hG2 hG3
    by_cases hsum:la+lb<8
    ·have eG:Hid (a.length+b.length<8):=by show _<_;rw[←Uy.out,←WE.out];exact hsum
     have Y5:Hid (six s.data.toList=some (fill a b)):=by
      show _=_
      rw[HC.out]
      unfold both
      simp only[List.length_nil,Nat.zero_add]
      rw[if_pos eG.out]
      rfl
     have hsi:¬(8:Int)≤(la:Int)+(lb:Int):=by omega
     have hla8:la≤8:=by omega
     have hlb8:lb≤8:=by omega
     clear hcm1 hcm2 hla1 hlb1
     by_cases hz:lb=0
     ·obtain rfl:lb=0:=by omega
      go_wp2_with (refine Df rfl _ _ 321 321 rfl 66 Tryz.underlying321 (by kernel_rfl) _ _ _ A1 _ _ (by rfl) (by rfl) (w.heap.size+1+1) 0 oJ 304 X7.out a HR1.out (by omega) (fun _=>rfl) (by rw[←Uy.out];show 0+la≤8;omega) ?_)
      intro w5 hv5 XU hb5
      have HV5:Hid (Box w5 (w.heap.size+1+1) 304 (splice oJ 0 a)):=hv5
      have HA5:Hid (Box w5 w.heap.size 304 oJ):=(XU _ (by omega)).trans lg.out
      have iG:Hid (Below w.heap.size w w5):=HB4.out.trans (hb5.mono (by omega))
      have HR5:Hid (aY w5 A2 0 (aT b)):=by
       obtain⟨A',c',e1,_,_,h⟩:=aJ (aN jy.out XU HGB.out)
       injection e1 with e2 e3 e4
       subst e2
       subst e4
       rw[←WE.out]at h
       exact h
      clear hv5 XU hb5
      have HFIT:Hid (8 - b.length+b.length≤(splice oJ 0 a).length):=by
       show _≤_
       have:=eG.out
       rw[length_splice _ _ _ (by show 0+a.length≤8;omega)]
       show _≤8
       omega
      go_wp2_with (refine Df rfl _ _ 321 321 rfl 66 Tryz.underlying321 (by kernel_rfl) _ _ _ A2 _ _ (by rfl) (by rfl) (w.heap.size+1+1) (8 - b.length) (splice oJ 0 a) 304 HV5.out b HR5.out (by omega) (fun h0=>absurd h0 (by omega)) HFIT.out ?_)
      intro w6 hv6 YS hb6
      have Y3:Hid (Box w6 (w.heap.size+1+1) 304 (fill a b)):=by have:=hv6.out;rw[Nq a b eG.out]at this;exact this
      have HA6:Hid (Box w6 w.heap.size 304 oJ):=(YS _ (by omega)).trans HA5.out
      have nN:Hid (Below w.heap.size w w6):=iG.out.trans (hb6.mono (by omega))
      have Me:Hid ((fill a b).length=8):=by show _=_;have:=eG.out;unfold fill;rw[List.length_append,List.length_append,List.length_replicate];omega
      clear hv6 YS hb6
      obtain⟨V,hV⟩:∃V,V=fill a b:=⟨_,rfl⟩
      rw[←hV]at Y3 Me Y5
      clear hV
      have HE:=hid (zo Y5.out)
      obtain⟨c0,c1,c2,c3,c4,c5,c6,c7⟩:=dK Y3.out (fun i=>V.getD i 0) (Bv Me.out)
      obtain⟨a0,a1,a2,a3,a4,a5,a6,a7⟩:=dK HA6.out (fun _=>0) rfl
      obtain⟨f0,f1,f2,f3,f4,f5,f6,f7⟩:=iq HA6.out
      go_wp2
      exact bodyPost_ret (w:=um _ w.heap.size (fun i=>V.getD i 0)) (jq (ig HA6.out (fun i=>V.getD i 0)) rfl true _ rfl rfl) rfl ⟨(congrArg (fun z=>Ending.returned (.tuple #[.agg (aT z).toArray,.bool true])) (Bv Me.out).symm).trans (by rw[HE.out]),dM nN.out (Nat.le_refl _) _⟩
     have hj0:(0:Int)<(lb:Int):=by omega
     have hj1:(8:Int) - (lb:Int)=((8 - lb:Nat):Int):=by omega
     obtain⟨j,hj⟩:∃j,j=8 - lb:=⟨_,rfl⟩
     rw[←hj]at hj1
     have hj2:j<8:=by omega
     have hj3:lb+j=8:=by omega
     have hj4:(j:Int)<8:=by omega
     have hj5:(j:Int)≤8:=by omega
     have hj6:(0:Int)≤(j:Int):=by omega
     have hj7:¬8 - j=0:=by omega
     have hj8:j≤8:=by omega
     have HJ:=hid hj
     clear hj
     go_wp2_with (refine Df rfl _ _ 321 321 rfl 66 Tryz.underlying321 (by kernel_rfl) _ _ _ A1 _ _ (by rfl) (by rfl) (w.heap.size+1+1) 0 oJ 304 X7.out a HR1.out (by omega) (fun _=>rfl) (by rw[←Uy.out];show 0+la≤8;omega) ?_)
     intro w5 hv5 XU hb5
     have HV5:Hid (Box w5 (w.heap.size+1+1) 304 (splice oJ 0 a)):=hv5
     have HA5:Hid (Box w5 w.heap.size 304 oJ):=(XU _ (by omega)).trans lg.out
     have iG:Hid (Below w.heap.size w w5):=HB4.out.trans (hb5.mono (by omega))
     have HR5:Hid (aY w5 A2 lb (aT b)):=by
      obtain⟨A',c',e1,_,_,h⟩:=aJ (aN jy.out XU HGB.out)
      injection e1 with e2 e3 e4
      subst e2
      subst e4
      rw[←WE.out]at h
      exact h
     clear hv5 XU hb5
     have HFIT:Hid (8 - b.length+b.length≤(splice oJ 0 a).length):=by
      show _≤_
      have:=eG.out
      rw[length_splice _ _ _ (by show 0+a.length≤8;omega)]
      show _≤8
      omega
     have HOFF:Hid (8 - b.length=j):=by show _=_;rw[←WE.out,←HJ.out]
     go_wp2_with (refine Df rfl _ _ 321 321 rfl 66 Tryz.underlying321 (by kernel_rfl) _ _ _ A2 _ _ (by rfl) (by rfl) (w.heap.size+1+1) (8 - b.length) (splice oJ 0 a) 304 HV5.out b HR5.out (by omega) (fun h0=>by rw[HOFF.out]) HFIT.out ?_)
     intro w6 hv6 YS hb6
     have Y3:Hid (Box w6 (w.heap.size+1+1) 304 (fill a b)):=by have:=hv6.out;rw[Nq a b eG.out]at this;exact this
     have HA6:Hid (Box w6 w.heap.size 304 oJ):=(YS _ (by omega)).trans HA5.out
     have nN:Hid (Below w.heap.size w w6):=iG.out.trans (hb6.mono (by omega))
     have Me:Hid ((fill a b).length=8):=by show _=_;have:=eG.out;unfold fill;rw[List.length_append,List.length_append,List.length_replicate];omega
     clear hv6 YS hb6
     obtain⟨V,hV⟩:∃V,V=fill a b:=⟨_,rfl⟩
     rw[←hV]at Y3 Me Y5
     clear hV
     have HE:=hid (zo Y5.out)
     obtain⟨c0,c1,c2,c3,c4,c5,c6,c7⟩:=dK Y3.out (fun i=>V.getD i 0) (Bv Me.out)
     obtain⟨a0,a1,a2,a3,a4,a5,a6,a7⟩:=dK HA6.out (fun _=>0) rfl
     obtain⟨f0,f1,f2,f3,f4,f5,f6,f7⟩:=iq HA6.out
     go_wp2
     exact bodyPost_ret (w:=um _ w.heap.size (fun i=>V.getD i 0)) (jq (ig HA6.out (fun i=>V.getD i 0)) rfl true _ rfl rfl) rfl ⟨(congrArg (fun z=>Ending.returned (.tuple #[.agg (aT z).toArray,.bool true])) (Bv Me.out).symm).trans (by rw[HE.out]),dM nN.out (Nat.le_refl _) _⟩
    have hsi:(8:Int)≤(la:Int)+(lb:Int):=by omega
    have HNS:Hid (¬([]:List Nat).length+a.length+b.length<8):=by show ¬_;rw[←Uy.out,←WE.out];simp;omega
    have HE:=hid (gK (show six s.data.toList=none by rw[HC.out];unfold both;simp only[];exact if_neg HNS.out))
    obtain⟨c0,c1,c2,c3,c4,c5,c6,c7⟩:=dK F7.out (fun _=>0) rfl
    obtain⟨a0,a1,a2,a3,a4,a5,a6,a7⟩:=dK lg.out (fun _=>0) rfl
    obtain⟨f0,f1,f2,f3,f4,f5,f6,f7⟩:=iq lg.out
    go_wp2
    exact bodyPost_ret (w:=um _ w.heap.size (fun _=>0)) (jq (L:=oJ) (ig lg.out (fun _=>0)) rfl false _ rfl rfl) rfl ⟨by rw[HE.out],dM HB4.out (Nat.le_refl _) _⟩
end Go.Proofs.YtgamccijegollaaGreatDoor.gU
