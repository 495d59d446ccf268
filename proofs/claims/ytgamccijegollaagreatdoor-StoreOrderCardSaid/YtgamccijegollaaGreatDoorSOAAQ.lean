/- Texts that belong together: apv, StoJ, StoQ, StoS, auU, StoW, Open, aj2, AggN, auT, StoT, Shs, rD. -/
import Derived.Test.YtgamccijegollaaGreatDoorSOAAP
import Derived.Test.YtgamccijegollaaGreatDoorSOAAI
import Derived.BigQuiet
import Derived.Deep.QuietTactic
import Derived.Deep.WholeRow
import Derived.Test.YtgamccijegollaaGreatDoorSOAAO
import Derived.Test.YtgamccijegollaaGreatDoorSOAAA
import Derived.ProofKit
import Derived.OpenShut
import Derived.ShutString
import Derived.ChangeOld
import Derived.Below
import Derived.SliceStrings
import Derived.SizedLaws
import Derived.Laws.IdiomArrays
import Derived.Lib.SmallJoins
import Derived.Test.YtgamccijegollaaGreatDoorSOAAC
import Derived.Laws.OwnMore
import Derived.Handed
import Derived.HandedShaped
import Derived.Shelf.Vars
import Derived.Test.YtgamccijegollaaGreatDoorSOAAM
import Derived.Lib.LaidU8
set_option linter.unusedSimpArgs false
set_option linter.unusedVariables false
set_option maxRecDepth 100000
set_option maxHeartbeats 64000000
namespace Go.Proofs.YtgamccijegollaaGreatDoor.apv
open Go.RowKit Base Dp acj L6 uw xH Kq mW ES
theorem afH:(Tryz.prog.info? 139).map (fun i=>(i.zero,i.size,i.bytes))=some (some (.agg #[.string ⟨#[]⟩,.string ⟨#[]⟩,.string ⟨#[]⟩,.int .i64 0,.int .i64 0,.int .i64 0]),6,72):=by kernel_rfl
theorem nI {w:World} {g:Nat} {s h:ByteArray} {p n:Int} (x:OB w g s h p n):(loadVar 38 ⟨g,0,none⟩).run Tryz.prog w=.ok (.agg #[.string s,.string h,.int .i64 p,.int .i64 n]) w:=
 run_loadVar_row w g _ _ #[.string s,.string h,.int .i64 p,.int .i64 n] (0,0) _ x Tryz.underlying38 rfl (by kernel_rfl)
theorem PG {w:World} {g:Nat} {RV:Array Value} (hs:RV.size=16) (x:w.heap[g]?=some (.cells RV 61 (0,0))):(loadVar 61 ⟨g,0,none⟩).run Tryz.prog w=.ok (.agg RV) w:=
 run_loadVar_row w g _ _ RV (0,0) _ x Tryz.underlying61 rfl (by rw[hs];kernel_rfl)
theorem aoy (a b:ByteArray):a.toList=b.toList↔a=b:=by
 rw[aZ.tl,aZ.tl]
 refine⟨fun h=>?_,fun h=>by rw[h]⟩
 cases a
 cases b
 congr 1
 exact Array.toList_inj.1 h
theorem KF (hb:Nat) (e:Bc (Int)) (t:ByteArray) (w:World) (hc:w.cell? ⟨hb,0,none⟩=some (.string t)):Calls Tryz.prog 192 #[.agg #[.string e.url,.string e.s,.string e.h,.int .i64 e.p,.int .i64 e.n,.int .i64 e.x],.pointer (some ⟨hb,0,none⟩)] w fun r w'=>r=.returned (.bool (decide (e.url=t)))∧Below w.heap.size w w':=by
 have hlt:=World.block_lt_of_cell? w _ hc
 go_enter Tryz.func192,Tryz.ntmps192
 go_wp2
 go_ret
 exact⟨ak (by rw[Bool.eq_iff_iff];simp[aoy]),(Below.refl _ _).alloc (Nat.le_refl _) _⟩
def zA:Option Nat→Int
 |none=> -1
 |some k=>k
theorem KO (A : Option Addr) (c hb : Nat) (l : List (Bc (Int))) (t : ByteArray) (w : World) (hl : l.length ≤ 64)
  (hcell:∀k (hk:k<l.length),∃b,A=some ⟨b,0,none⟩∧b<w.heap.size∧∀j v,j<6→(xH.rw6 (Value.int .i64) l[k])[j]?=some v→w.cell? ⟨b,k*6+j,none⟩=some v) (hc:w.cell? ⟨hb,0,none⟩=some (.string t)):
  Calls Tryz.prog 191 #[.slice A l.length c,.func (.func 192) #[] #[.pointer (some ⟨hb,0,none⟩)]] w fun e w'=>e=.returned (.int .i64 (zA (idx l t)))∧Below w.heap.size w w':=by
 have hhb:=World.block_lt_of_cell? w _ hc
 have HC:=hid hcell
 have HH:=hid hc
 have hlli:(l.length:Int)≤64:=by omega
 clear hcell hc
 rcases Nat.eq_zero_or_pos l.length with h0|h0
 ·have hi:idx l t=none:=by
   have:l=[]:=List.eq_nil_of_length_eq_zero h0
   subst this
   rfl
  rw[hi]
  go_enter Tryz.func191,Tryz.ntmps191
  go_wp2
  go_loopw [5,8] (fun _ vk wr=>vk=.int .i64 0∧wr=w) (fun _ _ _=>0)
  case atStart=>exact⟨rfl,rfl⟩
  case round=>
   obtain⟨rfl,rfl⟩:=hrel
   go_wp2
   go_ret
   exact⟨rfl,Below.refl _ _⟩
 ·obtain ⟨b,rfl,hbl,_⟩:=HC.out 0 h0
  go_enter Tryz.func191,Tryz.ntmps191
  go_wp2
  go_loopw [5,8] (fun _ vk wr=>∃j:Nat,j≤l.length∧vk=.int .i64 (j:Int)∧Hid (Below w.heap.size w wr)∧Hid (∀k (hk:k<l.length),k<j→¬l[k].url=t)) (fun _ vk _=>l.length - (intOf vk).toNat)
  case atStart=>exact⟨0,Nat.zero_le _,rfl,Below.refl _ _,fun k _ hk=>absurd hk (by omega)⟩
  case round=>
   obtain⟨j,hj,rfl,HB,HN⟩:=hrel
   by_cases hlt:j<l.length
   ·obtain ⟨b',e,_,hcc⟩:=HC.out j hlt
    injection e with e
    injection e with e
    subst e
    obtain⟨E,hp⟩:∃E,E=l[j]:=⟨_,rfl⟩
    rw[←hp]at hcc
    obtain⟨k0,k1,k2,k3,k4,k5⟩:=Lu (w:=wr) fun j' v h1 h2=>(HB.out.cell (p:=⟨b,j*6+j',none⟩) hbl).trans (hcc j' v h1 h2)
    replace k5:wr.cell? ⟨b,j*6+5,none⟩=some (.int .i64 E.x):=k5
    have HHC:=hid ((HB.out.cell (p:=⟨hb,0,none⟩) hhb).trans HH.out)
    have HP:=hid hp
    clear hcc hp
    go_wp2_with fail
    refine(KF hb E t _ HHC.out).mono ?_
    rintro e w1 ⟨rfl,hb1⟩
    have HB1:=hid (HB.out.trans (hb1.mono HB.out.size))
    clear hb1
    by_cases hq:E.url=t
    ·have HI:Hid (zA (idx l t)=(j:Int)):=by
      show _=_
      cases hx:idx l t with
      |none=>exact absurd (by rw[←HP.out];exact hq) (Qz hx j hlt)
      |some k=>
       obtain⟨hk,e1,e2⟩:=vH hx
       show(k:Int)=j
       rcases Nat.lt_trichotomy k j with h1|h1|h1
       ·exact absurd e1 (HN.out k hk h1)
       ·rw[h1]
       ·exact absurd (by rw[←HP.out];exact hq) (e2 j h1)
     rw[decide_eq_true hq]
     clear hq
     go_wp2
     go_ret
     exact⟨iw HI.out.symm,HB1.out⟩
    ·rw[decide_eq_false hq]
     have xE:Hid (∀k (hk:k<l.length),k<j+1→¬l[k].url=t):=fun k hk hkj=>by
      by_cases e:k=j
      ·subst e;rw[←HP.out];exact hq
      ·exact HN.out k hk (by omega)
     clear hq
     go_wp2
     go_roundw
     case rel=>exact⟨j+1,by omega,by go_num,HB1.out,xE.out⟩
     case measure=>simp[intOf];omega
   ·obtain rfl:j=l.length:=by omega
    have HI:Hid (idx l t=none):=by
     show _=_
     cases hx:idx l t with
     |none=>rfl
     |some k=>obtain⟨hk,e1,_⟩:=vH hx;exact absurd e1 (HN.out k hk hk)
    go_wp2
    go_ret
    exact⟨iw (by rw[HI.out];rfl),HB.out⟩
theorem Dt (B g room:Nat) (l:List (Bc (Int))) (t:ByteArray) (w:World) (hT:IsS 136 139 (Value.int .i64) B g room l w) (hl:l.length≤64):
  Calls Tryz.prog 94 #[.pointer (some ⟨g,0,none⟩),.string t] w fun e w'=>e=.returned (.tuple #[.int .i64 (zA (idx l t)),.bool (idx l t).isSome])∧Below w.heap.size w w':=by
 have hlt:=hT.lt
 obtain⟨v,hv,hown,hBg⟩:=hT
 obtain⟨A,c,rfl,hnc,hcm,hcell⟩:=lY hown
 obtain⟨c0,c1⟩:=cells2 hv
 have HC:=hid hcell
 have hb0:Below w.heap.size w (w.alloc (.cells #[.string t] 9)):=(Below.refl _ _).alloc (Nat.le_refl _) _
 clear hcell hv hown
 go_enter Tryz.func94,Tryz.ntmps94
 go_wp2_with fail
 refine(KO A c w.heap.size l t _ hl (fun k hk=>?_) (by rw[World.cell?_alloc_mark];rfl)).mono ?_
 ·obtain⟨b,e,h1,h2⟩:=HC.out k hk
  exact⟨b,e,Nat.lt_of_lt_of_le h1 hb0.size,fun j v h3 h4=>(hb0.cell (p:=⟨b,k*6+j,none⟩) h1).trans (h2 j v h3 h4)⟩
 rintro e w1 ⟨rfl,hb1⟩
 have HB:=hid (bel hb0 hb1)
 clear hb0 hb1
 cases hi:idx l t with
 |none=>
  have HI:=hid hi
  clear hi
  rw[show zA none= -1 from rfl]
  go_wp2
  go_ret2
  exact⟨by rw[HI.out];rfl,HB.out⟩
 |some k=>
  rw[show zA (some k)=(k:Int)from rfl]
  have HI:=hid hi
  clear hi
  go_wp2
  go_ret2
  exact⟨by rw[HI.out];rfl,HB.out⟩
theorem new_any (n:Nat) (h1:1≤n) (h2:n≤64) (w:World):Calls Tryz.prog 37 #[.int .i64 (n:Int)] w fun e w'=>∃g,e=.returned (.tuple #[.pointer (some ⟨g,0,none⟩),.int .i64 0])∧IsS 136 139 (Value.int .i64) w.heap.size g n [] w'∧Below w.heap.size w w':=by
 have q1:¬(n:Int)<1:=by omega
 have q2:¬(64:Int)<(n:Int):=by omega
 go_enter Tryz.func37,Tryz.ntmps37
 go_wp2
 go_ret2
 exact⟨_,rfl,⟨_,heap_alloc_new w _,World.ownsRow_nil _ _ _ _,Nat.le_refl _⟩,(Below.refl _ _).alloc (Nat.le_refl _) _⟩
end Go.Proofs.YtgamccijegollaaGreatDoor.apv
namespace Go.Proofs.YtgamccijegollaaGreatDoor.StoJ
open Go.RowKit Base Dp acj L6 uw xH apv Kq mW ES
theorem avx (B g room:Nat) (l:List (Bc (Int))) (s h:ByteArray) (p n:Int) (x:Int) (RV:Array Value) (P N T:List UInt8) (w:World) (hS:IsS 136 139 (Value.int .i64) B g room l w) (hm:room≤64) (hl:l.length≤64) (hr:l.length<room) (hi:idx l (strOf T)=none) (hT:T=[98,108,111,98,58]++P++[47]++N) (hPl:P.length≤100000) (hNl:N.length≤1000) (hRV:RV.size=16)
  (HR:Hid (∀w',Below w.heap.size w w'→Calls Tryz.prog 92 #[.agg #[.string s,.string h,.int .i64 p,.int .i64 n]] w' fun e w''=>e=.returned (.bool true)∧Below w'.heap.size w' w''))
  (HP:Hid (∀w',Below w.heap.size w w'→Calls Tryz.prog 66 #[.agg #[.string s,.string h,.int .i64 p,.int .i64 n]] w' fun e w''=>e=.returned (.string (strOf P))∧Below w'.heap.size w' w''))
  (HN:Hid (∀w',Below w.heap.size w w'→Calls Tryz.prog 93 #[.agg RV] w' fun e w''=>e=.returned (.string (strOf N))∧Below w'.heap.size w' w'')):
  Calls Tryz.prog 38 #[.pointer (some ⟨g,0,none⟩),.agg #[.string s,.string h,.int .i64 p,.int .i64 n],.int .i64 x,.agg RV] w fun e w'=>e=.returned (.tuple #[.string (strOf T),.int .i64 0])∧IsS 136 139 (Value.int .i64) B g room (l++[⟨strOf T,s,h,p,n,x⟩]) w'∧Below B w w'∧Kp 136 139 w w':=by
 obtain⟨i0,hi0,hz0,hz1,hz2⟩:=info_parts afH
 have FI:=hid hS
 have hBw:B≤w.heap.size:=by obtain⟨_,_,_,h3⟩:=hS;exact Nat.le_trans h3 (Nat.le_of_lt FI.out.lt)
 have HI:=hid hi
 have HRV:=hid hRV
 obtain⟨T1,hT1⟩:∃x,x=[98,108,111,98,58]++P:=⟨_,rfl⟩
 obtain⟨T2,hT2⟩:∃x,x=T1++[47]:=⟨_,rfl⟩
 have hT3:T=T2++N:=by rw[hT,hT2,hT1]
 have hl1:T1.length≤100005:=by rw[hT1];simp only[List.length_append,List.length_cons,List.length_nil];omega
 have hl2:T2.length≤100006:=by rw[hT2];simp only[List.length_append,List.length_cons,List.length_nil];omega
 have HA1:Hid (∀w:World,(Op.stringOp .add ⟨#[98,108,111,98,58]⟩ (strOf P)).run Tryz.prog w=.ok (.string (strOf T1)) w):=fun w=>by rw[hT1];exact dL ⟨#[98,108,111,98,58]⟩ (strOf P) w (by rw[o9];show 5+_≤_;omega)
 have HA2:Hid (∀w:World,(Op.stringOp .add (strOf T1) ⟨#[47]⟩).run Tryz.prog w=.ok (.string (strOf T2)) w):=fun w=>by rw[hT2];exact dL (strOf T1) ⟨#[47]⟩ w (by rw[o9];show _+1≤_;omega)
 have HA3:Hid (∀w:World,(Op.stringOp .add (strOf T2) (strOf N)).run Tryz.prog w=.ok (.string (strOf T)) w):=fun w=>by rw[hT3];exact dL (strOf T2) (strOf N) w (by rw[o9,o9];omega)
 clear hT hT1 hT2 hT3 hl1 hl2 hPl hNl hS hi hRV
 go_enter Tryz.func38,Tryz.ntmps38
 go_upto_region 1 with(fail)
 generalize bI:World.alloc (World.alloc w _) _=v1
 have h1_:OB v1 w.heap.size s h p n∧v1.heap[w.heap.size+1]?=some (.cells RV 61 (0,0))∧Below w.heap.size w v1:=by
  subst bI
  exact laid2 w _ _ _ _
 clear bI
 have X1:=hid h1_.1
 have X2:=hid h1_.2.1
 have HB1:=hid h1_.2.2
 clear h1_
 obtain⟨d0,d1,d2,d3⟩:=X1.out.facts
 go_wp2_with fail
 refine(HR.out _ HB1.out).mono ?_
 rintro e v2 ⟨rfl,hb2⟩
 clear d0 d1 d2 d3
 have X1b:=hid (X1.out.below hb2)
 have X2b:=hid ((hb2.block _ (Array.getElem?_eq_some_iff.1 X2.out).1).trans X2.out)
 have HB2:=hid (bel HB1.out hb2)
 clear X1 X2 HB1 hb2
 go_upto_region 3 with(fail)
 refine aV (by kernel_rfl) [is (.agg #[.string s,.string h,.int .i64 p,.int .i64 n]),is (.string (strOf P)),is (.string (strOf T1)),is (.string (strOf T2)),is (.agg RV),is (.string (strOf N)),is (.string (strOf T)),is (.string (strOf T))] [[],[0],[1],[2],[],[4],[3,5],[6]] (by kernel_rfl) ?_ ?_
 ·refine⟨?_,?_,?_,?_,?_,?_,?_,?_,trivial⟩
  all_goals(intro t wq hbq hh K hK;simp only[filled,pg,upd,Have,is,any,row,pick,Act.put,List.setIfInBounds_toArray,List.set_cons_zero,List.set_cons_succ,Nat.reduceAdd,Nat.reduceEqDiff,reduceIte,List.tail_cons,List.headD_cons]at hh hK⊢)
  ·clear hh
   refine LP (nI (X1b.out.below hbq)) (.tmp 5) rfl rfl rfl ?_
   exact hK _ _ blr rfl
  ·have e0:=hh.1
   clear hh
   simp only[e0]at hK⊢
   go_simp
   refine(HP.out _ (bel HB2.out hbq)).mono ?_
   rintro e w9 ⟨rfl,mG⟩
   exact hK _ _ mG rfl
  ·have e1:=hh.1
   clear hh
   simp only[e1]at hK⊢
   have had:=HA1.out wq
   go_simp
   exact hK _ _ blr rfl
  ·have e2:=hh.1
   clear hh
   simp only[e2]at hK⊢
   have had:=HA2.out wq
   go_simp
   exact hK _ _ blr rfl
  ·clear hh
   refine LP (PG HRV.out ((hbq.block _ (Array.getElem?_eq_some_iff.1 X2b.out).1).trans X2b.out)) (.tmp 7) rfl rfl rfl ?_
   exact hK _ _ blr rfl
  ·have e4:=hh.1
   clear hh
   simp only[e4]at hK⊢
   go_simp
   refine(HN.out _ (bel HB2.out hbq)).mono ?_
   rintro e w9 ⟨rfl,mG⟩
   exact hK _ _ mG rfl
  ·have e3:=hh.1
   have e5:=hh.2.1
   clear hh
   simp only[e3,e5]at hK⊢
   have had:=HA3.out wq
   go_simp
   exact hK _ _ blr rfl
  ·try simp only[hh]at hK⊢
   clear hh
   go_simp
   exact hK _ _ blr rfl
 ·intro t wq hbq hh
  have f7:=aB hh 7 (by decide)
  simp only[pick]at f7
  replace f7:t 7=(.string (strOf T)):=f7
  clear hh
  simp only[filled,pg,upd,Have,is,any,row,pick,Act.put,List.setIfInBounds_toArray,List.set_cons_zero,List.set_cons_succ,Nat.reduceAdd,Nat.reduceEqDiff,reduceIte]
  simp only[f7]
  have X1c:=hid (X1b.out.below hbq)
  have HB3:=hid (bel HB2.out hbq)
  clear X1b X2b HB2 hbq
  have TD:=hid (FI.out.below HB3.out)
  go_wp2_with fail
  refine(Dt B g room l (strOf T) _ TD.out hl).mono ?_
  rw[HI.out]
  rintro e w4 ⟨rfl,hb4⟩
  have X1d:=hid (X1c.out.below hb4)
  have HB4:=hid (bel HB3.out hb4)
  clear X1c HB3 hb4
  rw[show zA none= -1 from rfl]
  have HS4:=hid (FI.out.below HB4.out)
  obtain⟨v,hv,hown,hBg⟩:=HS4.out
  obtain⟨A,c,rfl,hnc,hcm,_⟩:=lY hown
  obtain⟨c0,c1⟩:=cells2 hv
  have hlti:=HS4.out.lt
  clear TD
  have hroom:¬(room:Int)≤(l.length:Int):=by omega
  have hll:(l.length:Int)≤64:=by omega
  go_wp2_with fail
  go_quiet (fail)
  have hv1:(w4.drewN nq).heap[g]?=some (.cells #[.int .i64 (room:Int),.slice A l.length c] 136 (0,0)):=by rw[World.heap_drewN];exact hv
  have hb1:Below w4.heap.size w4 (w4.drewN nq):=Base.below_drewN (Below.refl _ _) _
  have hown1:=aP hown hb1
  have iG:=hid (bel HB4.out hb1)
  have X1e:=hid (X1d.out.below hb1)
  generalize w4.drewN nq=w5 at hv1 hown1 hb1 iG X1e⊢
  clear c0 c1 hv hown HS4 hb1 X1d HB4
  have HV:=hid hv1
  have HO:=hid hown1
  obtain⟨c0,c1⟩:=cells2 HV.out
  have sQ:Hid (g<w5.heap.size):=(Array.getElem?_eq_some_iff.1 HV.out).1
  have Z4:Hid (B≤w5.heap.size):=Nat.le_trans hBw iG.out.size
  clear hv1 hown1
  go_upto_region 9 with(fail)
  generalize decide (room≤l.length)=dd
  refine wp_region_any (by kernel_rfl) ?_
  change wpAny _ _ _ _ _ _ _ (World.drew _)
  refine wpAny_take (i:=0) (v:=(.pointer (some ⟨g,0,none⟩))) rfl (by kernel_rfl) (by kernel_rfl) (by kernel_rfl) (fun _ _ _ h=>h) (Or.inl ⟨by rfl,?yy0⟩) ?_
  case yy0=>(intro w;go_simp;try with_reducible rfl)
  simp only[List.getElem_toArray,List.getElem_cons_zero,List.getElem_cons_succ,Act.put,List.setIfInBounds_toArray,List.set_cons_zero,List.set_cons_succ]
  refine ab7 10 [pg g 0,pg g 0,pg g 0,pg g 1,is (.slice A l.length c),is (.string (strOf T)),is (.agg #[.string s,.string h,.int .i64 p,.int .i64 n]),is (.int .i64 x),is (.agg #[.string (strOf T),.string s,.string h,.int .i64 p,.int .i64 n,.int .i64 x]),one6 [.string (strOf T),.string s,.string h,.int .i64 p,.int .i64 n,.int .i64 x]] [[],[],[1],[1,2],[1,2,3],[],[],[],[5,6,7],[5,6,7,8],[1,2,3,4,5,6,7,8,9]] [0] (by kernel_rfl) (by kernel_rfl) (by kernel_rfl) ?_ ?_ ?_
  ·intro k hk;simp only[List.mem_cons,List.not_mem_nil,or_false]at hk;subst hk;rfl
  ·refine ⟨?_,?_,?_,?_,?_,?_,?_,?_,?_,?_,trivial⟩
   all_goals(intro t wq hbq hh K hK;simp only[filled,pg,aj,upd,Have,is,any,row,pick,Act.put,List.setIfInBounds_toArray,List.set_cons_zero,List.set_cons_succ,Nat.reduceAdd,Nat.reduceEqDiff,reduceIte,List.tail_cons,List.headD_cons]at hh hK⊢)
   iterate 4
    ·try simp only[hh]at hK⊢
     clear hh
     go_simp
     exact hK _ _ blr rfl
   ·have e3:=hh.2.2.1
    clear hh
    simp only[e3]at hK⊢
    have hq:=(hbq.cell (p:=⟨g,1,none⟩) sQ.out).trans c1
    go_simp
    exact hK _ _ blr rfl
   ·clear hh
    go_simp
    exact hK _ _ blr rfl
   ·clear hh
    refine LP (nI (OB.below (w:=w5.drew) X1e.out hbq)) (.tmp 5) rfl rfl rfl ?_
    exact hK _ _ blr rfl
   iterate 2
    ·try simp only[hh]at hK⊢
     clear hh
     go_simp
     exact hK _ _ blr rfl
   ·try simp only[hh]at hK⊢
    clear hh
    go_simp
    exact hK _ _ ((Below.refl _ _).alloc (Nat.le_refl _) _) ⟨wq.heap.size,rfl,by simp,fun j v hv=>by rw[cell_of_row _ wq.heap.size j _ _ _ (heap_alloc_new wq _)];simpa using hv⟩
  ·intro t wq hbq hh
   have f0:=aB hh 0 (by decide)
   simp only[pick]at f0
   replace f0:t 0=(.pointer (some ⟨g,0,none⟩)):=f0
   have f4:=aB hh 4 (by decide)
   simp only[pick]at f4
   replace f4:t 4=(.slice A l.length c):=f4
   have f9:=aB hh 9 (by decide)
   simp only[pick]at f9
   clear hh
   simp only[filled,pg,aj,upd,Have,is,any,row,pick,Act.put,List.setIfInBounds_toArray,List.set_cons_zero,List.set_cons_succ,Nat.reduceAdd,Nat.reduceEqDiff,reduceIte]
   simp only[f0,f4]
   obtain⟨b,f9,hbl,q0⟩:=f9
   simp only[f9]
   have hvq:wq.heap[g]?=some (.cells #[.int .i64 (room:Int),.slice A l.length c] 136 (0,0)):=(hbq.block g sQ.out).trans HV.out
   have hoq:wq.ownsRow B 139 6 (.slice A l.length c) l.length (flat (Value.int .i64) l):=aP (w:=w5.drew) HO.out hbq
   have hlq:g<wq.heap.size:=Nat.lt_of_lt_of_le sQ.out hbq.size
   have HVQ:=hid hvq
   have HLQ:=hid hlq
   have Q0:=hid q0
   clear hvq hlq q0
   show wpList _ _ _ [_,_,_,_] _ _
   refine wpList_append_own _ rfl _ _ 134 rfl B 139 i0 _ 6 72 Tryz.underlying134 hi0 hz0 hz1 hz2 rfl (by decide) (.slice A l.length c) l.length (flat (Value.int .i64) l) rfl hoq ⟨b,0,none⟩ 1 1 [.string (strOf T),.string s,.string h,.int .i64 p,.int .i64 n,.int .i64 x] rfl rfl ?d1 (by intro u hu;simp at hu;rcases hu with rfl|rfl|rfl|rfl|rfl|rfl<;>rfl) ?d2 ?d3 ?d4 ?_
   case d1=>
    intro j u hj
    have ha:Addr.add ⟨b,0,none⟩ j=⟨b,j,none⟩:=by unfold Addr.add;split<;>simp_all
    rw[ha]
    exact Q0.out j u hj
   case d2=>unfold maxLen;omega
   case d3=>omega
   case d4=>have:=HLQ.out;omega
   intro v' w6 hown' hgrow _
   have hv4:w6.heap[g]?=some (.cells #[.int .i64 (room:Int),.slice A l.length c] 136 (0,0)):=(hgrow.block g HLQ.out (fun e=>own_ne (by decide) HVQ.out hoq e.symm)).trans HVQ.out
   have hbw4:Below B w w6:=((iG.out.mono hBw).drew.trans (hbq.mono Z4.out)).grown hgrow (Nat.le_trans Z4.out hbq.size) (fun k hk=>(hoq.lt k hk).1)
   have hkp4:Kp 136 139 w w6:=(Kp.below ((iG.out.drew.trans (hbq.mono iG.out.size)))).trans (Kp.grown hoq hgrow)
   have hT5:=heap_setCell_same w6 g 1 _ _ v' hv4
   have hown5:(w6.setCell ⟨g,1,none⟩ v').ownsRow B 139 6 v' (l.length+1) (flat (Value.int .i64) l++[.string (strOf T),.string s,.string h,.int .i64 p,.int .i64 n,.int .i64 x]):=uh hown' (own_ne (by decide) hv4 hown')
   have H5:Hid (IsS 136 139 (Value.int .i64) B g room (l++[⟨strOf T,s,h,p,n,x⟩]) (w6.setCell ⟨g,1,none⟩ v')):=by
    refine⟨v',by simpa using hT5,?_,hBg⟩
    rw[List.length_append,xH.MP]
    exact hown5
   have nN:Hid (Below B w (w6.setCell ⟨g,1,none⟩ v')):=hbw4.setCell (p:=⟨g,1,none⟩) hBg _
   have HK6:Hid (Kp 136 139 w (w6.setCell ⟨g,1,none⟩ v')):=hkp4.trans (Kp.set hv4 (.inl rfl))
   obtain⟨k0,k1⟩:=cells2 hv4
   obtain⟨m0,m1⟩:=thaw2 hv4
   obtain⟨n0,n1⟩:=cells2 hT5
   obtain⟨vA,vc,hvf,_⟩:=aaW hown'
   subst hvf
   clear hoq hown' hgrow hv4 hbw4 hkp4 hT5 hown5
   go_wp2
   go_ret2
   exact⟨rfl,H5.out,nN.out,HK6.out⟩
theorem atz (B g room:Nat) (l:List (Bc (Int))) (s h:ByteArray) (p n:Int) (x:Int) (RV:Array Value) (P N T:List UInt8) (w:World) (hS:IsS 136 139 (Value.int .i64) B g room l w) (hm:room≤64) (hl:l.length≤64) (hi:(idx l (strOf T)).isSome=true) (hT:T=[98,108,111,98,58]++P++[47]++N) (hPl:P.length≤100000) (hNl:N.length≤1000) (hRV:RV.size=16)
  (HR:Hid (∀w',Below w.heap.size w w'→Calls Tryz.prog 92 #[.agg #[.string s,.string h,.int .i64 p,.int .i64 n]] w' fun e w''=>e=.returned (.bool true)∧Below w'.heap.size w' w''))
  (HP:Hid (∀w',Below w.heap.size w w'→Calls Tryz.prog 66 #[.agg #[.string s,.string h,.int .i64 p,.int .i64 n]] w' fun e w''=>e=.returned (.string (strOf P))∧Below w'.heap.size w' w''))
  (HN:Hid (∀w',Below w.heap.size w w'→Calls Tryz.prog 93 #[.agg RV] w' fun e w''=>e=.returned (.string (strOf N))∧Below w'.heap.size w' w'')):
  Calls Tryz.prog 38 #[.pointer (some ⟨g,0,none⟩),.agg #[.string s,.string h,.int .i64 p,.int .i64 n],.int .i64 x,.agg RV] w fun e w'=>e=.returned (.tuple #[.string ⟨#[]⟩,.int .i64 5])∧Below w.heap.size w w':=by
 have FI:=hid hS
 have hBw:B≤w.heap.size:=by obtain⟨_,_,_,h3⟩:=hS;exact Nat.le_trans h3 (Nat.le_of_lt FI.out.lt)
 have HI:=hid hi
 have HRV:=hid hRV
 obtain⟨T1,hT1⟩:∃x,x=[98,108,111,98,58]++P:=⟨_,rfl⟩
 obtain⟨T2,hT2⟩:∃x,x=T1++[47]:=⟨_,rfl⟩
 have hT3:T=T2++N:=by rw[hT,hT2,hT1]
 have hl1:T1.length≤100005:=by rw[hT1];simp only[List.length_append,List.length_cons,List.length_nil];omega
 have hl2:T2.length≤100006:=by rw[hT2];simp only[List.length_append,List.length_cons,List.length_nil];omega
 have HA1:Hid (∀w:World,(Op.stringOp .add ⟨#[98,108,111,98,58]⟩ (strOf P)).run Tryz.prog w=.ok (.string (strOf T1)) w):=fun w=>by rw[hT1];exact dL ⟨#[98,108,111,98,58]⟩ (strOf P) w (by rw[o9];show 5+_≤_;omega)
 have HA2:Hid (∀w:World,(Op.stringOp .add (strOf T1) ⟨#[47]⟩).run Tryz.prog w=.ok (.string (strOf T2)) w):=fun w=>by rw[hT2];exact dL (strOf T1) ⟨#[47]⟩ w (by rw[o9];show _+1≤_;omega)
 have HA3:Hid (∀w:World,(Op.stringOp .add (strOf T2) (strOf N)).run Tryz.prog w=.ok (.string (strOf T)) w):=fun w=>by rw[hT3];exact dL (strOf T2) (strOf N) w (by rw[o9,o9];omega)
 clear hT hT1 hT2 hT3 hl1 hl2 hPl hNl hS hi hRV
 go_enter Tryz.func38,Tryz.ntmps38
 go_upto_region 1 with(fail)
 generalize bI:World.alloc (World.alloc w _) _=v1
 have h1_:OB v1 w.heap.size s h p n∧v1.heap[w.heap.size+1]?=some (.cells RV 61 (0,0))∧Below w.heap.size w v1:=by
  subst bI
  exact laid2 w _ _ _ _
 clear bI
 have X1:=hid h1_.1
 have X2:=hid h1_.2.1
 have HB1:=hid h1_.2.2
 clear h1_
 obtain⟨d0,d1,d2,d3⟩:=X1.out.facts
 go_wp2_with fail
 refine(HR.out _ HB1.out).mono ?_
 rintro e v2 ⟨rfl,hb2⟩
 clear d0 d1 d2 d3
 have X1b:=hid (X1.out.below hb2)
 have X2b:=hid ((hb2.block _ (Array.getElem?_eq_some_iff.1 X2.out).1).trans X2.out)
 have HB2:=hid (bel HB1.out hb2)
 clear X1 X2 HB1 hb2
 go_upto_region 3 with(fail)
 refine aV (by kernel_rfl) [is (.agg #[.string s,.string h,.int .i64 p,.int .i64 n]),is (.string (strOf P)),is (.string (strOf T1)),is (.string (strOf T2)),is (.agg RV),is (.string (strOf N)),is (.string (strOf T)),is (.string (strOf T))] [[],[0],[1],[2],[],[4],[3,5],[6]] (by kernel_rfl) ?_ ?_
 ·refine⟨?_,?_,?_,?_,?_,?_,?_,?_,trivial⟩
  all_goals(intro t wq hbq hh K hK;simp only[filled,pg,upd,Have,is,any,row,pick,Act.put,List.setIfInBounds_toArray,List.set_cons_zero,List.set_cons_succ,Nat.reduceAdd,Nat.reduceEqDiff,reduceIte,List.tail_cons,List.headD_cons]at hh hK⊢)
  ·clear hh
   refine LP (nI (X1b.out.below hbq)) (.tmp 5) rfl rfl rfl ?_
   exact hK _ _ blr rfl
  ·have e0:=hh.1
   clear hh
   simp only[e0]at hK⊢
   go_simp
   refine(HP.out _ (bel HB2.out hbq)).mono ?_
   rintro e w9 ⟨rfl,mG⟩
   exact hK _ _ mG rfl
  ·have e1:=hh.1
   clear hh
   simp only[e1]at hK⊢
   have had:=HA1.out wq
   go_simp
   exact hK _ _ blr rfl
  ·have e2:=hh.1
   clear hh
   simp only[e2]at hK⊢
   have had:=HA2.out wq
   go_simp
   exact hK _ _ blr rfl
  ·clear hh
   refine LP (PG HRV.out ((hbq.block _ (Array.getElem?_eq_some_iff.1 X2b.out).1).trans X2b.out)) (.tmp 7) rfl rfl rfl ?_
   exact hK _ _ blr rfl
  ·have e4:=hh.1
   clear hh
   simp only[e4]at hK⊢
   go_simp
   refine(HN.out _ (bel HB2.out hbq)).mono ?_
   rintro e w9 ⟨rfl,mG⟩
   exact hK _ _ mG rfl
  ·have e3:=hh.1
   have e5:=hh.2.1
   clear hh
   simp only[e3,e5]at hK⊢
   have had:=HA3.out wq
   go_simp
   exact hK _ _ blr rfl
  ·try simp only[hh]at hK⊢
   clear hh
   go_simp
   exact hK _ _ blr rfl
 ·intro t wq hbq hh
  have f7:=aB hh 7 (by decide)
  simp only[pick]at f7
  replace f7:t 7=(.string (strOf T)):=f7
  clear hh
  simp only[filled,pg,upd,Have,is,any,row,pick,Act.put,List.setIfInBounds_toArray,List.set_cons_zero,List.set_cons_succ,Nat.reduceAdd,Nat.reduceEqDiff,reduceIte]
  simp only[f7]
  have X1c:=hid (X1b.out.below hbq)
  have HB3:=hid (bel HB2.out hbq)
  clear X1b X2b HB2 hbq
  have TD:=hid (FI.out.below HB3.out)
  go_wp2_with fail
  refine(Dt B g room l (strOf T) _ TD.out hl).mono ?_
  obtain⟨k,hk⟩:∃k,idx l (strOf T)=some k:=Option.isSome_iff_exists.1 HI.out
  rw[hk]
  rintro e w4 ⟨rfl,hb4⟩
  have X1d:=hid (X1c.out.below hb4)
  have HB4:=hid (bel HB3.out hb4)
  clear X1c HB3 hb4
  rw[show zA (some k)=(k:Int)from rfl]
  go_wp2
  go_ret2
  exact⟨rfl,HB4.out⟩
theorem auD (B g room:Nat) (l:List (Bc (Int))) (s h:ByteArray) (p n:Int) (x:Int) (RV:Array Value) (P N T:List UInt8) (w:World) (hS:IsS 136 139 (Value.int .i64) B g room l w) (hm:room≤64) (hl:l.length≤64) (hr:room≤l.length) (hi:idx l (strOf T)=none) (hT:T=[98,108,111,98,58]++P++[47]++N) (hPl:P.length≤100000) (hNl:N.length≤1000) (hRV:RV.size=16)
  (HR:Hid (∀w',Below w.heap.size w w'→Calls Tryz.prog 92 #[.agg #[.string s,.string h,.int .i64 p,.int .i64 n]] w' fun e w''=>e=.returned (.bool true)∧Below w'.heap.size w' w''))
  (HP:Hid (∀w',Below w.heap.size w w'→Calls Tryz.prog 66 #[.agg #[.string s,.string h,.int .i64 p,.int .i64 n]] w' fun e w''=>e=.returned (.string (strOf P))∧Below w'.heap.size w' w''))
  (HN:Hid (∀w',Below w.heap.size w w'→Calls Tryz.prog 93 #[.agg RV] w' fun e w''=>e=.returned (.string (strOf N))∧Below w'.heap.size w' w'')):
  Calls Tryz.prog 38 #[.pointer (some ⟨g,0,none⟩),.agg #[.string s,.string h,.int .i64 p,.int .i64 n],.int .i64 x,.agg RV] w fun e w'=>e=.returned (.tuple #[.string ⟨#[]⟩,.int .i64 4])∧Below w.heap.size w w':=by
 have FI:=hid hS
 have hBw:B≤w.heap.size:=by obtain⟨_,_,_,h3⟩:=hS;exact Nat.le_trans h3 (Nat.le_of_lt FI.out.lt)
 have HI:=hid hi
 have HRV:=hid hRV
 obtain⟨T1,hT1⟩:∃x,x=[98,108,111,98,58]++P:=⟨_,rfl⟩
 obtain⟨T2,hT2⟩:∃x,x=T1++[47]:=⟨_,rfl⟩
 have hT3:T=T2++N:=by rw[hT,hT2,hT1]
 have hl1:T1.length≤100005:=by rw[hT1];simp only[List.length_append,List.length_cons,List.length_nil];omega
 have hl2:T2.length≤100006:=by rw[hT2];simp only[List.length_append,List.length_cons,List.length_nil];omega
 have HA1:Hid (∀w:World,(Op.stringOp .add ⟨#[98,108,111,98,58]⟩ (strOf P)).run Tryz.prog w=.ok (.string (strOf T1)) w):=fun w=>by rw[hT1];exact dL ⟨#[98,108,111,98,58]⟩ (strOf P) w (by rw[o9];show 5+_≤_;omega)
 have HA2:Hid (∀w:World,(Op.stringOp .add (strOf T1) ⟨#[47]⟩).run Tryz.prog w=.ok (.string (strOf T2)) w):=fun w=>by rw[hT2];exact dL (strOf T1) ⟨#[47]⟩ w (by rw[o9];show _+1≤_;omega)
 have HA3:Hid (∀w:World,(Op.stringOp .add (strOf T2) (strOf N)).run Tryz.prog w=.ok (.string (strOf T)) w):=fun w=>by rw[hT3];exact dL (strOf T2) (strOf N) w (by rw[o9,o9];omega)
 clear hT hT1 hT2 hT3 hl1 hl2 hPl hNl hS hi hRV
 go_enter Tryz.func38,Tryz.ntmps38
 go_upto_region 1 with(fail)
 generalize bI:World.alloc (World.alloc w _) _=v1
 have h1_:OB v1 w.heap.size s h p n∧v1.heap[w.heap.size+1]?=some (.cells RV 61 (0,0))∧Below w.heap.size w v1:=by
  subst bI
  exact laid2 w _ _ _ _
 clear bI
 have X1:=hid h1_.1
 have X2:=hid h1_.2.1
 have HB1:=hid h1_.2.2
 clear h1_
 obtain⟨d0,d1,d2,d3⟩:=X1.out.facts
 go_wp2_with fail
 refine(HR.out _ HB1.out).mono ?_
 rintro e v2 ⟨rfl,hb2⟩
 clear d0 d1 d2 d3
 have X1b:=hid (X1.out.below hb2)
 have X2b:=hid ((hb2.block _ (Array.getElem?_eq_some_iff.1 X2.out).1).trans X2.out)
 have HB2:=hid (bel HB1.out hb2)
 clear X1 X2 HB1 hb2
 go_upto_region 3 with(fail)
 refine aV (by kernel_rfl) [is (.agg #[.string s,.string h,.int .i64 p,.int .i64 n]),is (.string (strOf P)),is (.string (strOf T1)),is (.string (strOf T2)),is (.agg RV),is (.string (strOf N)),is (.string (strOf T)),is (.string (strOf T))] [[],[0],[1],[2],[],[4],[3,5],[6]] (by kernel_rfl) ?_ ?_
 ·refine⟨?_,?_,?_,?_,?_,?_,?_,?_,trivial⟩
  all_goals(intro t wq hbq hh K hK;simp only[filled,pg,upd,Have,is,any,row,pick,Act.put,List.setIfInBounds_toArray,List.set_cons_zero,List.set_cons_succ,Nat.reduceAdd,Nat.reduceEqDiff,reduceIte,List.tail_cons,List.headD_cons]at hh hK⊢)
  ·clear hh
   refine LP (nI (X1b.out.below hbq)) (.tmp 5) rfl rfl rfl ?_
   exact hK _ _ blr rfl
  ·have e0:=hh.1
   clear hh
   simp only[e0]at hK⊢
   go_simp
   refine(HP.out _ (bel HB2.out hbq)).mono ?_
   rintro e w9 ⟨rfl,mG⟩
   exact hK _ _ mG rfl
  ·have e1:=hh.1
   clear hh
   simp only[e1]at hK⊢
   have had:=HA1.out wq
   go_simp
   exact hK _ _ blr rfl
  ·have e2:=hh.1
   clear hh
   simp only[e2]at hK⊢
   have had:=HA2.out wq
   go_simp
   exact hK _ _ blr rfl
  ·clear hh
   refine LP (PG HRV.out ((hbq.block _ (Array.getElem?_eq_some_iff.1 X2b.out).1).trans X2b.out)) (.tmp 7) rfl rfl rfl ?_
   exact hK _ _ blr rfl
  ·have e4:=hh.1
   clear hh
   simp only[e4]at hK⊢
   go_simp
   refine(HN.out _ (bel HB2.out hbq)).mono ?_
   rintro e w9 ⟨rfl,mG⟩
   exact hK _ _ mG rfl
  ·have e3:=hh.1
   have e5:=hh.2.1
   clear hh
   simp only[e3,e5]at hK⊢
   have had:=HA3.out wq
   go_simp
   exact hK _ _ blr rfl
  ·try simp only[hh]at hK⊢
   clear hh
   go_simp
   exact hK _ _ blr rfl
 ·intro t wq hbq hh
  have f7:=aB hh 7 (by decide)
  simp only[pick]at f7
  replace f7:t 7=(.string (strOf T)):=f7
  clear hh
  simp only[filled,pg,upd,Have,is,any,row,pick,Act.put,List.setIfInBounds_toArray,List.set_cons_zero,List.set_cons_succ,Nat.reduceAdd,Nat.reduceEqDiff,reduceIte]
  simp only[f7]
  have X1c:=hid (X1b.out.below hbq)
  have HB3:=hid (bel HB2.out hbq)
  clear X1b X2b HB2 hbq
  have TD:=hid (FI.out.below HB3.out)
  go_wp2_with fail
  refine(Dt B g room l (strOf T) _ TD.out hl).mono ?_
  rw[HI.out]
  rintro e w4 ⟨rfl,hb4⟩
  have X1d:=hid (X1c.out.below hb4)
  have HB4:=hid (bel HB3.out hb4)
  clear X1c HB3 hb4
  rw[show zA none= -1 from rfl]
  have HS4:=hid (FI.out.below HB4.out)
  obtain⟨v,hv,hown,hBg⟩:=HS4.out
  obtain⟨A,c,rfl,hnc,hcm,_⟩:=lY hown
  obtain⟨c0,c1⟩:=cells2 hv
  have hlti:=HS4.out.lt
  clear TD
  have hroom:(room:Int)≤(l.length:Int):=by omega
  have hll:(l.length:Int)≤64:=by omega
  go_wp2_with fail
  go_quiet (fail)
  go_wp2
  go_ret2
  exact⟨rfl,Base.below_drewN HB4.out _⟩
end Go.Proofs.YtgamccijegollaaGreatDoor.StoJ
namespace Go.Proofs.YtgamccijegollaaGreatDoor.StoQ
open Go.RowKit Base Dp cO aco Pg sU wS mW tK yx jQ pO vZ WQ oN wo UG Kq L6 atr OrgY atQ as9
open Go.Proofs.YtgamccijegollaaGreatDoor.aj6 (zC)
theorem print_p (s h:List UInt8) (p n:Int) (w:World) (hs:s≠[]) (hsl:s.length≤1000) (hhl:h.length≤100000) (hp0:p≠-1) (h0: -9223372036854775808≤p) (h1:p≤9223372036854775807) (hT:Tab.Pow w):Calls Tryz.prog 66 #[.agg #[.string (strOf s),.string (strOf h),.int .i64 p,.int .i64 n]] w fun e w'=>e=.returned (.string (strOf (s++[58,47,47]++h++[58]++Lib.itoa p)))∧Below w.heap.size w w':=by
 have hil:=Pg.aaI p (by omega) (by omega)
 have HTU:Hid (∀w:World,Calls Tryz.prog 25 #[.agg #[.string (strOf s),.string (strOf h),.int .i64 p,.int .i64 n]] w fun e w'=>e=.returned (.bool true)∧Below w.heap.size w w'):=fun w=>by
  have hh:=uK (strOf s) (strOf h) p n w
  rw[show decide ((strOf s).data.toList≠[])=true from decide_eq_true hs]at hh
  exact hh
 obtain⟨I,hI⟩:∃I,I=Lib.itoa p:=⟨_,rfl⟩
 have HIT:Hid (∀w:World,Tab.Pow w→Calls Tryz.prog 159 #[.int .i64 p] w fun e w'=>e=.returned (.string (strOf I))∧Below w.heap.size w w'):=fun w hT=>by rw[hI];exact Pg.amh p (by omega) (by omega) w hT
 rw[←hI]
 rw[←hI]at hil
 obtain⟨M1,hM1⟩:∃M,M=s++[58,47,47]:=⟨_,rfl⟩
 obtain⟨M2,hM2⟩:∃M,M=M1++h:=⟨_,rfl⟩
 obtain⟨M3,hM3⟩:∃M,M=M2++[58]:=⟨_,rfl⟩
 obtain⟨M4,hM4⟩:∃M,M=M3++I:=⟨_,rfl⟩
 have hfin:s++[58,47,47]++h++[58]++I=M4:=by rw[hM4,hM3,hM2,hM1]
 rw[hfin]
 have l1:M1.length≤1003:=by rw[hM1,List.length_append];simp only[List.length_cons,List.length_nil];omega
 have l2:M2.length≤101003:=by rw[hM2,List.length_append];omega
 have l3:M3.length≤101004:=by rw[hM3,List.length_append];simp only[List.length_cons,List.length_nil];omega
 have x1:∀w,(Op.stringOp .add (strOf s) ⟨#[58,47,47]⟩).run Tryz.prog w=.ok (.string (strOf M1)) w:=fun w=>by rw[hM1];exact dL _ ⟨#[58,47,47]⟩ w (by rw[o9];show _+3≤_;omega)
 have x2:∀w,(Op.stringOp .add (strOf M1) (strOf h)).run Tryz.prog w=.ok (.string (strOf M2)) w:=fun w=>by rw[hM2];exact dL _ (strOf h) w (by rw[o9,o9];omega)
 have x3:∀w,(Op.stringOp .add (strOf M2) ⟨#[58]⟩).run Tryz.prog w=.ok (.string (strOf M3)) w:=fun w=>by rw[hM3];exact dL _ ⟨#[58]⟩ w (by rw[o9];show _+1≤_;omega)
 have x4:∀w,(Op.stringOp .add (strOf M3) (strOf I)).run Tryz.prog w=.ok (.string (strOf M4)) w:=fun w=>by rw[hM4];exact dL _ (strOf I) w (by rw[o9,o9];omega)
 have HT:=hid hT
 have hp1:(p== -1)=false:=beq_eq_false_iff_ne.2 hp0
 have hp2:¬p= -1:=hp0
 clear hfin hM1 hM2 hM3 hM4 hI l1 l2 l3 hil hs hsl hhl h0 h1 hT hp0
 go_enter Tryz.func66,Tryz.ntmps66
 go_upto_region 1 with(fail)
 generalize bI:World.alloc _ _=v1
 have hxa:OB v1 (w.heap.size) (strOf s) (strOf h) p n:=by rw[←bI];exact heap_alloc_new _ _
 have hb:Below w.heap.size w v1:=by rw[←bI];exact(Below.refl _ _).alloc (Nat.le_refl _) _
 have X1:=hid hxa
 clear bI hxa
 have HB1:=hid hb
 clear hb
 obtain⟨o0,o1,o2,o3⟩:=X1.out.facts
 go_wp2_with fail
 clear o0 o1 o2 o3
 refine(HTU.out _).mono ?_
 rintro e w2 ⟨rfl,hb⟩
 have HB2:=hid (bel HB1.out hb)
 have Xb:=hid (X1.out.below hb)
 clear hb
 obtain⟨o0,o1,o2,o3⟩:=Xb.out.facts
 go_upto_region 5 with(fail)
 clear o0 o1 o2 o3
 refine aV (by kernel_rfl) [is (.pointer (some ⟨w.heap.size,0,none⟩)),is (.string (strOf s)),is (.string (strOf M1)),is (.pointer (some ⟨w.heap.size,1,none⟩)),is (.string (strOf h)),is (.string (strOf M2)),is (.string (strOf M3)),is (.pointer (some ⟨w.heap.size,2,none⟩)),is (.int .i64 p),is (.string (strOf I)),is (.string (strOf M4)),is (.string (strOf M4))] [[],[0],[1],[],[3],[2,4],[5],[],[7],[8],[6,9],[10]] (by kernel_rfl) ?_ ?_
 ·refine⟨?_,?_,?_,?_,?_,?_,?_,?_,?_,?_,?_,?_,trivial⟩
  all_goals(intro t wq hbq hh K hK;simp only[filled,upd,Have,is,any,row,pick,Act.put,List.setIfInBounds_toArray,List.set_cons_zero,List.set_cons_succ,Nat.reduceAdd,Nat.reduceEqDiff,reduceIte,List.tail_cons,List.headD_cons]at hh hK⊢)
  ·clear hh
   go_simp
   exact hK _ _ (Below.refl _ _) rfl
  ·have e0:=hh.1
   clear hh
   simp only[e0]at hK⊢
   obtain⟨o0,o1,o2,o3⟩:=(Xb.out.below hbq).facts
   go_simp
   exact hK _ _ (Below.refl _ _) rfl
  ·have e1:=hh.1
   clear hh
   simp only[e1]at hK⊢
   have hadd:=x1 wq
   go_simp
   exact hK _ _ (Below.refl _ _) rfl
  ·clear hh
   go_simp
   exact hK _ _ (Below.refl _ _) rfl
  ·have e3:=hh.1
   clear hh
   simp only[e3]at hK⊢
   obtain⟨o0,o1,o2,o3⟩:=(Xb.out.below hbq).facts
   go_simp
   exact hK _ _ (Below.refl _ _) rfl
  ·have e2:=hh.1
   have e4:=hh.2.1
   clear hh
   simp only[e2,e4]at hK⊢
   have hadd:=x2 wq
   go_simp
   exact hK _ _ (Below.refl _ _) rfl
  ·have e5:=hh.1
   clear hh
   simp only[e5]at hK⊢
   have hadd:=x3 wq
   go_simp
   exact hK _ _ (Below.refl _ _) rfl
  ·clear hh
   go_simp
   exact hK _ _ (Below.refl _ _) rfl
  ·have e7:=hh.1
   clear hh
   simp only[e7]at hK⊢
   obtain⟨o0,o1,o2,o3⟩:=(Xb.out.below hbq).facts
   go_simp
   exact hK _ _ (Below.refl _ _) rfl
  ·have e8:=hh.1
   clear hh
   simp only[e8]at hK⊢
   go_simp
   refine(HIT.out _ (bY HT.out (bel HB2.out hbq))).mono ?_
   rintro e w5 ⟨rfl,hb5⟩
   exact hK _ _ hb5 rfl
  ·have e6:=hh.1
   have e9:=hh.2.1
   clear hh
   simp only[e6,e9]at hK⊢
   have hadd:=x4 wq
   go_simp
   exact hK _ _ (Below.refl _ _) rfl
  try simp only[hh]at hK⊢
  clear hh
  go_simp
  exact hK _ _ (Below.refl _ _) rfl
 intro t wq hbq hh
 have f11:=aB hh 11 (by decide)
 simp only[pick]at f11
 replace f11:t 11=(.string (strOf M4)):=f11
 clear hh
 simp only[filled,upd,Have,is,any,row,pick,Act.put,List.setIfInBounds_toArray,List.set_cons_zero,List.set_cons_succ,Nat.reduceAdd,Nat.reduceEqDiff,reduceIte]
 simp only[f11]
 go_wp2
 go_ret
 exact⟨rfl,bel HB2.out hbq⟩
theorem print_n (s h:List UInt8) (n:Int) (w:World) (hs:s≠[]) (hsl:s.length≤1000) (hhl:h.length≤100000):Calls Tryz.prog 66 #[.agg #[.string (strOf s),.string (strOf h),.int .i64 (-1),.int .i64 n]] w fun e w'=>e=.returned (.string (strOf (s++[58,47,47]++h)))∧Below w.heap.size w w':=by
 have HTU:Hid (∀w:World,Calls Tryz.prog 25 #[.agg #[.string (strOf s),.string (strOf h),.int .i64 (-1),.int .i64 n]] w fun e w'=>e=.returned (.bool true)∧Below w.heap.size w w'):=fun w=>by
  have hh:=uK (strOf s) (strOf h) (-1) n w
  rw[show decide ((strOf s).data.toList≠[])=true from decide_eq_true hs]at hh
  exact hh
 obtain⟨M1,hM1⟩:∃M,M=s++[58,47,47]:=⟨_,rfl⟩
 obtain⟨M2,hM2⟩:∃M,M=M1++h:=⟨_,rfl⟩
 rw[←hM1,←hM2]
 have l1:M1.length≤1003:=by rw[hM1,List.length_append];simp only[List.length_cons,List.length_nil];omega
 have X1_:=hid (fun w:World=>(show(Op.stringOp .add (strOf s) ⟨#[58,47,47]⟩).run Tryz.prog w=.ok (.string (strOf M1)) w by rw[hM1];exact dL _ ⟨#[58,47,47]⟩ w (by rw[o9];show _+3≤_;omega)))
 have X2_:=hid (fun w:World=>(show(Op.stringOp .add (strOf M1) (strOf h)).run Tryz.prog w=.ok (.string (strOf M2)) w by rw[hM2];exact dL _ (strOf h) w (by rw[o9,o9];omega)))
 clear hM1 hM2 l1 hs hsl hhl
 go_enter Tryz.func66,Tryz.ntmps66
 go_upto_region 1 with(fail)
 generalize bI:World.alloc _ _=v1
 have hxa:OB v1 (w.heap.size) (strOf s) (strOf h) (-1) n:=by rw[←bI];exact heap_alloc_new _ _
 have hb:Below w.heap.size w v1:=by rw[←bI];exact(Below.refl _ _).alloc (Nat.le_refl _) _
 have X1:=hid hxa
 clear bI hxa
 have HB1:=hid hb
 clear hb
 obtain⟨o0,o1,o2,o3⟩:=X1.out.facts
 go_wp2_with fail
 clear o0 o1 o2 o3
 refine(HTU.out _).mono ?_
 rintro e w2 ⟨rfl,hb⟩
 have HB2:=hid (bel HB1.out hb)
 have Xb:=hid (X1.out.below hb)
 clear hb
 obtain⟨o0,o1,o2,o3⟩:=Xb.out.facts
 have a1:=X1_.out
 have a2:=X2_.out
 go_wp2
 go_ret
 exact⟨rfl,HB2.out⟩
theorem print_any (s h:List UInt8) (p n:Int) (w:World) (hs:s≠[]) (hsl:s.length≤1000) (hhl:h.length≤100000) (h0: -9223372036854775808≤p) (h1:p≤9223372036854775807) (hT:Tab.Pow w):Calls Tryz.prog 66 #[.agg #[.string (strOf s),.string (strOf h),.int .i64 p,.int .i64 n]] w fun e w'=>e=.returned (.string (strOf (pr0 s h p)))∧Below w.heap.size w w':=by
 unfold pr0
 by_cases e:p= -1
 ·rw[if_pos e,e]
  exact print_n s h n w hs hsl hhl
 rw[if_neg e]
 exact print_p s h p n w hs hsl hhl e h0 h1 hT
def oV:Option (List UInt8×List UInt8×Int)→Value
 |none=>.agg #[.string ⟨#[]⟩,.string ⟨#[]⟩,.int .i64 0,.int .i64 0]
 |some o=>.agg #[.string (strOf o.1),.string (strOf o.2.1),.int .i64 o.2.2,.int .i64 0]
theorem of_u (u:U) {N:Nat} (hF:Fit u N) (hN:N≤65536) (A:Option Addr) (n c:Nat) (w:World) (hP:Pt w u A n c) (E:Env w):Calls Tryz.prog 23 #[.agg #[.string (strOf u.au),.string (strOf u.usr),.string (strOf u.MX),.string (strOf u.hst),.bool u.hh,.int .i64 u.port,.bool u.opq,.string (strOf u.txt),.slice A n c,.bool u.hq,.bool u.hf,.string (strOf u.dY),.string (strOf u.fB)]] w fun e w'=>e=.returned (.tuple #[oV (ofU u),.bool (ofU u).isSome])∧Below w.heap.size w w':=by
 unfold ofU
 by_cases h5:five u.au
 ·rw[if_pos h5]
  exact asO u A n c w h5
 rw[if_neg h5]
 by_cases hb:u.au=zC
 ·rw [if_pos hb]
  have TB:=asM u hF (by omega)
  have hl:=arp hF
  obtain⟨T,hT⟩:∃T,T=strOf (aZ.pF u.opq (strOf u.txt) u.aO):=⟨_,rfl⟩
  rw[←hT]at TB⊢
  have hTs:T.size≤65536:=by rw[hT,o9];omega
  cases ho:wS.url T.data.toList none with
  |none=>exact ap7 u U0 T A n c w hb (fun w hP=>TB.out w A n c hP) (fun w E=>GZ rfl ho hTs w E) E hP
  |some v=>
   dsimp only
   by_cases hv:v.au=HTTP
   ·rw[if_pos (.inl hv)]
    exact apD u v T A n c w hb (fun w hP=>TB.out w A n c hP) (fun w E=>jB ho hTs w E) hv E hP
   by_cases hv2:v.au=ar0
   ·rw[if_pos (.inr hv2)]
    exact aqK u v T A n c w hb (fun w hP=>TB.out w A n c hP) (fun w E=>jB ho hTs w E) hv2 E hP
   rw[if_neg (by rintro(x|x);exact hv x;exact hv2 x)]
   exact aph u v T A n c w hb (fun w hP=>TB.out w A n c hP) (fun w E=>jB ho hTs w E) ⟨hv,hv2⟩ E hP
 rw[if_neg hb]
 exact of_none u A n c w h5 hb
end Go.Proofs.YtgamccijegollaaGreatDoor.StoQ
namespace Go.Proofs.YtgamccijegollaaGreatDoor.StoS
open Go.RowKit Base Dp cO aco Pg sU wS mW tK yx jQ pO vZ WQ oN wo UG Kq L6 atr OrgY atQ as9
open StoQ
open Go.Proofs.YtgamccijegollaaGreatDoor.xH (IsS)
open Go.Proofs.YtgamccijegollaaGreatDoor.aj6 (zC)
theorem zi (s h:List UInt8) (p n:Int) (w:World) (hs:s≠[]) (hsl:s.length≤200) (hhl:h.length≤200) (h0: -9223372036854775808≤p) (h1:p≤9223372036854775807) (E:Env w):Calls Tryz.prog 92 #[.agg #[.string (strOf s),.string (strOf h),.int .i64 p,.int .i64 n]] w fun e w'=>e=.returned (.bool (arQ s h p))∧Below w.heap.size w w':=by
 have HE:=hid E
 have HTU:Hid (∀w:World,Calls Tryz.prog 25 #[.agg #[.string (strOf s),.string (strOf h),.int .i64 p,.int .i64 n]] w fun e w'=>e=.returned (.bool true)∧Below w.heap.size w w'):=fun w=>by
  have hh:=uK (strOf s) (strOf h) p n w
  rw[show decide ((strOf s).data.toList≠[])=true from decide_eq_true hs]at hh
  exact hh
 obtain⟨X,hX⟩:∃X,X=pr0 s h p:=⟨_,rfl⟩
 have UA:Hid (∀w:World,Env w→Calls Tryz.prog 66 #[.agg #[.string (strOf s),.string (strOf h),.int .i64 p,.int .i64 n]] w fun e w'=>e=.returned (.string (strOf X))∧Below w.heap.size w w'):=fun w E=>by rw[hX];exact print_any s h p n w hs (by omega) (by omega) h0 h1 E.pow
 have hXl:X.length≤1000:=by
  have hil:=Pg.aaI p h0 h1
  rw[hX]
  unfold pr0
  split
  ·simp only[List.length_append,List.length_cons,List.length_nil];omega
  simp only[List.length_append,List.length_cons,List.length_nil];omega
 obtain⟨b,hb0⟩:∃b,b=arQ s h p:=⟨_,rfl⟩
 rw[←hb0]
 cases ho:wS.url X none with
 |none=>
  have HV:Hid (b=false):=by show _=_;rw[hb0];unfold arQ;rw[←hX,ho]
  obtain⟨u,hu0⟩:∃u,u=U0:=⟨_,rfl⟩
  have TB:Hid (∀w:World,Env w→Calls Tryz.prog 16 #[.string (strOf X),.pointer none] w fun e w'=>∃A' n' c',e=.returned (.tuple #[.agg #[.string (strOf u.au),.string (strOf u.usr),.string (strOf u.MX),.string (strOf u.hst),.bool u.hh,.int .i64 u.port,.bool u.opq,.string (strOf u.txt),.slice A' n' c',.bool u.hq,.bool u.hf,.string (strOf u.dY),.string (strOf u.fB)],.int .i64 2])∧Pt w' u A' n' c'∧Below w.heap.size w w'):=fun w E=>GZ (T:=strOf X) hu0 ho (by rw[o9];omega) w E
  clear hb0 hu0 ho hX hXl hs hsl hhl h0 h1 E
  go_enter Tryz.func92,Tryz.ntmps92
  go_upto_region 1 with(fail)
  generalize bI:World.alloc _ _=v1
  have hxa:OB v1 (w.heap.size) (strOf s) (strOf h) p n:=by rw[←bI];exact heap_alloc_new _ _
  have hb:Below w.heap.size w v1:=by rw[←bI];exact(Below.refl _ _).alloc (Nat.le_refl _) _
  have XO:=hid hxa
  clear bI hxa
  have HB1:=hid hb
  have sO:=hid (HE.out.below hb)
  clear hb
  obtain⟨o0,o1,o2,o3⟩:=XO.out.facts
  go_wp2_with fail
  clear o0 o1 o2 o3
  refine(HTU.out _).mono ?_
  rintro e w2 ⟨rfl,hb⟩
  have HB2:=hid (bel HB1.out hb)
  have xY:=hid (sO.out.below hb)
  have aex:=hid (XO.out.below hb)
  clear hb
  obtain⟨o0,o1,o2,o3⟩:=aex.out.facts
  go_wp2_with fail
  clear o0 o1 o2 o3
  refine(UA.out _ xY.out).mono ?_
  rintro e w3 ⟨rfl,hb⟩
  have HB3:=hid (bel HB2.out hb)
  have vV:=hid (xY.out.below hb)
  have aob:=hid (aex.out.below hb)
  clear hb
  go_wp2_with fail
  refine(TB.out _ vV.out).mono ?_
  rintro e w4 ⟨A1,n1,c1,rfl,hpt,hb⟩
  have HB4:=hid (bel HB3.out hb)
  have Hw:=hid (vV.out.below hb)
  have ajP:=hid (aob.out.below hb)
  clear hb
  have PT:=hid (hpt)
  clear hpt
  go_upto_region 4 with(fail)
  generalize bI:World.alloc _ _=v5
  have hxa:UB v5 (w4.heap.size) u (.slice A1 n1 c1):=by rw[←bI];exact heap_alloc_new _ _
  have hb:Below w4.heap.size w4 v5:=by rw[←bI];exact(Below.refl _ _).alloc (Nat.le_refl _) _
  have XU:=hid hxa
  clear bI hxa
  have iG:=hid (bel HB4.out hb)
  have Uu:=hid (Hw.out.below hb)
  have aom:=hid (ajP.out.below hb)
  have afe:=hid (PT.out.below hb)
  clear hb
  go_wp2
  go_ret
  exact⟨ak (by rw[HV.out]),iG.out⟩
 | some u=>
  have TB:Hid (∀w:World,Env w→Calls Tryz.prog 16 #[.string (strOf X),.pointer none] w fun e w'=>∃A' n' c',e=.returned (.tuple #[.agg #[.string (strOf u.au),.string (strOf u.usr),.string (strOf u.MX),.string (strOf u.hst),.bool u.hh,.int .i64 u.port,.bool u.opq,.string (strOf u.txt),.slice A' n' c',.bool u.hq,.bool u.hf,.string (strOf u.dY),.string (strOf u.fB)],.int .i64 0])∧Pt w' u A' n' c'∧Below w.heap.size w w'):=fun w E=>jB (T:=strOf X) ho (by rw[o9];omega) w E
  have hfit:=oN.AZ (M:=0) ho (fun _ e=>by cases e)
  have HOF:Hid (∀(A:Option Addr) (n c:Nat) (w:World),Pt w u A n c→Env w→Calls Tryz.prog 23 #[.agg #[.string (strOf u.au),.string (strOf u.usr),.string (strOf u.MX),.string (strOf u.hst),.bool u.hh,.int .i64 u.port,.bool u.opq,.string (strOf u.txt),.slice A n c,.bool u.hq,.bool u.hf,.string (strOf u.dY),.string (strOf u.fB)]] w fun e w'=>e=.returned (.tuple #[oV (ofU u),.bool (ofU u).isSome])∧Below w.heap.size w w'):=fun A n c w hP E=>of_u u hfit (by omega) A n c w hP E
  cases hf:ofU u with
  |none=>
   rw[hf]at HOF
   have HV:Hid (b=false):=by show _=_;rw[hb0];unfold arQ;rw[←hX,ho];dsimp only;rw[hf]
   have HOG:Hid (∀(A:Option Addr) (n c:Nat) (w:World),Pt w u A n c→Env w→Calls Tryz.prog 23 #[.agg #[.string (strOf u.au),.string (strOf u.usr),.string (strOf u.MX),.string (strOf u.hst),.bool u.hh,.int .i64 u.port,.bool u.opq,.string (strOf u.txt),.slice A n c,.bool u.hq,.bool u.hf,.string (strOf u.dY),.string (strOf u.fB)]] w fun e w'=>e=.returned (.tuple #[.agg #[.string ⟨#[]⟩,.string ⟨#[]⟩,.int .i64 0,.int .i64 0],.bool false])∧Below w.heap.size w w'):=HOF.out
   clear hb0 ho hX hXl hs hsl hhl h0 h1 E hf HOF hfit
   go_enter Tryz.func92,Tryz.ntmps92
   go_upto_region 1 with(fail)
   generalize bI:World.alloc _ _=v1
   have hxa:OB v1 (w.heap.size) (strOf s) (strOf h) p n:=by rw[←bI];exact heap_alloc_new _ _
   have hb:Below w.heap.size w v1:=by rw[←bI];exact(Below.refl _ _).alloc (Nat.le_refl _) _
   have XO:=hid hxa
   clear bI hxa
   have HB1:=hid hb
   have sO:=hid (HE.out.below hb)
   clear hb
   obtain⟨o0,o1,o2,o3⟩:=XO.out.facts
   go_wp2_with fail
   clear o0 o1 o2 o3
   refine(HTU.out _).mono ?_
   rintro e w2 ⟨rfl,hb⟩
   have HB2:=hid (bel HB1.out hb)
   have xY:=hid (sO.out.below hb)
   have aex:=hid (XO.out.below hb)
   clear hb
   obtain⟨o0,o1,o2,o3⟩:=aex.out.facts
   go_wp2_with fail
   clear o0 o1 o2 o3
   refine(UA.out _ xY.out).mono ?_
   rintro e w3 ⟨rfl,hb⟩
   have HB3:=hid (bel HB2.out hb)
   have vV:=hid (xY.out.below hb)
   have aob:=hid (aex.out.below hb)
   clear hb
   go_wp2_with fail
   refine(TB.out _ vV.out).mono ?_
   rintro e w4 ⟨A1,n1,c1,rfl,hpt,hb⟩
   have HB4:=hid (bel HB3.out hb)
   have Hw:=hid (vV.out.below hb)
   have ajP:=hid (aob.out.below hb)
   clear hb
   have PT:=hid (hpt)
   clear hpt
   go_upto_region 4 with(fail)
   generalize bI:World.alloc _ _=v5
   have hxa:UB v5 (w4.heap.size) u (.slice A1 n1 c1):=by rw[←bI];exact heap_alloc_new _ _
   have hb:Below w4.heap.size w4 v5:=by rw[←bI];exact(Below.refl _ _).alloc (Nat.le_refl _) _
   have XU:=hid hxa
   clear bI hxa
   have iG:=hid (bel HB4.out hb)
   have Uu:=hid (Hw.out.below hb)
   have aom:=hid (ajP.out.below hb)
   have afe:=hid (PT.out.below hb)
   clear hb
   obtain⟨k0,k1,k2,k3,k4,k5,k6,k7,k8,k9,k10,k11,k12⟩:=XU.out.facts
   go_wp2_with fail
   clear k0 k1 k2 k3 k4 k5 k6 k7 k8 k9 k10 k11 k12
   refine(HOG.out _ _ _ _ afe.out Uu.out).mono ?_
   rintro e w6 ⟨rfl,hb⟩
   have nN:=hid (bel iG.out hb)
   have E_6:=hid (Uu.out.below hb)
   have aoc:=hid (aom.out.below hb)
   have aoj:=hid (afe.out.below hb)
   have aos:=hid (XU.out.below hb)
   clear hb
   go_upto_region 7 with(fail)
   generalize bI:World.alloc _ _=v7
   have hxa:OB v7 (w6.heap.size) ⟨#[]⟩ ⟨#[]⟩ 0 0:=by rw[←bI];exact heap_alloc_new _ _
   have hb:Below w6.heap.size w6 v7:=by rw[←bI];exact(Below.refl _ _).alloc (Nat.le_refl _) _
   have XQ:=hid hxa
   clear bI hxa
   have kZ:=hid (bel nN.out hb)
   have E_7:=hid (E_6.out.below hb)
   have aon:=hid (aoc.out.below hb)
   have aol:=hid (aoj.out.below hb)
   have ahB:=hid (aos.out.below hb)
   clear hb
   go_wp2
   go_ret
   exact⟨ak (by rw[HV.out]),kZ.out⟩
  |some o=>
   obtain⟨a,b2,c2⟩:=o
   rw[hf]at HOF
   have HV:Hid (b=pG a b2 c2 0 s h p n):=by
    show _=_
    rw[hb0]
    unfold arQ
    rw[←hX,ho]
    dsimp only
    rw[hf]
    show pG a b2 c2 0 s h p 0=_
    unfold pG
    rw[if_neg (fun e=>hs e.2),if_neg (fun e=>hs e.2)]
   have JO:Hid (∀w:World,Calls Tryz.prog 39 #[.agg #[.string (strOf a),.string (strOf b2),.int .i64 c2,.int .i64 0],.agg #[.string (strOf s),.string (strOf h),.int .i64 p,.int .i64 n]] w fun e w'=>e=.returned (.bool (pG a b2 c2 0 s h p n))∧Below w.heap.size w w'):=fun w=>Kq.JA (strOf a) (strOf b2) c2 0 (strOf s) (strOf h) p n w
   have HOG:Hid (∀(A:Option Addr) (n c:Nat) (w:World),Pt w u A n c→Env w→Calls Tryz.prog 23 #[.agg #[.string (strOf u.au),.string (strOf u.usr),.string (strOf u.MX),.string (strOf u.hst),.bool u.hh,.int .i64 u.port,.bool u.opq,.string (strOf u.txt),.slice A n c,.bool u.hq,.bool u.hf,.string (strOf u.dY),.string (strOf u.fB)]] w fun e w'=>e=.returned (.tuple #[.agg #[.string (strOf a),.string (strOf b2),.int .i64 c2,.int .i64 0],.bool true])∧Below w.heap.size w w'):=HOF.out
   clear hb0 ho hX hXl hs hsl hhl h0 h1 E hf HOF hfit
   go_enter Tryz.func92,Tryz.ntmps92
   go_upto_region 1 with(fail)
   generalize bI:World.alloc _ _=v1
   have hxa:OB v1 (w.heap.size) (strOf s) (strOf h) p n:=by rw[←bI];exact heap_alloc_new _ _
   have hb:Below w.heap.size w v1:=by rw[←bI];exact(Below.refl _ _).alloc (Nat.le_refl _) _
   have XO:=hid hxa
   clear bI hxa
   have HB1:=hid hb
   have sO:=hid (HE.out.below hb)
   clear hb
   obtain⟨o0,o1,o2,o3⟩:=XO.out.facts
   go_wp2_with fail
   clear o0 o1 o2 o3
   refine(HTU.out _).mono ?_
   rintro e w2 ⟨rfl,hb⟩
   have HB2:=hid (bel HB1.out hb)
   have xY:=hid (sO.out.below hb)
   have aex:=hid (XO.out.below hb)
   clear hb
   obtain⟨o0,o1,o2,o3⟩:=aex.out.facts
   go_wp2_with fail
   clear o0 o1 o2 o3
   refine(UA.out _ xY.out).mono ?_
   rintro e w3 ⟨rfl,hb⟩
   have HB3:=hid (bel HB2.out hb)
   have vV:=hid (xY.out.below hb)
   have aob:=hid (aex.out.below hb)
   clear hb
   go_wp2_with fail
   refine(TB.out _ vV.out).mono ?_
   rintro e w4 ⟨A1,n1,c1,rfl,hpt,hb⟩
   have HB4:=hid (bel HB3.out hb)
   have Hw:=hid (vV.out.below hb)
   have ajP:=hid (aob.out.below hb)
   clear hb
   have PT:=hid (hpt)
   clear hpt
   go_upto_region 4 with(fail)
   generalize bI:World.alloc _ _=v5
   have hxa:UB v5 (w4.heap.size) u (.slice A1 n1 c1):=by rw[←bI];exact heap_alloc_new _ _
   have hb:Below w4.heap.size w4 v5:=by rw[←bI];exact(Below.refl _ _).alloc (Nat.le_refl _) _
   have XU:=hid hxa
   clear bI hxa
   have iG:=hid (bel HB4.out hb)
   have Uu:=hid (Hw.out.below hb)
   have aom:=hid (ajP.out.below hb)
   have afe:=hid (PT.out.below hb)
   clear hb
   obtain⟨k0,k1,k2,k3,k4,k5,k6,k7,k8,k9,k10,k11,k12⟩:=XU.out.facts
   go_wp2_with fail
   clear k0 k1 k2 k3 k4 k5 k6 k7 k8 k9 k10 k11 k12
   refine(HOG.out _ _ _ _ afe.out Uu.out).mono ?_
   rintro e w6 ⟨rfl,hb⟩
   have nN:=hid (bel iG.out hb)
   have E_6:=hid (Uu.out.below hb)
   have aoc:=hid (aom.out.below hb)
   have aoj:=hid (afe.out.below hb)
   have aos:=hid (XU.out.below hb)
   clear hb
   go_upto_region 7 with(fail)
   generalize bI:World.alloc _ _=v7
   have hxa:OB v7 (w6.heap.size) (strOf a) (strOf b2) c2 0:=by rw[←bI];exact heap_alloc_new _ _
   have hb:Below w6.heap.size w6 v7:=by rw[←bI];exact(Below.refl _ _).alloc (Nat.le_refl _) _
   have XQ:=hid hxa
   clear bI hxa
   have kZ:=hid (bel nN.out hb)
   have E_7:=hid (E_6.out.below hb)
   have aon:=hid (aoc.out.below hb)
   have aol:=hid (aoj.out.below hb)
   have ahB:=hid (aos.out.below hb)
   clear hb
   obtain⟨o0,o1,o2,o3⟩:=aon.out.facts
   obtain⟨q0,q1,q2,q3⟩:=XQ.out.facts
   go_wp2_with fail
   clear o0 o1 o2 o3 q0 q1 q2 q3
   refine(JO.out _).mono ?_
   rintro e w8 ⟨rfl,hb⟩
   have H7:=hid (bel kZ.out hb)
   have E_8:=hid (E_7.out.below hb)
   have ap4:=hid (aon.out.below hb)
   have aoL:=hid (aol.out.below hb)
   have akJ:=hid (ahB.out.below hb)
   have XQ_8:=hid (XQ.out.below hb)
   clear hb
   go_wp2
   go_ret
   exact⟨ak (by rw[HV.out]),H7.out⟩
theorem reg_bad (g:Nat) (s h:List UInt8) (p n:Int) (x:Int) (RV:Array Value) (w:World) (hRV:RV.size=16)
  (HR:Hid (∀w',Below w.heap.size w w'→Calls Tryz.prog 92 #[.agg #[.string (strOf s),.string (strOf h),.int .i64 p,.int .i64 n]] w' fun e w''=>e=.returned (.bool false)∧Below w'.heap.size w' w'')):
  Calls Tryz.prog 38 #[.pointer (some ⟨g,0,none⟩),.agg #[.string (strOf s),.string (strOf h),.int .i64 p,.int .i64 n],.int .i64 x,.agg RV] w fun e w'=>e=.returned (.tuple #[.string ⟨#[]⟩,.int .i64 1])∧Below w.heap.size w w':=by
 have HRV:=hid hRV
 clear hRV
 go_enter Tryz.func38,Tryz.ntmps38
 go_upto_region 1 with(fail)
 generalize bI:World.alloc (World.alloc w _) _=v1
 have h1_:OB v1 w.heap.size (strOf s) (strOf h) p n∧v1.heap[w.heap.size+1]?=some (.cells RV 61 (0,0))∧Below w.heap.size w v1:=by
  subst bI
  exact mW.laid2 w _ _ _ _
 clear bI
 have X1:=hid h1_.1
 have HB1:=hid h1_.2.2
 clear h1_
 obtain⟨d0,d1,d2,d3⟩:=X1.out.facts
 go_wp2_with fail
 refine(HR.out _ HB1.out).mono ?_
 rintro e v2 ⟨rfl,hb2⟩
 have HB2:=hid (bel HB1.out hb2)
 clear hb2 d0 d1 d2 d3
 go_wp2
 go_ret2
 exact⟨rfl,HB2.out⟩
end Go.Proofs.YtgamccijegollaaGreatDoor.StoS
namespace Go.Proofs.YtgamccijegollaaGreatDoor.auU
open Go.RowKit Base Dp acj L6 uw xH apv Kq mW ES
theorem aah {w:World} {b o:Nat} {s h:ByteArray} {p n:Int} (h0:w.cell? ⟨b,o,none⟩=some (.string s)) (h1:w.cell? ⟨b,o+1,none⟩=some (.string h)) (h2:w.cell? ⟨b,o+2,none⟩=some (.int .i64 p)) (h3:w.cell? ⟨b,o+3,none⟩=some (.int .i64 n)):(loadVar 38 ⟨b,o,none⟩).run Tryz.prog w=.ok (.agg #[.string s,.string h,.int .i64 p,.int .i64 n]) w:=
 afN (l:=[.string s,.string h,.int .i64 p,.int .i64 n]) (fun j v hv=>by
  match j,hv with
  |0,hv=>injection hv with hv;subst hv;exact h0
  |1,hv=>injection hv with hv;subst hv;exact h1
  |2,hv=>injection hv with hv;subst hv;exact h2
  |3,hv=>injection hv with hv;subst hv;exact h3
  |j+4,hv=>cases hv) Tryz.underlying38 rfl (by kernel_rfl)
theorem aou:(Tryz.prog.info? 9).map (fun i=>(i.zero,i.size,i.bytes))=some (some (.string ⟨#[]⟩),1,16):=by kernel_rfl
def us (l:List (Bc (Int))):List Value:=l.map fun e=>.string e.url
theorem ajd (l:List (Bc (Int))) (k:Nat) (h:k<l.length):us (l.take (k+1))=us (l.take k)++[.string l[k].url]:=by
 rw[List.take_succ_eq_append_getElem h]
 unfold us
 rw[List.map_append]
 rfl
theorem auQ (B g room:Nat) (l:List (Bc (Int))) (w:World) (hT:IsS 136 139 (Value.int .i64) B g room l w) (hl:l.length≤64):
  Calls Tryz.prog 41 #[.pointer (some ⟨g,0,none⟩)] w fun e w'=>∃v,e=.returned v∧w'.ownsRow w.heap.size 9 1 v l.length (us l)∧Below w.heap.size w w':=by
 have hlt:=hT.lt
 obtain⟨i0,hi,hz0,hz1,hz2⟩:=info_parts aou
 obtain⟨v,hv,hown,hBg⟩:=hT
 obtain⟨A,c,rfl,hnc,hcm,hcell⟩:=lY hown
 obtain⟨c0,c1⟩:=cells2 hv
 have HC:=hid hcell
 have hlli:(l.length:Int)≤64:=by omega
 clear hcell hv hown
 go_enter Tryz.func41,Tryz.ntmps41
 go_wp2
 go_loopw [3,13] (fun vr vk wr=>∃k:Nat,k≤l.length∧vk=.int .i64 (k:Int)∧Hid (wr.ownsRow w.heap.size 9 1 vr k (us (l.take k)))∧Below w.heap.size w wr) (fun _ vk _=>l.length - (intOf vk).toNat)
 case atStart=>exact⟨0,by omega,rfl,World.ownsRow_nil _ _ _ _,Below.refl _ _⟩
 case round=>
  obtain⟨k,hk,rfl,HO,hbel⟩:=hrel
  by_cases hlk:k<l.length
  ·obtain⟨b,rfl,hbl,hcc⟩:=HC.out k hlk
   obtain⟨E,hp⟩:∃E,E=l[k]:=⟨_,rfl⟩
   rw[←hp]at hcc
   obtain⟨k0,k1,k2,k3,k4,k5⟩:=Lu (w:=wr) fun j' v h1 h2=>(hbel.cell (p:=⟨b,k*6+j',none⟩) hbl).trans (hcc j' v h1 h2)
   replace k5:wr.cell? ⟨b,k*6+5,none⟩=some (.int .i64 E.x):=k5
   have HP:=hid hp
   clear hp hcc
   have jy:Hid ((wr.alloc (.cells #[.string E.url,.string E.s,.string E.h,.int .i64 E.p,.int .i64 E.n,.int .i64 E.x] 139)).ownsRow w.heap.size 9 1 _ k (us (l.take k))):=hid (HO.out.alloc _)
   have dZ:Below w.heap.size w (wr.alloc (.cells #[.string E.url,.string E.s,.string E.h,.int .i64 E.p,.int .i64 E.n,.int .i64 E.x] 139)):=hbel.alloc hbel.size _
   go_wp2_with (at_builtin;refine aQ rfl _ _ 23 rfl w.heap.size 9 i0 (.string ⟨#[]⟩) 16 Tryz.underlying23 hi hz0 hz1 hz2 rfl _ k _ rfl jy.out dZ dZ.size [.string E.url] 1 rfl (by rw[World.size_alloc];rfl) (by intro u hu;simp at hu;subst hu;rfl) (by unfold maxLen;omega) (by omega) ?_)
   intro v' w' hown' hbel'
   have iV:Hid (w'.ownsRow w.heap.size 9 1 v' (k+1) (us (l.take (k+1)))):=by
    show World.ownsRow _ _ _ _ _ _ _
    rw[ajd l k hlk,←HP.out]
    exact hown'
   clear hown' jy dZ HO hbel
   go_wp2
   go_roundw
   case rel=>exact⟨k+1,by omega,by go_num,iV.out,hbel'⟩
   case measure=>simp[intOf];omega
  ·obtain rfl:k=l.length:=by omega
   rw[List.take_length]at HO
   go_wp2
   go_ret
   exact⟨_,rfl,HO.out,hbel⟩
end Go.Proofs.YtgamccijegollaaGreatDoor.auU
namespace Go.Proofs.YtgamccijegollaaGreatDoor.StoW
open Go.RowKit Base Dp acj L6 uw xH apv StoJ auU atW Kq mW ES agS wS aj6
theorem asn (B g room:Nat) (l:List (Bc Int)) (h:ByteArray) (p n:Int) (x:Int) (f:Nat→UInt8) (w:World) (hS:IsS 136 139 (Value.int .i64) B g room l w) (hm:room≤64) (hl:l.length≤64) (hr:l.length<room) (hi:idx l (strOf (nH f))=none):
  Calls Tryz.prog 38 #[.pointer (some ⟨g,0,none⟩),.agg #[.string ⟨#[]⟩,.string h,.int .i64 p,.int .i64 n],.int .i64 x,.agg (rv f)] w fun e w'=>e=.returned (.tuple #[.string (strOf (nH f)),.int .i64 0])∧IsS 136 139 (Value.int .i64) B g room (l++[⟨strOf (nH f),⟨#[]⟩,h,p,n,x⟩]) w'∧Below B w w'∧Kp 136 139 w w':=
 avx B g room l ⟨#[]⟩ h p n x (rv f) [110,117,108,108] (nm f 16) (nH f) w hS hm hl hr hi (aq3 f) (by decide) (by have:=aqm f 16;omega) rfl (hid fun w' _=>ap2 h p n w') (hid fun w' _=>apT h p n w') (hid fun w' _=>KY f w')
theorem UN (w:World):Calls Tryz.prog 36 #[] w fun e w'=>e=.returned (.bool true)∧Below w.heap.size w w':=by
 have HTE:Hid (strOf (nH fun _=>0)=⟨#[98,108,111,98,58,110,117,108,108,47,48,48,48,48,48,48,48,48,45,48,48,48,48,45,52,48,48,48,45,56,48,48,48,45,48,48,48,48,48,48,48,48,48,48,48,48]⟩):=by show _=_;decide+kernel
 have HTT:Hid (((strOf (nH fun _=>0)).toList==(⟨#[98,108,111,98,58,110,117,108,108,47,48,48,48,48,48,48,48,48,45,48,48,48,48,45,52,48,48,48,45,56,48,48,48,45,48,48,48,48,48,48,48,48,48,48,48,48]⟩:ByteArray).toList)=true):=by show _=_;rw[HTE.out];simp
 have HTU:Hid ((strOf (nH fun _=>0)).toList=(⟨#[98,108,111,98,58,110,117,108,108,47,48,48,48,48,48,48,48,48,45,48,48,48,48,45,52,48,48,48,45,56,48,48,48,45,48,48,48,48,48,48,48,48,48,48,48,48]⟩:ByteArray).toList):=by show _=_;rw[HTE.out]
 go_enter Tryz.func36,Tryz.ntmps36
 go_wp2_with fail
 refine(new_any 1 (by decide) (by decide) _).mono ?_
 rintro e w1 ⟨g,rfl,hS,hb⟩
 have BD:=hid hS
 have HB1:=hid hb
 clear hS hb
 go_wp2_with fail
 refine(asn _ g 1 [] ⟨#[]⟩ 0 0 5 (fun _=>0) _ BD.out (by decide) (by decide) (by decide) rfl).mono ?_
 rintro e w2 ⟨rfl,hS,hb,_⟩
 have HS:=hid hS
 have HB3:Hid (Below w.heap.size w w2):=HB1.out.trans hb
 clear hS hb BD HB1
 have hq:=HTT.out
 have hq2:=HTU.out
 go_wp2_with fail
 refine(auQ _ g 1 _ _ HS.out (by decide)).mono ?_
 rintro e w9 ⟨v,rfl,hown,mG⟩
 obtain⟨A,c,rfl,hc,hm,hr⟩:=aJ hown
 have HB4:=hid (bel HB3.out mG)
 clear mG hown hr
 go_wp2
 go_ret
 exact⟨rfl,HB4.out⟩
end Go.Proofs.YtgamccijegollaaGreatDoor.StoW
namespace Go.Proofs.YtgamccijegollaaGreatDoor.Open
open Go.ChangeShapes Go.WideShapes Go.ChangeAt Go.RowKit Base
theorem yZ {w:World} {x:Addr} {n:Nat} {xs:List Value} (hl:xs.length=n) (hc:∀i (h:i<xs.length),w.cell? (x.add i)=some xs[i]):aY w (some x) n xs:=by
 refine⟨hl,fun j hj=>?_⟩
 have h0:=hc 0 (by omega)
 have hs:x.spot=none:=by
  have:=World.cell?_spot h0
  simpa[Addr.add]using this
 obtain⟨b,off,sp⟩:=x
 obtain rfl:sp=none:=hs
 have hb:=World.block_lt_of_cell? w _ h0
 have ha:(⟨b,off,none⟩:Addr).add j=⟨b,off+j,none⟩:=by
  unfold Addr.add
  split<;>simp_all
 have hb':b<w.heap.size:=by simpa[Addr.add]using hb
 exact⟨b,off,rfl,hb',by rw[←ha];exact hc j hj⟩
variable {P:Program} {w:World} {H:Type} {enc:TypeId×Value→H} {base:Nat} {spare:Nat→Bool} {held:Bool}
end Go.Proofs.YtgamccijegollaaGreatDoor.Open
namespace Go.Proofs.YtgamccijegollaaGreatDoor.aj2
open Go.ChangeShapes Go.WideShapes Go.ChangeAt Go.RowKit Base
variable {P:Program} {w:World} {H:Type} {enc:TypeId×Value→H} {base:Nat} {held:Bool}
theorem PW {t e:TypeId} {k:IntKind} {fuel:Nat} {a:Option Addr} {len cap:Nat} {x:DataW H×List MemPlace} (ht:P.underlying t=some (.slice e)) (he:P.underlying e=some (.int k)) (hc:P.cellsOf e=1)
  (h:DataW.trod enc P w base (fun _=>true) held fuel t (Value.slice a len cap).cells.toList=some x):
  cap=0∨∃es sp,x.1=.slice es sp∧es.length+sp.length=cap:=by
 rcases open_ints ht he hc h with⟨hcs,_⟩|⟨_,l,c,zs,hcs,_,hl,hm,hz,rfl,_,_⟩
 ·simp[Value.cells]at hcs
  exact .inl hcs.2.2
 ·simp[Value.cells]at hcs
  obtain⟨rfl,rfl,rfl⟩:=hcs
  have hz':zs.length=cap:=by simpa using hz
  refine .inr ⟨_,_,rfl,?_⟩
  simp only[lits,List.length_map,List.length_take,List.length_drop]
  omega
theorem reach {ts:List TypeId} {ds:List (DataW H)} (hsz:(DataW.weightsEach P ts ds).all (·≤reachBytes)=true) {j:Nat} {t e:TypeId} {k:IntKind} {b fuel:Nat} {a:Option Addr} {len cap:Nat} {x:DataW H×List MemPlace}
  (htj:ts[j]?=some t) (hdj:ds[j]?=some x.1) (ht:P.underlying t=some (.slice e)) (he:P.underlying e=some (.int k)) (hc:P.cellsOf e=1) (hb:P.bytesOf e=b)
  (h:DataW.trod enc P w base (fun _=>true) held fuel t (Value.slice a len cap).cells.toList=some x):cap*b≤140737488351232:=by
 rcases PW ht he hc h with rfl|⟨es,sp,e1,hl⟩
 ·simp
 ·have:=sized_slice hsz htj (hdj.trans (congrArg some e1)) ht
  rw[hl,hb]at this
  exact this
theorem aar {ts:List TypeId} {ds:List (DataW H)} (hsz:(DataW.weightsEach P ts ds).all (·≤reachBytes)=true) {i:Nat} {t:TypeId} {fs:Array Field} {parts:List (DataW H)} (hti:ts[i]?=some t) (hdi:ds[i]?=some (.agg parts)) (hu:P.underlying t=some (.struct fs))
  {j:Nat} {ft:TypeId} {bytes:List UInt8} (hf:(fs.toList.map (·.type))[j]?=some ft) (hp:parts[j]?=some (.lit (.string bytes))):bytes.length≤reachBytes:=by
 have:=List.all_eq_true.1 hsz _ (DataW.weights_mem_each hti hdi bytes.length (by
  simp only[DataW.weights,hu]
  exact DataW.weights_mem_each hf hp _ (by simp[DataW.weights])))
 simpa using this
end Go.Proofs.YtgamccijegollaaGreatDoor.aj2
namespace Go.Proofs.YtgamccijegollaaGreatDoor.AggN
open Go.Joins Go.Deep Go.ChangeShapes Go.WideShapes Go.ChangeAt Go.RowKit Base
variable {P:Program} {w:World} {H:Type} {enc:TypeId×Value→H} {base:Nat} {held:Bool} {spare:Nat→Bool}
theorem weightsAll_mem {P:Program} {e:TypeId}:∀{l:List (DataW H)} {d:DataW H},d ∈ l→∀k ∈ d.weights P e,k ∈ DataW.weightsAll P e l
 |_::_,_,.head _,k,hk=>by unfold DataW.weightsAll;exact List.mem_append_left _ hk
 |_::_,_,.tail _ h,k,hk=>by unfold DataW.weightsAll;exact List.mem_append_right _ (weightsAll_mem h k hk)
end Go.Proofs.YtgamccijegollaaGreatDoor.AggN
namespace Go.Proofs.YtgamccijegollaaGreatDoor.auT
open Go.Joins Go.Deep Go.ChangeShapes Go.WideShapes Go.ChangeAt Go.RowKit Base Dp
structure O where
 c:List UInt8
 d:List UInt8
 p:Int
 n:Int
def cells (o:O):List Value:=[.string (strOf o.c),.string (strOf o.d),.int .i64 o.p,.int .i64 o.n]
def aq7 (w:World) (A:Option Addr) (n:Nat) (l:List O):Prop:=l.length=n∧aY w A (n*4) (l.flatMap cells)
theorem aq7.below {w w':World} {A:Option Addr} {n:Nat} {l:List O} (h:aq7 w A n l) (hb:Below w.heap.size w w'):aq7 w' A n l:=⟨h.1,h.2.below hb⟩
theorem ar7 (l:List O):(l.flatMap cells).length=l.length*4:=by
 induction l with
 |nil=>rfl
 |cons o l ih=>rw[List.flatMap_cons,List.length_append,ih,List.length_cons];show 4+_=_;omega
theorem EH (l:List O) (j:Nat) (hj:j<l.length) (i:Nat) (hi:i<4):(l.flatMap cells)[j*4+i]?=(cells l[j])[i]?:=by
 induction l generalizing j with
 |nil=>simp at hj
 |cons o l ih=>
  have hc:(cells o).length=4:=rfl
  rw[List.flatMap_cons]
  cases j with
  |zero=>
   rw[List.getElem?_append_left (by omega)]
   simp
  |succ j=>
   rw[List.getElem?_append_right (by omega),hc,show(j+1)*4+i - 4=j*4+i by omega,ih j (by simpa using hj)]
   simp
theorem aq7.spot {w:World} {A:Option Addr} {n:Nat} {l:List O} (h:aq7 w A n l) (hn:0<n):∃b off,A=some ⟨b,off,none⟩∧b<w.heap.size:=by
 obtain⟨b,off,e,hb,_⟩:=h.2.spot (by omega)
 exact⟨b,off,e,hb⟩
theorem aq7.at {w:World} {b off n:Nat} {l:List O} (h:aq7 w (some ⟨b,off,none⟩) n l) (j:Nat) (hj:j<l.length) (i:Nat) (hi:i<4) {v:Value} (e:(cells l[j])[i]?=some v):w.cell? ⟨b,off+j*4+i,none⟩=some v:=by
 have hf:=EH l j hj i hi
 rw[e]at hf
 obtain⟨h5,h6⟩:=List.getElem?_eq_some_iff.1 hf
 obtain⟨b',off',e',_,hcell⟩:=h.2.2 (j*4+i) h5
 injection e' with e'
 injection e' with e1 e2
 subst e1 e2
 rw[Nat.add_assoc,hcell,h6]
theorem aq7.four {w:World} {b off n:Nat} {l:List O} (h:aq7 w (some ⟨b,off,none⟩) n l) (j:Nat) (hj:j<l.length):w.cell? ⟨b,off+j*4,none⟩=some (.string (strOf l[j].c))∧w.cell? ⟨b,off+j*4+1,none⟩=some (.string (strOf l[j].d))∧w.cell? ⟨b,off+j*4+2,none⟩=some (.int .i64 l[j].p)∧w.cell? ⟨b,off+j*4+3,none⟩=some (.int .i64 l[j].n):=
 ⟨h.at j hj 0 (by decide) rfl,h.at j hj 1 (by decide) rfl,h.at j hj 2 (by decide) rfl,h.at j hj 3 (by decide) rfl⟩
variable {w:World} {H:Type} {enc:TypeId×Value→H} {base:Nat} {held:Bool} {spare:Nat→Bool}
def I64 (z:Int):Prop:= -9223372036854775808≤z∧z≤9223372036854775807
structure Bnd (o:O):Prop where
 c:o.c.length≤140737488351232
 d:o.d.length≤140737488351232
 p:I64 o.p
 n:I64 o.n
structure In (w:World) (A:Option Addr) (n cap:Nat) (l:List O):Prop where
 ops:aq7 w A n l
 bnd:∀o ∈ l,Bnd o
 le:n≤cap
 lm:cap≤maxLen
theorem list4 {α:Type} {l:List α} (h:l.length=4):∃a0 a1 a2 a3,l=[a0,a1,a2,a3]:=by
 match l,h with
 |[a0,a1,a2,a3],_=>exact⟨_,_,_,_,rfl⟩
theorem cellsl:Tryz.prog.cellsOf 2=1:=by kernel_rfl
theorem cellsi:Tryz.prog.cellsOf 3=1:=by kernel_rfl
theorem cellss:Tryz.prog.cellsOf 9=1:=by kernel_rfl
theorem aud:Tryz.prog.cellsOf 38=4:=by kernel_rfl
theorem asf {fuel:Nat} {cs:List Value} {x:DataW H×List MemPlace} (h:DataW.trod enc Tryz.prog w base spare held fuel 38 cs=some x):
  ∃(c d:List UInt8) (p n:Int),cs=[.string (strOf c),.string (strOf d),.int .i64 p,.int .i64 n]∧I64 p∧I64 n∧x.1.weights Tryz.prog 38=x.1.weights Tryz.prog 38∧(∀k,(k=c.length∨k=d.length)→k ∈ x.1.weights Tryz.prog 38):=by
 obtain⟨xs,m,_,rfl,hl,hxl,hf⟩:=DataW.trod_struct Tryz.underlying38 h
 obtain⟨y0,y1,y2,y3,rfl⟩:=list4 hxl
 rw[aud]at hl
 obtain⟨v0,v1,v2,v3,rfl⟩:=list4 hl
 have f0:DataW.trod enc Tryz.prog w base spare held m 9 (([v0,v1,v2,v3].drop 0).take (Tryz.prog.cellsOf 9))=some y0:=hf 0 _ rfl
 have f1:DataW.trod enc Tryz.prog w base spare held m 9 (([v0,v1,v2,v3].drop 1).take (Tryz.prog.cellsOf 9))=some y1:=hf 1 _ rfl
 have f2:DataW.trod enc Tryz.prog w base spare held m 3 (([v0,v1,v2,v3].drop 2).take (Tryz.prog.cellsOf 3))=some y2:=hf 2 _ rfl
 have f3:DataW.trod enc Tryz.prog w base spare held m 2 (([v0,v1,v2,v3].drop 3).take (Tryz.prog.cellsOf 2))=some y3:=hf 3 _ rfl
 rw[cellss]at f0 f1
 rw[cellsi]at f2
 rw[cellsl]at f3
 obtain⟨s0,e0,d0,_⟩:=DataW.trod_string Tryz.underlying9 f0
 obtain⟨s1,e1,d1,_⟩:=DataW.trod_string Tryz.underlying9 f1
 obtain⟨p,e2,_,w2⟩:=DataW.trod_int Tryz.underlying3 f2
 obtain⟨n,e3,_,w3⟩:=DataW.trod_int Tryz.underlying2 f3
 obtain rfl:v0=.string s0:=by simpa using e0
 obtain rfl:v1=.string s1:=by simpa using e1
 obtain rfl:v2=.int .i64 p:=by simpa using e2
 obtain rfl:v3=.int .i64 n:=by simpa using e3
 refine⟨s0.data.toList,s1.data.toList,p,n,by rw[aG,aG],bounds_i64 w2,bounds_i64 w3,rfl,fun k hk=>?_⟩
 simp only[DataW.weights,Tryz.underlying38]
 rcases hk with rfl|rfl
 ·exact DataW.weights_mem_each (j:=0) (d:=y0.1) rfl rfl _ (by rw[d0];simp[DataW.weights])
 ·exact DataW.weights_mem_each (j:=1) (d:=y1.1) rfl rfl _ (by rw[d1];simp[DataW.weights])
theorem of_oris {ts:List TypeId} {ds:List (DataW H)} (hsz:(DataW.weightsEach Tryz.prog ts ds).all (·≤reachBytes)=true) {j:Nat} {fuel:Nat} {v:Value} {x:DataW H×List MemPlace} (htj:ts[j]?=some 56) (hdj:ds[j]?=some x.1)
  (h:DataW.trod enc Tryz.prog w base spare held fuel 56 [v]=some x):∃A n cap l,v=.slice A n cap∧In w A n cap l:=by
 rcases DataW.trod_slice Tryz.underlying56 h with⟨hcs,_⟩|⟨a,len,cap,elems,rest,m,_,hcs,rfl,hb,hl,hm,hlen,hel,_,_⟩
 ·obtain rfl:v=.slice none 0 0:=by simpa using hcs
  exact⟨none,0,0,[],rfl,⟨rfl,aY.nil _⟩,by simp,Nat.le_refl _,Nat.zero_le _⟩
 ·obtain rfl:v=.slice (some a) len cap:=by simpa using hcs
  have HH:∀i,i<len→∃o:O,(∀q,q<4→w.cell? (a.add (i*4+q))=(cells o)[q]?)∧Bnd o:=by
   intro i hi
   have h1:=hel i hi
   rw[aud,List.getElem?_eq_getElem (by omega),Option.bind_eq_some_iff]at h1
   obtain⟨cs',hc,ht⟩:=h1
   obtain⟨c,d,p,n,rfl,wp,wn,_,hwt⟩:=asf ht
   obtain⟨_,hcl,hat⟩:=World.cells?_some hc
   have hw:∀k,(k=c.length∨k=d.length)→k≤reachBytes:=fun k hk=>by
    have hmem:k ∈ (DataW.slice (elems.map (·.1)) (rest.map (·.1))).weights Tryz.prog 56:=by
     simp only[DataW.weights,Tryz.underlying56]
     exact List.mem_cons_of_mem _ (List.mem_append_left _ (AggN.weightsAll_mem (List.mem_map.2 ⟨_,List.getElem_mem (by omega),rfl⟩) _ (hwt k hk)))
    exact of_decide_eq_true (List.all_eq_true.1 hsz _ (DataW.weights_mem_each htj hdj _ hmem))
   refine⟨⟨c,d,p,n⟩,fun q hq=>?_,hw _ (.inl rfl),hw _ (.inr rfl),wp,wn⟩
   rw[←Go.Deep.add_add]
   exact hat q hq
  have HL : ∀ k, k ≤ len → ∃ l : List O, l.length = k ∧ (∀ j (hj : j < l.length), ∀ q, q < 4 → w.cell? (a.add (j * 4 + q)) = (cells l[j])[q]?) ∧ ∀ o ∈ l, Bnd o := by
   intro k
   induction k with
   |zero=>intro _;exact⟨[],rfl,fun j hj=>absurd hj (by simp),by simp⟩
   | succ k ih=>
    intro hk
    obtain⟨l,hl,hc,hsh⟩:=ih (by omega)
    obtain⟨o,h1,h2⟩:=HH k (by omega)
    refine⟨l++[o],by simp[hl],fun j hj=>?_,?_⟩
    ·by_cases hjl:j<l.length
     ·rw[List.getElem_append_left hjl]
      exact hc j hjl
     ·obtain rfl:j=k:=by simp[hl]at hj;omega
      simp only[List.getElem_append_right (show l.length≤j by omega)]
      simpa[hl]using h1
    ·intro q hq
     rcases List.mem_append.1 hq with hq|hq
     ·exact hsh q hq
     ·simp at hq
      subst hq
      exact h2
  obtain⟨l,hln,hc,hsh⟩:=HL len (Nat.le_refl _)
  refine⟨some a,len,cap,l,rfl,⟨hln,Open.yZ (by rw[ar7 l,hln]) (fun i hi=>?_)⟩,hsh,hl,hm⟩
  rw[ar7 l]at hi
  have e:i=i / 4*4+i%4:=by omega
  have hj:i / 4<l.length:=by omega
  have h1:=hc (i / 4) hj (i%4) (by omega)
  have h2:=EH l (i / 4) hj (i%4) (by omega)
  rw[←e]at h1 h2
  rw[h1,←h2]
  exact List.getElem?_eq_getElem _
end Go.Proofs.YtgamccijegollaaGreatDoor.auT
namespace Go.Proofs.YtgamccijegollaaGreatDoor.StoT
open Go.RowKit Base Dp cO uw xH apv StoJ atW Kq atr agS wS acK agU NJ wo aj6 atQ StoQ StoS UG aj3
open Go.Proofs.YtgamccijegollaaGreatDoor.auT (O I64)
section
variable {P:Program} {W w0:World} {ops:Array Oper} {rest:List Oper} {o:Oper} {a:Act} {Q:Exit→Act→World→Prop}
theorem aub (hgd:o.guard=none) (s x:Operand) (t:TypeId) (ho:o.op=.call {callee:=.builtin .append,args:=#[s,x],argTypes:=#[t,t]})
  (B:Nat) (e:TypeId) (i:TypeInfo) (z:Value) (by_:Nat) (ht:P.underlying t=some (.slice e)) (hi:P.info? e=some i) (hz:i.zero=some z) (hsize:i.size=1) (hby:i.bytes=by_) (hzs:z.cells.size=1)
  (v:Value) (n:Nat) (xs:List Value) (hs:a.eval s=v) (hown:W.ownsRow B e 1 v n xs) (hbel:Below B w0 W) (hB:B≤W.heap.size)
  (news:List Value) (m:Nat) (hm:news.length=m) (hx:a.eval x=.slice (some ⟨W.heap.size,0,none⟩) m m) (h1:∀u ∈ news,u.oneCell'=true)
  (h63:n+m≤maxLen) (hbytes:(n+m)*by_≤140737488355328)
  (h:∀v' w',w'.ownsRow B e 1 v' (n+m) (xs++news)→Below B w0 w'→Kp e e W w'→wpList P ops Q rest (a.put o.dst v') w'):
  wpList P ops Q (o::rest) a (W.alloc (.cells news.toArray e)):=by
 refine wpList_append_own _ hgd s x t ho B e i z 1 by_ ht hi hz hsize hby hzs (by decide) v n xs hs (hown.alloc _) ⟨W.heap.size,0,none⟩ m m news hx (by omega) (fun j u hj=>?_) h1 h63 hbytes (by simp;omega) (fun v' w' h2 h3 _=>h v' w' h2 ?_ ?_)
 ·rw[Xd,World.cell?_alloc_mark]
  simpa using hj
 ·exact(hbel.alloc hB _).grown h3 (by simp;omega) (fun g hg=>(hown.lt g hg).1)
 ·exact(Kp.below ((Below.refl _ _).alloc (Nat.le_refl _) _)).trans (Kp.grown (hown.alloc _) h3)
end
def fk (k:Nat):Nat→UInt8:=fun i=>if i=0 then UInt8.ofNat k else 0
theorem fk_zero (k:Nat) (h:k<256):((fk k 0).toNat:Int)=(k:Int):=by
 show(((UInt8.ofNat k).toNat:Nat):Int)=_
 rw[UInt8.toNat_ofNat',Nat.mod_eq_of_lt (by omega)]
theorem rv_fk (k:Nat) (h:k<256):rv (fk k)=#[.int .u8 (k:Int),.int .u8 0,.int .u8 0,.int .u8 0,.int .u8 0,.int .u8 0,.int .u8 0,.int .u8 0,.int .u8 0,.int .u8 0,.int .u8 0,.int .u8 0,.int .u8 0,.int .u8 0,.int .u8 0,.int .u8 0]:=by
 unfold rv
 rw[fk_zero k h]
 rfl
def atO (o:O) (k:Nat) (T:List UInt8):Prop:=(o.c=[]∧T=nH (fk k))∨(o.c≠[]∧arQ o.c o.d o.p=true∧T=[98,108,111,98,58]++pr0 o.c o.d o.p++[47]++nm (fk k) 16)
theorem auw (s h:List UInt8) (p:Int) (h0: -9223372036854775808≤p) (h1:p≤9223372036854775807):(pr0 s h p).length≤s.length+h.length+24:=by
 have hil:=Pg.aaI p h0 h1
 unfold pr0
 split
 ·simp only[List.length_append,List.length_cons,List.length_nil];omega
 simp only[List.length_append,List.length_cons,List.length_nil];omega
theorem avw {o:O} {k:Nat} {T:List UInt8} (h:atO o k T) (hb:o.c.length+o.d.length≤200) (hp:I64 o.p):T.length≤400:=by
 rcases h with⟨_,rfl⟩|⟨_,_,rfl⟩
 ·have:=KX (fk k);omega
 have h1:=auw o.c o.d o.p hp.1 hp.2
 have h2:=aqm (fk k) 16
 simp only[List.length_append,List.length_cons,List.length_nil]
 omega
theorem reg_o (B g:Nat) (ls:List (Bc Int)) (o:O) (k:Nat) (hk:k<20) (w:World) (hS:IsS 136 139 (Value.int .i64) B g 20 ls w) (hl:ls.length≤20) (hb:o.c.length+o.d.length≤200) (hp:I64 o.p) (E:Env w):
  Calls Tryz.prog 38 #[.pointer (some ⟨g,0,none⟩),.agg #[.string (strOf o.c),.string (strOf o.d),.int .i64 o.p,.int .i64 o.n],.int .i64 (k:Int),.agg (rv (fk k))] w fun e w'=>(∃er:Int,(er==0)=false∧e=.returned (.tuple #[.string ⟨#[]⟩,.int .i64 er])∧Below w.heap.size w w')∨(∃T,atO o k T∧e=.returned (.tuple #[.string (strOf T),.int .i64 0])∧IsS 136 139 (Value.int .i64) B g 20 (ls++[⟨strOf T,strOf o.c,strOf o.d,o.p,o.n,(k:Int)⟩]) w'∧Below B w w'∧Kp 136 139 w w'):=by
 have hnl:=aqm (fk k) 16
 have fin:∀(P T:List UInt8),atO o k T→T=[98,108,111,98,58]++P++[47]++nm (fk k) 16→P.length≤1000→
   Hid (∀w',Below w.heap.size w w'→Calls Tryz.prog 92 #[.agg #[.string (strOf o.c),.string (strOf o.d),.int .i64 o.p,.int .i64 o.n]] w' fun e w''=>e=.returned (.bool true)∧Below w'.heap.size w' w'')→
   Hid (∀w',Below w.heap.size w w'→Calls Tryz.prog 66 #[.agg #[.string (strOf o.c),.string (strOf o.d),.int .i64 o.p,.int .i64 o.n]] w' fun e w''=>e=.returned (.string (strOf P))∧Below w'.heap.size w' w'')→
   Calls Tryz.prog 38 #[.pointer (some ⟨g,0,none⟩),.agg #[.string (strOf o.c),.string (strOf o.d),.int .i64 o.p,.int .i64 o.n],.int .i64 (k:Int),.agg (rv (fk k))] w fun e w'=>(∃er:Int,(er==0)=false∧e=.returned (.tuple #[.string ⟨#[]⟩,.int .i64 er])∧Below w.heap.size w w')∨(∃T,atO o k T∧e=.returned (.tuple #[.string (strOf T),.int .i64 0])∧IsS 136 139 (Value.int .i64) B g 20 (ls++[⟨strOf T,strOf o.c,strOf o.d,o.p,o.n,(k:Int)⟩]) w'∧Below B w w'∧Kp 136 139 w w'):=by
  intro P T hN hT hPl HR HP
  cases hi:idx ls (strOf T)with
  |some j=>exact(atz B g 20 ls (strOf o.c) (strOf o.d) o.p o.n k (rv (fk k)) P (nm (fk k) 16) T w hS (by decide) (by omega) (by rw[hi];rfl) hT (by omega) (by omega) rfl HR HP (hid fun w' _=>KY (fk k) w')).mono fun e w' ⟨h1,h2⟩=>.inl ⟨5,rfl,h1,h2⟩
  |none=>
   by_cases hr:ls.length<20
   ·exact(avx B g 20 ls (strOf o.c) (strOf o.d) o.p o.n k (rv (fk k)) P (nm (fk k) 16) T w hS (by decide) (by omega) hr hi hT (by omega) (by omega) rfl HR HP (hid fun w' _=>KY (fk k) w')).mono fun e w' ⟨h1,h2,h3,h4⟩=>.inr ⟨T,hN,h1,h2,h3,h4⟩
   ·exact(auD B g 20 ls (strOf o.c) (strOf o.d) o.p o.n k (rv (fk k)) P (nm (fk k) 16) T w hS (by decide) (by omega) (by omega) hi hT (by omega) (by omega) rfl HR HP (hid fun w' _=>KY (fk k) w')).mono fun e w' ⟨h1,h2⟩=>.inl ⟨4,rfl,h1,h2⟩
 by_cases hc:o.c=[]
 ·refine fin [110,117,108,108] (nH (fk k)) (.inl ⟨hc,rfl⟩) (aq3 (fk k)) (by decide) ?_ ?_
  ·rw[hc];exact hid fun w' _=>ap2 (strOf o.d) o.p o.n w'
  ·rw[hc];exact hid fun w' _=>apT (strOf o.d) o.p o.n w'
 ·cases hr:arQ o.c o.d o.p with
  |false=>
   refine(reg_bad g o.c o.d o.p o.n k (rv (fk k)) w rfl (hid fun w' hb'=>?_)).mono fun e w' ⟨h1,h2⟩=>.inl ⟨1,rfl,h1,h2⟩
   have q:=zi o.c o.d o.p o.n w' hc (by omega) (by omega) hp.1 hp.2 (E.below hb')
   rw[hr]at q
   exact q
  |true=>
   have hpl:=auw o.c o.d o.p hp.1 hp.2
   refine fin (pr0 o.c o.d o.p) _ (.inr ⟨hc,hr,rfl⟩) rfl (by omega) (hid fun w' hb'=>?_) (hid fun w' hb'=>print_any o.c o.d o.p o.n w' hc (by omega) (by omega) hp.1 hp.2 (E.below hb').pow)
   have q:=zi o.c o.d o.p o.n w' hc (by omega) (by omega) hp.1 hp.2 (E.below hb')
   rw[hr]at q
   exact q
theorem name_o {o:O} {k:Nat} {T:List UInt8} (h:atO o k T):∃u,wS.url T none=some u∧u.au=zC∧u.opq=true∧u.hq=false∧u.hf=false∧ofU u=(if o.c=HTTP∨o.c=ar0 then some (o.c,o.d,o.p)else none):=by
 rcases h with⟨hc,rfl⟩|⟨hc,hr,rfl⟩
 ·have hf:=Vf (fk k)
  have hall:=ZK (F:=[]) hf rfl
  rw[List.append_nil]at hall
  have hcl:clean (nH (fk k))=nH (fk k):=PZ (by unfold nH zC;simp) hall
  have hap:wS.apart (nH (fk k))=⟨zC,MW (fk k),[],[],false,false⟩:=ZO hf
  have auu:wS.url (nH (fk k)) none=some (opU zC (MW (fk k))):=by
   unfold wS.url
   rw[hcl,hap,Ul hf.file hf.spc (by show zC≠[];decide)]
   unfold wS.plain
   have h47:Lib.hasPrefix (MW (fk k)) [47,47]=false∧Lib.hasPrefix (MW (fk k)) [47]=false:=by
    unfold MW
    constructor<;>rfl
   rw[if_neg (by rw[h47.1];decide),if_neg (by rw[h47.2];decide)]
   unfold wS.opq
   rw[if_neg (by simp),EC hf.r]
   rfl
  refine⟨_,auu,rfl,rfl,rfl,rfl,?_⟩
  rw[if_neg (by rw[hc];rintro(e|e)<;>cases e)]
  unfold ofU
  rw[if_neg (by show ¬five zC;decide),if_pos (show(opU zC (MW (fk k))).au=zC from rfl)]
  have hno:wS.url (MW (fk k)) none=none:=by
   have hre:=asL (fk k) 16
   have hch:∀c ∈ MW (fk k),33≤c.toNat∧c.toNat≤126∧c≠58∧c≠35∧c≠63:=by
    intro c hc
    unfold MW at hc
    rcases List.mem_append.1 hc with hc|hc
    ·exact(show ∀c ∈ ([110,117,108,108,47]:List UInt8),33≤c.toNat∧c.toNat≤126∧c≠58∧c≠35∧c≠63 by decide) c hc
    have h1:=List.all_eq_true.1 hre c hc
    unfold arL at h1
    simp only[Bool.or_eq_true,Bool.and_eq_true,decide_eq_true_iff]at h1
    rcases h1 with rfl|h1
    ·decide
    refine⟨by omega,by omega,?_,?_,?_⟩<;>(rintro rfl;revert h1;decide)
   unfold wS.url
   rw[PZ (by unfold MW;simp) (fun c hc=>⟨(hch c hc).1,(hch c hc).2.1⟩)]
   unfold wS.apart
   rw[iP 35 _ (fun c hc=>(hch c hc).2.2.2.1)]
   dsimp only
   rw[iP 63 _ (fun c hc=>(hch c hc).2.2.2.2)]
   dsimp only
   rw[iP 58 _ (fun c hc=>(hch c hc).2.2.1)]
   dsimp only
   rw[if_neg (by simp)]
   unfold wS.resolve
   dsimp only
   rw[if_neg (by decide),if_neg (by decide),if_neg (by decide)]
   rfl
  have e:(strOf (aZ.pF (opU zC (MW (fk k))).opq (strOf (opU zC (MW (fk k))).txt) (opU zC (MW (fk k))).aO)).data.toList=MW (fk k):=rfl
  rw[e,hno]
 obtain⟨hok,h5,auu⟩:=auC hc hr (asL (fk k) 16) (by have:=nm_ge (fk k) 16;omega)
 refine⟨_,auu,rfl,rfl,rfl,rfl,?_⟩
 unfold ofU
 rw[if_neg (by show ¬five zC;decide),if_pos (show(o7 (fQ (wI (vU o.c o.d o.p (nm (fk k) 16))))).au=zC from rfl)]
 have hin:=inner hok
 have e:(strOf (aZ.pF (o7 (fQ (wI (vU o.c o.d o.p (nm (fk k) 16))))).opq (strOf (o7 (fQ (wI (vU o.c o.d o.p (nm (fk k) 16))))).txt) (o7 (fQ (wI (vU o.c o.d o.p (nm (fk k) 16))))).aO)).data.toList=fQ (wI (vU o.c o.d o.p (nm (fk k) 16))):=rfl
 rw[e,hin]
 rfl
end Go.Proofs.YtgamccijegollaaGreatDoor.StoT
namespace Go.Proofs.YtgamccijegollaaGreatDoor.Shs
open Go.RowKit Base
variable {H:Type} {enc:TypeId×Value→H}
theorem wrap {a:Assume} {C:Checked} {os:Os} {f:FuncId} {fn:Func} {s:ChangeSpec} {conds:List PathCond} {apart fresh handsOn again:Bool} {X:World→Array Value→Prop}
  (hX:∀(w w':World) (args:Array Value),w.heap=w'.heap→X w args→X w' args)
  (own:ownKnob C.prog.godebug=none) (started:os.Started) (noInit:C.prog.inits.idxOf? f=none) (hfn:C.prog.funcs[f]?=some fn)
  (witness:∃(w:World) (tape:Tape) (i:Input),w.os=os∧(w.forCall tape i).Shaped C.prog∧i.vars=[]∧Input.okWide C.prog (w.forCall tape i) .any w.heap.size f i∧
   ((s.pre enc C.prog fn conds apart (w.forCall tape i).memory i.args∧X (w.forCall tape i).memory i.args)∧sizedMet enc C.prog fn (OpenSpec.ofChange s) apart (w.forCall tape i).memory i.args)∧a.holds C.prog (lone (Frame.enter C.prog f i.args .normal) [] (w.forCall tape i)))
  (contract:∀(W:World) (base:Nat) (args:Array Value) (ds gs:List (DataW H)) (before:List MemPlace),
   (∀(j:Nat) t v,fn.params[j]?=some t→args[j]?=some v→Value.okWide C.prog W .any base t v)→
   DataW.Whole enc C.prog fn.params.toList s.vars apart W args.toList ds gs before→
   conds.all (PathCond.test C.prog ⟨fn.params.toList,ds,s.plain.varTypes C.prog,gs⟩)=true→
   (DataW.weightsEach C.prog (fn.params.toList++s.plain.varTypes C.prog) (ds++gs)).all (·≤reachBytes)=true→X W args→W.ShapedOpen C.prog→
   a.holds C.prog (lone (Frame.enter C.prog f args .normal) [] W)→
   Calls C.prog f args W fun e W'=>∃v,e=.returned v∧s.post enc C.prog fn apart fresh handsOn again W args v W'):
  ReturnsInHanded a C os f .any (fun w args=>(s.pre enc C.prog fn conds apart w args∧X w args)∧sizedMet enc C.prog fn (OpenSpec.ofChange s) apart w args) (s.post enc C.prog fn apart fresh handsOn again):=by
 refine returnsInHanded_of_calls own started noInit witness ?_
 intro w tape i _ hsh _ hok hpre hholds
 obtain⟨_,_,_,fn',hfn',_,_,_,_,hval⟩:=hok
 have e:fn'=fn:=Option.some.inj (hfn'.symm.trans hfn)
 subst e
 obtain⟨⟨⟨ds,gs,before,hw,hc⟩,hx⟩,hz⟩:=hpre
 have hw':=DataW.Whole.of_heap (w':=w.forCall tape i) (by rfl) hw
 refine(contract (w.forCall tape i) w.heap.size i.args ds gs before hval hw' hc (hz.weights hw) (hX _ _ _ (by rfl) hx) hsh hholds).mono fun e W' ⟨v,he,hp⟩=>?_
 subst he
 exact ChangeSpec.post_blind hp
theorem max_of {w:World} (h:w.ShapedOpen Tryz.prog):pO.Max w:=Go.Proofs.cell_of_shapedOpen_int (zero:=#[.int .i64 0]) (t:=3) h (of_decide_eq_true (by kernel_rfl)) (by kernel_rfl) rfl (by kernel_rfl) (by kernel_rfl) Tryz.underlying3
end Go.Proofs.YtgamccijegollaaGreatDoor.Shs
namespace Go.Proofs.YtgamccijegollaaGreatDoor.rD
open Go.RowKit Go.Lib
theorem utab_of {W:World} {l:List (String×DataW Unit)} (h:laidMet Tryz.prog l W) (h1:("unicode/utf8.first",firstData) ∈ l) (h2:("unicode/utf8.acceptRanges",acceptData) ∈ l):vZ.rD W:=
 utf8Tabs_of_reads (ρ:=Tryz.l237_ren) {Tryz.l237 with} ⟨by kernel_rfl,by kernel_rfl,by kernel_rfl,by kernel_rfl,by kernel_rfl,by kernel_rfl,by kernel_rfl⟩ (Lib.laidMet.reads h h1) (Lib.laidMet.reads h h2)
end Go.Proofs.YtgamccijegollaaGreatDoor.rD
