/- Texts that belong together: ajk, BuiR. -/
import Derived.Test.YtgamccijegollaaGreatDoorFNAAR
import Derived.Test.YtgamccijegollaaGreatDoorFNAAQ
import Derived.Test.YtgamccijegollaaGreatDoorFNAAA
import Derived.Test.YtgamccijegollaaGreatDoorFNAAT
set_option linter.unusedSimpArgs false
set_option linter.unusedVariables false
set_option maxRecDepth 100000
set_option maxHeartbeats 64000000
namespace Go.Proofs.YtgamccijegollaaGreatDoor.ajk
open Go.RowKit Base Dp cO pU Gn qg NG OX oG sV BG NH rC JY ND
def pp (p:ByteArray×ByteArray):Bool:=decide (p.1.data.toList≠Gt)&&(Uf p.1.data.toList&&p.2.data.toList.all YW)
theorem aic {l:List (ByteArray×ByteArray)} (h:∀p ∈ l,pp p=true):Q7 (mQ l)=true:=by
 unfold Q7 mQ
 rw[List.all_map,List.all_eq_true]
 exact h
end Go.Proofs.YtgamccijegollaaGreatDoor.ajk
namespace Go.Proofs.YtgamccijegollaaGreatDoor.BuiR
open Go.RowKit Base Dp cO pU qg NG OX oG sV BG NH J6 rC JY ND ajk
theorem vch_iff (c:UInt8):YW c=(decide (32≤c.toNat)&&(decide (c.toNat≤126)&& !(([35,44,63]:List UInt8).contains c))):=by
 unfold YW
 rw[Bool.eq_iff_iff]
 simp only[decide_eq_true_iff,Bool.and_eq_true,Bool.not_eq_true',List.contains_eq_mem,decide_eq_false_iff_not,List.mem_cons,List.not_mem_nil,or_false,not_or,ne_eq]
def apY (s:ByteArray) (w:World) (e:Ending) (w':World):Prop:=(∃b:Bool,e=.returned (.bool b)∧(b=true→∀c ∈ s.data.toList,YW c=true))∧w=w'
theorem alC (s:ByteArray) (w:World):apY s w (.returned (.bool false)) w:=⟨⟨false,rfl,fun h=>by cases h⟩,rfl⟩
theorem akK (s:ByteArray) (w:World) (hs:s.size≤1073741824):Calls Tryz.prog 90 #[.string s] w (apY s w):=by
 go_enter Tryz.func90,Tryz.ntmps90
 go_wp2
 go_loopw [3] (fun v wr=>∃i:Nat,i≤s.size∧v=.int .i64 (i:Int)∧wr=w∧Hid (∀c ∈ s.data.toList.take i,YW c=true)) (fun v _=>s.size - (intOf v).toNat)
 case atStart=>exact⟨0,Nat.zero_le _,rfl,rfl,fun c hc=>by simp at hc⟩
 case round=>
  obtain⟨i,hi,rfl,rfl,HV⟩:=hrel
  have hiI0:(0:Int)≤(i:Int):=by omega
  by_cases hil:i<s.size
  ·obtain⟨c,hc⟩:∃c,s[i]=c:=⟨_,rfl⟩
   have hiI:(i:Int)<(s.size:Int):=by omega
   have hkl2:i<s.data.toList.length:=by rw[show s.data.toList.length=s.size from Array.length_toList];exact hil
   have hcl:s.data.toList[i]=c:=hc
   have uQ:Hid (YW c=true→∀d ∈ s.data.toList.take (i+1),YW d=true):=by
    show _→_
    intro hv d hd
    rw[List.take_succ_eq_append_getElem hkl2,hcl]at hd
    rcases List.mem_append.1 hd with hd|hd
    ·exact HV.out d hd
    rw[List.mem_singleton.1 hd];exact hv
   clear hkl2 hcl
   obtain⟨x,hx⟩:∃x,x=([35,44,63]:List UInt8).contains c:=⟨_,rfl⟩
   have YN:Hid (∀w:World,Calls Tryz.prog 190 #[.string ⟨#[35,44,63]⟩,.int .u8 (c.toNat:Int)] w fun e w'=>∃z:Int,e=.returned (.int .i64 z)∧decide (0≤z)=x∧w'=w):=fun w=>by
    refine(Tryz.strings_IndexByte ⟨#[35,44,63]⟩ _ w).mono ?_
    rintro e w' ⟨rfl,rfl⟩
    refine⟨_,rfl,?_,rfl⟩
    rw[show((c.toNat:Int).toNat.toUInt8)=c by simp,apt.alO,hx]
   have HX:Hid (YW c=(decide (32≤c.toNat)&&(decide (c.toNat≤126)&& !x))):=by show _=_;rw[hx];exact vch_iff c
   clear hx
   by_cases g1:c.toNat<32
   ·have g1i:(c.toNat:Int)<32:=by omega
    clear g1
    go_wp2
    go_ret
    exact alC _ _
   by_cases g2:126<c.toNat
   ·have g1i:¬(c.toNat:Int)<32:=by omega
    have g2i:(126:Int)<(c.toNat:Int):=by omega
    clear g1 g2
    go_wp2
    go_ret
    exact alC _ _
   have g1i:¬(c.toNat:Int)<32:=by omega
   have g2i:¬(126:Int)<(c.toNat:Int):=by omega
   have HXX:Hid (YW c= !x):=by
    show _=_
    rw[HX.out,decide_eq_true (show 32≤c.toNat by omega),decide_eq_true (show c.toNat≤126 by omega)]
    rfl
   clear g1 g2
   go_wp2_with fail
   refine(YN.out _).mono ?_
   rintro e w2 ⟨z,rfl,hz,hw2⟩
   subst hw2
   cases x with
   |true=>
    have zz1:0≤z:=by simpa using hz
    have zz2:¬z<0:=by omega
    go_wp2
    go_ret
    exact alC _ _
   |false=>
    have zz1:¬0≤z:=by simpa using hz
    have zz2:z<0:=by omega
    have Zj:=hid (uQ.out HXX.out)
    go_wp2
    go_roundw
    case rel=>exact⟨i+1,by omega,by go_num,by first|rfl|trivial,Zj.out⟩
    case measure=>simp[intOf];omega
  obtain rfl:i=s.size:=by omega
  have HAL:Hid (∀c ∈ s.data.toList,YW c=true):=fun c hc=>HV.out c (by rw[List.take_of_length_le (by rw[show s.data.toList.length=s.size from Array.length_toList];exact Nat.le_refl _)];exact hc)
  go_wp2
  go_ret
  exact(⟨⟨true,rfl,fun _=>HAL.out⟩,rfl⟩:apY s _ _ _)
theorem Dn (T S:ByteArray) (A:Option Addr) (n cap:Nat) (w:World) (hs:T.size+1+S.size≤9223372036854775807):Calls Tryz.prog 70 #[.agg #[.string T,.string S,.slice A n cap]] w fun e w'=>e=.returned (.string (strOf (T.data.toList++47::S.data.toList)))∧Below w.heap.size w w':=by
 have h1:(Op.stringOp .add T ⟨#[47]⟩).run Tryz.prog w=.ok (.string (strOf (T.data.toList++[47]))) w:=dL T ⟨#[47]⟩ w (by show T.size+1≤_;omega)
 have HA1:Hid (∀w:World,(Op.stringOp .add T ⟨#[47]⟩).run Tryz.prog w=.ok (.string (strOf (T.data.toList++[47]))) w):=fun w=>dL T ⟨#[47]⟩ w (by show T.size+1≤_;omega)
 have HA2:Hid (∀w:World,(Op.stringOp .add (strOf (T.data.toList++[47])) S).run Tryz.prog w=.ok (.string (strOf (T.data.toList++47::S.data.toList))) w):=fun w=>by
  have k:=dL (P:=Tryz.prog) (strOf (T.data.toList++[47])) S w (by rw[o9,List.length_append,show T.data.toList.length=T.size from Array.length_toList];show T.size+1+_≤_;omega)
  rw[show(strOf (T.data.toList++[47])).data.toList++S.data.toList=T.data.toList++47::S.data.toList by show(T.data.toList++[47])++_=_;simp]at k
  exact k
 clear h1
 go_enter Tryz.func70,Tryz.ntmps70
 go_upto_region 1 with(fail)
 generalize hw1:w.alloc _=w1
 have HB1:Hid (Below w.heap.size w w1):=by show Below _ _ _;rw[←hw1];exact(Below.refl _ _).alloc (Nat.le_refl _) _
 have hx1:B3 44 w1 w.heap.size (.string T) (.string S) (.slice A n cap):=by
  rw[←hw1]
  exact heap_alloc_new w _
 obtain⟨c0,c1,c2⟩:=hx1.facts
 have a1:=HA1.out
 have a2:=HA2.out
 clear hw1 hx1
 go_wp2
 go_ret
 exact⟨rfl,HB1.out⟩
def SomeQ (w:World) (T S:ByteArray) (l:List (ByteArray×ByteArray)) (e:Ending) (w':World):Prop:=∃b:Bool,e=.returned (.bool b)∧(b=true→kR T.data.toList S.data.toList (mQ l)=true)∧Below w.heap.size w w'
theorem VL (T S:ByteArray) (A:Option Addr) (n cap:Nat) (l:List (ByteArray×ByteArray)) (w:World) (hr:zH w A n l) (hc:n≤cap) (hm:cap≤maxLen) (hF:adF T S l):
  Calls Tryz.prog 34 #[.agg #[.string T,.string S,.slice A n cap]] w (SomeQ w T S l):=by
 have hRt:∀w:World,zH w A n l→Calls Tryz.prog 86 #[.agg #[.string T,.string S,.slice A n cap]] w fun e w'=>e=.returned (.bool (fD T.data.toList S.data.toList (mQ l)))∧Below w.heap.size w w':=fun w h=>J6.zi T S A n cap l w h hc hm hF
 obtain⟨r,hr0⟩:∃r,r=fD T.data.toList S.data.toList (mQ l):=⟨_,rfl⟩
 rw[←hr0]at hRt
 obtain⟨TS,hTS⟩:∃X,X=T.data.toList++47::S.data.toList:=⟨_,rfl⟩
 obtain⟨f1,f2,f2b,f3⟩:=hF
 have hadd:∀w:World,Calls Tryz.prog 70 #[.agg #[.string T,.string S,.slice A n cap]] w fun e w'=>e=.returned (.string (strOf TS))∧Below w.heap.size w w':=fun w=>by rw[hTS];exact Dn T S A n cap w (by omega)
 obtain⟨x,hx⟩:∃x,x=TS.contains 35:=⟨_,rfl⟩
 have hHs:∀w:World,Calls Tryz.prog 89 #[.string (strOf TS),.string ⟨#[35]⟩] w fun e w'=>e=.returned (.bool x)∧w=w':=fun w=>by
  rw[hx]
  exact Sls.FN 35 (strOf TS) w
 have fin:∀(b:Bool) (w':World),Below w.heap.size w w'→(b=true→r=true∧x=false∧∀p ∈ l,pp p=true)→SomeQ w T S l (.returned (.bool b)) w':=fun b w' h hb=>⟨b,rfl,fun e=>by
  obtain⟨h1,h2,h3⟩:=hb e
  unfold kR
  rw[←hr0,h1,aic h3,Bool.true_and,Bool.and_true]
  have h4:=h2
  rw[hx,hTS]at h4
  unfold Uf
  rw[List.all_eq_true]
  intro c hc
  rw[decide_eq_true_iff]
  rintro rfl
  rw[List.contains_eq_mem,decide_eq_false_iff_not]at h4
  refine h4 (List.mem_append.2 ?_)
  rcases List.mem_append.1 hc with hc|hc
  ·exact .inl hc
  ·exact .inr (List.mem_cons_of_mem _ hc),h⟩
 have UC:=hid hRt
 have HHS:=hid hHs
 have HAD:=hid hadd
 have FIN:=hid fin
 have hl:l.length=n:=hr.1
 have HL:=hid hl
 have HR:=hid hr
 have HF:=hid f3
 unfold maxLen at hm
 have hn20:n≤1048576:=by omega
 clear hRt hHs hadd fin hl hr f1 f2 f2b f3 hr0 hTS hx
 go_enter Tryz.func34,Tryz.ntmps34
 go_upto_region 1 with(fail)
 generalize hw1:w.alloc _=w1
 have HB1:Hid (Below w.heap.size w w1):=by show Below _ _ _;rw[←hw1];exact(Below.refl _ _).alloc (Nat.le_refl _) _
 have hx1:B3 44 w1 w.heap.size (.string T) (.string S) (.slice A n cap):=by
  rw[←hw1]
  exact heap_alloc_new w _
 have kP:=hid hx1
 obtain⟨c0,c1,c2⟩:=hx1.facts
 clear hw1 hx1
 go_wp2_with fail
 clear c0 c1 c2
 refine(UC.out _ (HR.out.below HB1.out)).mono ?_
 rintro e w2 ⟨rfl,hb2⟩
 have HB2:=hid (bel HB1.out hb2)
 have gY:=hid (kP.out.below hb2)
 clear hb2 kP
 cases r with
 |false=>
  go_wp2
  go_ret
  exact FIN.out _ _ HB2.out (fun h=>by cases h)
 | true =>
  obtain⟨c0,c1,c2⟩:=gY.out.facts
  go_wp2_with fail
  clear c0 c1 c2
  refine(HAD.out _).mono ?_
  rintro e w2b ⟨rfl,hb2b⟩
  have HB2b:=hid (bel HB2.out hb2b)
  have HX2b:=hid (gY.out.below hb2b)
  clear hb2b HB2 gY
  have HB2:=HB2b
  have gY:=HX2b
  clear HB2b HX2b
  go_wp2_with fail
  refine(HHS.out _).mono ?_
  rintro e wx ⟨rfl,hwx⟩
  obtain rfl:w2b=wx:=hwx
  cases x with
  |true=>
   go_wp2
   go_ret
   exact FIN.out _ _ HB2.out (fun h=>by cases h)
  | false =>
   obtain⟨c0,c1,c2⟩:=gY.out.facts
   go_wp2
   go_loopw [4,16] (fun _ vk wr=>∃k:Nat,k≤n∧vk=.int .i64 (k:Int)∧Hid (B3 44 wr w.heap.size (.string T) (.string S) (.slice A n cap))∧Hid (Below w.heap.size w wr)∧Hid (∀j (h:j<l.length),j<k→pp l[j]=true)) (fun _ vk _=>n - (intOf vk).toNat)
   case atStart=>exact⟨0,Nat.zero_le _,rfl,gY.out,HB2.out,fun j _ h=>by omega⟩
   case round=>
    clear c0 c1 c2
    obtain⟨k,hk,rfl,HMM,HB,HPP⟩:=hrel
    obtain⟨c0,c1,c2⟩:=HMM.out.facts
    by_cases hlt:k<n
    ·obtain ⟨b, off, rfl, hb, h1, h2⟩ := (HR.out.under HB.out (Nat.le_refl _)).2 k (by rw [HL.out]; exact hlt)
     have hkl:k<l.length:=by rw[HL.out];exact hlt
     have hp2:=HF.out l[k] (List.getElem_mem hkl)
     obtain⟨s1,hs1⟩:∃s,s=l[k].1:=⟨_,rfl⟩
     obtain⟨s2,hs2⟩:∃s,s=l[k].2:=⟨_,rfl⟩
     rw[←hs1]at h1 hp2
     rw[←hs2]at h2 hp2
     have HS:Hid (∀h:k<l.length,pp l[k]=(decide (s1.data.toList≠Gt)&&(Uf s1.data.toList&&s2.data.toList.all YW))):=fun h=>by rw[hs1,hs2];rfl
     have hkI:(k:Int)<(n:Int):=by omega
     have HKL:=hid hkl
     have hps1:s1.size≤1073741824:=by omega
     have hps2:s2.size≤1073741824:=by omega
     clear hs1 hs2 hb hkl
     go_upto_region 6 with(fail)
     generalize hw3:World.alloc wr _=w3
     have hxp:B2 130 w3 wr.heap.size (.string s1) (.string s2):=by show B2 _ _ _ _ _;rw[←hw3];exact heap_alloc_new _ _
     have hb3:Below wr.heap.size wr w3:=by rw[←hw3];exact(Below.refl _ _).alloc (Nat.le_refl _) _
     have HXP:=hid hxp
     have AB:=hid (HMM.out.below hb3)
     have HB3:=hid (bel HB.out hb3)
     obtain⟨z,hz⟩:∃z,z=s1.data.toList.contains 35:=⟨_,rfl⟩
     have HH2:Hid (∀w:World,Calls Tryz.prog 89 #[.string s1,.string ⟨#[35]⟩] w fun e w'=>e=.returned (.bool z)∧w=w'):=fun w=>by rw[hz];exact Sls.FN 35 s1 w
     have HPV:Hid (∀w:World,Calls Tryz.prog 90 #[.string s2] w fun e w'=>(∃b:Bool,e=.returned (.bool b)∧(b=true→∀c ∈ s2.data.toList,YW c=true))∧w=w'):=fun w=>akK s2 w hps2
     have HZ:=hid hz
     clear hw3 hxp hb3 hz c0 c1 c2 h1 h2 hp2
     obtain⟨d0,d1⟩:=HXP.out.facts
     by_cases hq:s1.data.toList=Gt
     ·have q1:(s1.toList==[98,97,115,101,54,52])=true:=by rw[Lib.toList_data,hq];rfl
      have q2:s1.toList=[98,97,115,101,54,52]:=by rw[Lib.toList_data,hq];rfl
      clear hq
      go_wp2
      go_ret
      exact FIN.out _ _ HB3.out (fun h=>by cases h)
     ·have q1:(s1.toList==[98,97,115,101,54,52])=false:=by rw[Lib.toList_data,beq_eq_false_iff_ne];exact hq
      have q2:¬s1.toList=[98,97,115,101,54,52]:=by rw[Lib.toList_data];exact hq
      have HQ:=hid hq
      clear hq
      go_wp2_with fail
      clear q1 q2
      refine(HH2.out _).mono ?_
      rintro e wy ⟨rfl,hwy⟩
      obtain rfl:w3=wy:=hwy
      cases z with
      |true=>
       go_wp2
       go_ret
       exact FIN.out _ _ HB3.out (fun h=>by cases h)
      | false=>
       go_wp2_with fail
       refine(HPV.out _).mono ?_
       rintro e wv ⟨⟨v,rfl,hv⟩,hwv⟩
       obtain rfl:w3=wv:=hwv
       have HVV:=hid hv
       clear hv
       cases v with
       |false=>
        go_wp2
        go_ret
        exact FIN.out _ _ HB3.out (fun h=>by cases h)
       | true=>
        have HP2:Hid (∀j (h:j<l.length),j<k+1→pp l[j]=true):=by
         intro j h hj
         by_cases hjk:j<k
         ·exact HPP.out j h hjk
         ·obtain rfl:j=k:=by omega
          have hns:Uf s1.data.toList=true:=by
           have h4:=HZ.out
           unfold Uf
           rw[List.all_eq_true]
           intro c hc
           rw[decide_eq_true_iff]
           rintro rfl
           have h5:=h4.symm
           rw[List.contains_eq_mem,decide_eq_false_iff_not]at h5
           exact h5 hc
          rw[HS.out h,decide_eq_true HQ.out,hns]
          simp only[Bool.true_and]
          rw[List.all_eq_true]
          exact HVV.out rfl
        go_wp2
        go_roundw
        case rel=>exact⟨k+1,by omega,by go_num,AB.out,HB3.out,HP2.out⟩
        case measure=>simp[intOf];omega
    ·obtain rfl:k=n:=by omega
     have HA:Hid (∀p ∈ l,pp p=true):=by
      intro p hp
      obtain⟨j,hj,rfl⟩:=List.getElem_of_mem hp
      exact HPP.out j hj (by rw[←HL.out];exact hj)
     go_wp2
     go_ret
     exact FIN.out _ _ HB.out (fun _=>by first|exact⟨rfl,rfl,HA.out⟩|simpa using HA.out|exact⟨trivial,rfl,HA.out⟩|exact⟨trivial,trivial,HA.out⟩)
end Go.Proofs.YtgamccijegollaaGreatDoor.BuiR
