/- Texts that belong together: akb, vZ, WQ, oN, NJ, wo, Wx, UrlB, Pg, UG. -/
import Derived.Test.YtgamccijegollaaGreatDoorFNAAO
import Derived.Test.YtgamccijegollaaGreatDoorFNAAI
import Derived.Test.YtgamccijegollaaGreatDoorFNAAN
import Derived.Test.YtgamccijegollaaGreatDoorFNAAF
import Derived.Test.YtgamccijegollaaGreatDoorShelf
import Derived.Test.YtgamccijegollaaGreatDoorShelf2
import Derived.Test.YtgamccijegollaaGreatDoorFNAAH
import Derived.Test.YtgamccijegollaaGreatDoorFNAAE
import Derived.Test.YtgamccijegollaaGreatDoorFNAAA
import Derived.Shelf.Strings.Builder1
import Derived.Deep.DeepCutAuto
import Derived.BigQuiet
set_option linter.unusedSimpArgs false
set_option linter.unusedVariables false
set_option maxRecDepth 100000
set_option maxHeartbeats 64000000
namespace Go.Proofs.YtgamccijegollaaGreatDoor.akb
open Go.RowKit Base L6 Dp dI cO acv ac2 acD aco wS yw tN Fp mW Pbx tK yx WS jQ sU pO aj8 PrsF TI aj9
theorem Yq (p:Parts) (w:World) (hs:p.rest.length≤700000) (hL:oI w) (hT:Tab.Pow w) (hM:Max w):Calls Tryz.prog 54 #[.agg (bQ p),.pointer none] w (mO w (wS.resolve p none)):=by
 obtain⟨s,rt,q,f,hq,hf⟩:=p
 simp only at hs
 obtain⟨O,hO⟩:∃O,O=wS.resolve ⟨s,rt,q,f,hq,hf⟩ none:=⟨_,rfl⟩
 rw[←hO]
 unfold wS.resolve at hO
 simp only at hO
 have HO:=hid hO
 have wC:Hid (∀w:World,Calls Tryz.prog 115 #[.string (strOf s)] w fun e w'=>e=.returned (.bool (special s))∧w'=w):=fun w=>jv (strOf s) w
 have vW:Hid (∀w:World,oI w→Tab.Pow w→Max w→Calls Tryz.prog 121 #[.agg (bQ ⟨s,rt,q,f,hq,hf⟩)] w (mO w (wS.plain ⟨s,rt,q,f,hq,hf⟩))):=fun w a c d=>VL ⟨s,rt,q,f,hq,hf⟩ w (by show rt.length≤_;omega) a c d
 have HFN:Hid (∀w:World,oI w→Tab.Pow w→Max w→Calls Tryz.prog 114 #[.string (strOf rt),.pointer none] w (mO w (file rt none))):=fun w a c d=>Ve rt w hs a c d
 have F9:Hid (∀w:World,Calls Tryz.prog 120 #[.string (strOf s)] w fun e w'=>e=.returned (.string (cs (special s)))∧w'=w):=fun w=>jr (strOf s) w
 have HTR:Hid (∀w:World,Calls Tryz.prog 119 #[.string (strOf rt),.string (cs true)] w fun e w'=>e=.returned (.string (strOf (rt.dropWhile (gB true))))∧Below w.heap.size w w'):=fun w=>AX rt w
 obtain⟨T2,hT2⟩:∃x,x=rt.dropWhile (gB true):=⟨_,rfl⟩
 have XL:T2.length≤900000:=by rw[hT2];have:=(List.dropWhile_sublist (gB true) (l:=rt)).length_le;omega
 rw[←hT2]at HTR HO
 obtain⟨OA,hOA⟩:∃x,x=authority s T2:=⟨_,rfl⟩
 have HAU:Hid (∀w:World,oI w→Tab.Pow w→Max w→Calls Tryz.prog 118 #[.string (strOf s),.string (strOf T2)] w (mO w OA)):=fun w a b c=>by rw[hOA];exact qP s T2 w XL a b c
 rw[←hOA]at HO
 have HL:=hid hL
 have HT:=hid hT
 have HM:=hid hM
 clear hO hT2 hOA hL hT hM
 go_enter Tryz.func54,Tryz.ntmps54
 go_upto_region 1 with(fail)
 generalize hw:World.alloc (World.alloc w _) _=w1
 have h1:PB w1 (w.heap.size) (⟨s,rt,q,f,hq,hf⟩)∧UB w1 ((w.heap.size+1)) (U0) (.slice none 0 0)∧Below w.heap.size w w1:=by
  subst hw
  exact laid2 w _ _ _ _
 clear hw
 have WL:Hid (w.heap.size≤w.heap.size):=Nat.le_refl _
 have bP:Hid (w.heap.size≤(w.heap.size+1)):=Nat.le_succ _
 have dF:=hid h1.1
 have aW:=hid h1.2.1
 have bM:=hid h1.2.2
 clear h1
 obtain⟨p0,p1,p2,p3,p4,p5⟩:=dF.out.facts
 by_cases hs1:s=FILE
 ·
  have mX:Hid (O=file rt none):=by show _=_;rw[HO.out,if_pos hs1];first|done|rfl
  have afn:((strOf s).toList==[102,105,108,101])=true:=by rw[aK,hs1];first|done|rfl
  have afo:(strOf s).toList=[102,105,108,101]:=by rw[aK,hs1];first|done|rfl
  clear hs1
  go_wp2_with fail
  refine(HFN.out _ (HL.out.below bM.out) (bY HT.out bM.out) (HM.out.below bM.out)).mono ?_
  rintro e w2 ⟨hbx,u',A',n',c',ok,rfl,hown,yK⟩
  have iy:Hid ((w.heap.size+1)<w1.heap.size):=aW.out.lt
  have HOW:=hid hown
  have F8:=hid yK
  clear hown yK
  have jE:=hid (dF.out.below hbx)
  have bK:=hid (aW.out.below hbx)
  have eX:=hid (bel bM.out hbx)
  have Ib:Hid (w.heap.size≤w1.heap.size):=bM.out.size
  clear dF aW bM
  clear hbx
  go_wp2_with (refine aC bK.out u' A' n' c' (.tmp 4) (.tmp 23) rfl rfl rfl rfl ?_)
  try simp only[Exit.inBlock,Exit.then]
  exact bodyPost_ret (w:=World.setRow w2 (w.heap.size+1) (cells u' (.slice A' n' c'))) (res2 (u:=u') (p:=.slice A' n' c') rfl (bK.out.row u' _) ok _ rfl rfl) rfl ⟨below_setRow eX.out bP.out _,u',A',n',c',ok,rfl,(HOW.out.row iy.out _).base Ib.out,by rw[mX.out];exact F8.out⟩
 ·
  have afn:((strOf s).toList==[102,105,108,101])=false:=by rw[aK,beq_eq_false_iff_ne];exact hs1
  have afo:¬(strOf s).toList=[102,105,108,101]:=by rw[aK];exact hs1
  cases hsp:special s with
  | true=>
   have mX:Hid (O=OA):=by show _=_;rw[HO.out,if_neg hs1,if_pos hsp]
   rw[hsp]at wC F9
   clear hsp hs1
   go_wp2_with fail
   refine(wC.out _).mono ?_
   rintro e wx ⟨rfl,hwx⟩
   obtain rfl:w1=wx:=by first|exact hwx|exact hwx.symm
   clear hwx
   clear p0 p1 p2 p3 p4 p5
   go_upto_region 6 with(fail)
   refine aV (by kernel_rfl) [is (.pointer none),is (.bool false),is (.bool false),is (undef),is (undef),is (undef),is (undef),is (undef),is (undef),is (undef),is (.bool false),is (.bool false),is (undef),is (undef),is (undef),is (undef),is (.bool false)] [[],[0],[1],[2],[2,3],[2,4],[2,5],[2],[2,7],[2,6,8],[2,9],[10],[11],[11,12],[11,13],[11,14],[11,15]] (by kernel_rfl) ?_ ?_
   ·refine ⟨?_,?_,?_,?_,?_,?_,?_,?_,?_,?_,?_,?_,?_,?_,?_,?_,?_,trivial⟩
    all_goals(intro t wq hbq hh K hK;simp only[filled,upd,Have,is,any,row,pick,Act.put,List.setIfInBounds_toArray,List.set_cons_zero,List.set_cons_succ,Nat.reduceAdd,Nat.reduceEqDiff,reduceIte,List.tail_cons,List.headD_cons]at hh hK⊢)
    ·clear hh
     go_simp
     exact hK _ _ (Below.refl _ _) rfl
    ·have e0:=hh.1
     clear hh
     simp only[e0]at hK⊢
     go_simp
     first|exact hK _ _ (Below.refl _ _) rfl|exact hK _ _ (Below.refl _ _) (iC (by omega) (by omega))
    iterate 7
     ·try simp only[hh]at hK⊢
      clear hh
      go_simp
      exact hK _ _ (Below.refl _ _) rfl
    ·have e2:=hh.1
     have e6:=hh.2.1
     have e8:=hh.2.2.1
     clear hh
     simp only[e2,e6,e8]at hK⊢
     go_simp
     first|exact hK _ _ (Below.refl _ _) rfl|exact hK _ _ (Below.refl _ _) (iC (by omega) (by omega))
    iterate 7
     ·try simp only[hh]at hK⊢
      clear hh
      go_simp
      exact hK _ _ (Below.refl _ _) rfl
   ·intro t wz hbq hh
    have f16:=aB hh 16 (by decide)
    simp only[pick]at f16
    replace f16:t 16=(.bool false):=f16
    clear hh
    simp only[filled,upd,Have,is,any,row,pick,Act.put,List.setIfInBounds_toArray,List.set_cons_zero,List.set_cons_succ,Nat.reduceAdd,Nat.reduceEqDiff,reduceIte]
    simp only[f16]
    have yh:=hid (dF.out.below hbq)
    have CP:=hid (aW.out.below hbq)
    have x9:=hid (bel bM.out hbq)
    clear dF aW bM
    clear hbq
    have iy:Hid ((w.heap.size+1)<wz.heap.size):=CP.out.lt
    go_upto_region 8 with(fail)
    refine bC (by kernel_rfl) 11 [is (.pointer (some ⟨w.heap.size,0,none⟩)),is (.string (strOf s)),is (.pointer (some ⟨w.heap.size,1,none⟩)),is (.string (strOf rt)),is (.pointer (some ⟨w.heap.size,0,none⟩)),is (.string (strOf s)),is (.string (cs true)),is (.string (strOf T2)),aeL OA wz.heap.size,ab3 OA wz.heap.size,is (.bool OA.isSome)] [[],[0],[],[2],[],[4],[4,5],[2,3,4,5,6],[0,1,2,3,4,5,6,7],[0,1,2,3,4,5,6,7,8],[0,1,2,3,4,5,6,7,8],[0,1,2,3,4,5,6,7,8,9,10]] (by kernel_rfl) ?_ ?_
    ·refine⟨?_,?_,?_,?_,?_,?_,?_,?_,?_,?_,?_,trivial⟩
     all_goals(intro t wq hbq hh K hK;simp only[filled,aj,upd,Have,is,any,row,pick,Act.put,List.setIfInBounds_toArray,List.set_cons_zero,List.set_cons_succ,Nat.reduceAdd,Nat.reduceEqDiff,reduceIte,List.tail_cons,List.headD_cons]at hh hK⊢)
     ·clear hh
      go_simp
      exact hK _ _ (Below.refl _ _) rfl
     ·have e0:=hh.1
      clear hh
      simp only[e0]at hK⊢
      have hc:=(yh.out.below hbq).facts.1
      go_simp
      exact hK _ _ (Below.refl _ _) rfl
     ·clear hh
      go_simp
      exact hK _ _ (Below.refl _ _) rfl
     ·have e2:=hh.1
      clear hh
      simp only[e2]at hK⊢
      have hc:=(yh.out.below hbq).facts.2.1
      go_simp
      exact hK _ _ (Below.refl _ _) rfl
     ·clear hh
      go_simp
      exact hK _ _ (Below.refl _ _) rfl
     ·have e4:=hh.1
      clear hh
      simp only[e4]at hK⊢
      have hc:=(yh.out.below hbq).facts.1
      go_simp
      exact hK _ _ (Below.refl _ _) rfl
     ·have e5:=hh.2.1
      clear hh
      simp only[e5]at hK⊢
      go_simp
      refine(F9.out _).mono ?_
      rintro e w9 ⟨rfl,hw9⟩
      subst hw9
      exact hK _ _ (Below.refl _ _) rfl
     ·have e3:=hh.2.1
      have e6:=hh.2.2.2.2.1
      clear hh
      simp only[e3,e6]at hK⊢
      go_simp
      refine(HTR.out _).mono ?_
      rintro e w9 ⟨rfl,mG⟩
      exact hK _ _ mG rfl
     ·have e1:=hh.2.1
      have e7:=hh.2.2.2.2.2.2.2.1
      clear hh
      simp only[e1,e7]at hK⊢
      go_simp
      refine(HAU.out _ (HL.out.below (bel x9.out hbq)) (bY HT.out (bel x9.out hbq)) (HM.out.below (bel x9.out hbq))).mono ?_
      intro e w9 ha
      obtain⟨mG,A9,n9,c9,rfl,Tq⟩:=L6.ql ha
      exact hK _ _ mG ⟨A9,n9,c9,rfl,ay Tq hbq.size⟩
     ·have e8:=hh.2.2.2.2.2.2.2.2.1
      clear hh
      obtain⟨A8,n8,c8,e8,ho8⟩:=e8
      simp only[e8]at hK⊢
      go_simp
      exact hK _ _ (Below.refl _ _) ⟨_,_,_,rfl,ho8⟩
     ·have e8:=hh.2.2.2.2.2.2.2.2.1
      clear hh
      obtain⟨A8,n8,c8,e8,ho8⟩:=e8
      simp only[e8]at hK⊢
      go_simp
      exact hK _ _ (Below.refl _ _) rfl
    ·intro t wq hbq hh
     have f9:=aB hh 9 (by decide)
     simp only[pick]at f9
     have f10:=aB hh 10 (by decide)
     simp only[pick]at f10
     replace f10:t 10=(.bool OA.isSome):=f10
     clear hh
     simp only[filled,aj,upd,Have,is,any,row,pick,Act.put,List.setIfInBounds_toArray,List.set_cons_zero,List.set_cons_succ,Nat.reduceAdd,Nat.reduceEqDiff,reduceIte]
     obtain⟨A9,n9,c9,f9,Tq⟩:=f9
     simp only[f9,f10]
     have yj:=hid (CP.out.below hbq)
     have Et:=hid (bel x9.out hbq)
     have Ak:=hid Tq
     clear Tq hbq
     refine aC yj.out ((OA).getD U0) A9 n9 c9 (.tmp 4) (.tmp 63) rfl rfl rfl rfl ?_
     go_wp2
     try simp only[Exit.inBlock,Exit.then]
     have ho:=ay (gU.aN (w':=World.setRow wq (w.heap.size+1) (cells ((OA).getD U0) (.slice A9 n9 c9))) (gb:=(w.heap.size+1)) (Ak.out) (fun k hk=>setRow_other _ _ _ _ hk) iy.out) (by have h1:=bP.out;have h2:=iy.out;omega:w.heap.size≤_)
     refine bodyPost_ret (w:=World.setRow wq (w.heap.size+1) (cells ((OA).getD U0) (.slice A9 n9 c9))) (res2 (u:=(OA).getD U0) (p:=.slice A9 n9 c9) rfl (yj.out.row _ _) (OA).isSome _ rfl rfl) rfl ?_
     rw[mX.out]
     exact L6.qM (below_setRow Et.out bP.out _) ho
  |false=>
   rw[hsp]at wC
   go_wp2_with fail
   refine(wC.out _).mono ?_
   rintro e wx ⟨rfl,hwx⟩
   obtain rfl:w1=wx:=by first|exact hwx|exact hwx.symm
   clear hwx
   by_cases h0:s=[]
   ·
    have qc:Hid (O=none):=by show _=_;rw[HO.out,if_neg hs1,if_neg (by rw[hsp];simp),if_neg (by simp[h0])]
    have Z9:((strOf s).toList==[])=true:=by rw[aK,h0];first|done|rfl
    have aac:(strOf s).toList=[]:=by rw[aK,h0];first|done|rfl
    clear h0 hsp hs1
    go_wp2_with (refine aC aW.out U0 none 0 0 (.tmp 4) (.tmp 76) rfl rfl rfl rfl ?_)
    try simp only[Exit.inBlock,Exit.then]
    exact bodyPost_ret (w:=World.setRow w1 (w.heap.size+1) (cells U0 (.slice none 0 0))) (res2 (u:=U0) (p:=.slice none 0 0) rfl (aW.out.row U0 _) false _ rfl rfl) rfl (kH qc.out (below_setRow bM.out bP.out _))
   ·
    have mX:Hid (O=wS.plain ⟨s,rt,q,f,hq,hf⟩):=by show _=_;rw[HO.out,if_neg hs1,if_neg (by rw[hsp];simp),if_pos h0]
    have Z9:((strOf s).toList==[])=false:=by rw[aK,beq_eq_false_iff_ne];exact h0
    have aac:¬(strOf s).toList=[]:=by rw[aK];exact h0
    have e2:(strOf s).toList.isEmpty=false:=by rw[aK];simpa using h0
    clear h0 hsp hs1
    go_wp2_with fail
    refine(vW.out _ (HL.out.below bM.out) (bY HT.out bM.out) (HM.out.below bM.out)).mono ?_
    rintro e w2 ⟨hbx,u',A',n',c',ok,rfl,hown,yK⟩
    have iy:Hid ((w.heap.size+1)<w1.heap.size):=aW.out.lt
    have HOW:=hid hown
    have F8:=hid yK
    clear hown yK
    have jE:=hid (dF.out.below hbx)
    have bK:=hid (aW.out.below hbx)
    have eX:=hid (bel bM.out hbx)
    have Ib:Hid (w.heap.size≤w1.heap.size):=bM.out.size
    clear dF aW bM
    clear hbx
    go_wp2_with (refine aC bK.out u' A' n' c' (.tmp 4) (.tmp 71) rfl rfl rfl rfl ?_)
    try simp only[Exit.inBlock,Exit.then]
    exact bodyPost_ret (w:=World.setRow w2 (w.heap.size+1) (cells u' (.slice A' n' c'))) (res2 (u:=u') (p:=.slice A' n' c') rfl (bK.out.row u' _) ok _ rfl rfl) rfl ⟨below_setRow eX.out bP.out _,u',A',n',c',ok,rfl,(HOW.out.row iy.out _).base Ib.out,by rw[mX.out];exact F8.out⟩
end Go.Proofs.YtgamccijegollaaGreatDoor.akb
namespace Go.Proofs.YtgamccijegollaaGreatDoor.vZ
open Go.RowKit Base Dp qh BI acU wS acr
def rD (w:World):Prop:=Lib.Utf8Tabs 0 1 w
theorem rD.below {w w':World} (h:rD w) (hb:Below w.heap.size w w'):rD w':=Utf8Tabs_below h hb
theorem le_any (x:Int) (w:World):Calls Tryz.prog 61 #[.int .i32 x] w fun e w'=>e=.returned (.bool (decide (x≤32)))∧w'=w:=by
 go_enter Tryz.func61,Tryz.ntmps61
 go_wp2
 go_ret
 exact⟨rfl,rfl⟩
theorem alb (x:Int) (w:World):Calls Tryz.prog 63 #[.int .i32 x] w fun e w'=>e=.returned (.int .i32 (fz x))∧w'=w:=by
 obtain⟨y,hy⟩:∃y,y=fz x:=⟨_,rfl⟩
 rw[←hy]
 have HY:=hid hy
 clear hy
 by_cases h9:x=9
 ·subst h9
  go_enter Tryz.func63,Tryz.ntmps63
  go_wp2
  go_ret
  exact⟨by rw[HY.out];rfl,rfl⟩
 by_cases h10:x=10
 ·subst h10
  go_enter Tryz.func63,Tryz.ntmps63
  go_wp2
  go_ret
  exact⟨by rw[HY.out];rfl,rfl⟩
 by_cases h13:x=13
 ·subst h13
  go_enter Tryz.func63,Tryz.ntmps63
  go_wp2
  go_ret
  exact⟨by rw[HY.out];rfl,rfl⟩
 have q1:(x==9)=false:=beq_eq_false_iff_ne.2 h9
 have q2:(x==10)=false:=beq_eq_false_iff_ne.2 h10
 have q3:(x==13)=false:=beq_eq_false_iff_ne.2 h13
 have HE:Hid (y=x):=by show _=_;rw[HY.out];simp[fz,bk,h9,h10,h13]
 go_enter Tryz.func63,Tryz.ntmps63
 go_wp2
 go_ret
 exact⟨by rw[HE.out];rfl,rfl⟩
theorem pred (w:World):PredAt Tryz.prog 61 #[] encR pn w:=fun W x _=>(le_any (x:Int) W).mono fun e w' ⟨h1,h2⟩=>⟨by rw[h1];unfold pn;congr 2;rw[decide_eq_decide];omega,0,h2⟩
theorem maps (w:World):MapGrows Tryz.prog 63 #[] fz w:=fun W x _ _=>(alb (x:Int) W).mono fun e w' ⟨h1,h2⟩=>⟨h1,by rw[h2];exact Below.refl _ _⟩
theorem trI_len (l:List Int):(XM l).length≤l.length:=by
 unfold XM
 rw[List.length_reverse]
 refine Nat.le_trans (List.dropWhile_sublist _).length_le ?_
 rw[List.length_reverse]
 exact(List.dropWhile_sublist _).length_le
theorem clean_any (T:List UInt8) (w:World) (hs:T.length≤1000000) (hU:rD w):Calls Tryz.prog 19 #[.string (strOf T)] w fun e w'=>e=.returned (.string (strOf (clean T)))∧Below w.heap.size w w':=by
 have hlen:(enc (dec T)).length≤3*T.length:=yF.Dk _ T (Nat.le_refl _)
 have hdl:(dec T).length≤3000000:=by have:=(iW (dec T)).2;omega
 have hru:∀r ∈ dec T,agX r:=fun r hr=>by have:=zU T r hr;unfold Cc at this;unfold agX;omega
 have htl:(enc (XM (dec T))).length≤12000000:=by have h1:=(iW (XM (dec T))).1;have h2:=trI_len (dec T);omega
 have hcc:=adb T
 rw[Sr _ (zU T)]at hcc
 have hT:∀w:World,rD w→Calls Tryz.prog 60 #[.string (strOf (enc (dec T))),.func (.func 61) #[] #[]] w fun e w'=>e=.returned (.string (strOf (enc (XM (dec T)))))∧Below w.heap.size w w':=fun w h=>by
  have:=Tryz.strings_TrimFunc 61 #[] (enters_of Tryz.func61 (by kernel_rfl) rfl) pn (strOf (enc (dec T))) w (by rw[o9];omega) h (pred w)
  rw[Sr _ (zU T)]at this
  exact this
 have hM:∀w:World,rD w→Calls Tryz.prog 62 #[.func (.func 63) #[] #[],.string (strOf (enc (XM (dec T))))] w fun e w'=>e=.returned (.string (strOf (clean T)))∧Below w.heap.size w w':=fun w h=>by
  have:=Tryz.strings_Map 63 #[] (enters_of Tryz.func63 (by kernel_rfl) rfl) fz (strOf (enc (XM (dec T)))) w (by rw[o9];omega) (maps w) (fun x hx=>by unfold fz;split<;>omega) h
  rw[hcc]at this
  exact this
 have HT:=hid hT
 have HM:=hid hM
 have HU:=hid hU
 have HRU:=hid hru
 clear hT hM hU hcc hru htl
 have hsz:(strOf T).size≤1000000:=by rw[o9];exact hs
 have hcv:=fun(w:World) s=>run_bytes_of_string (P:=Tryz.prog) w 9 45 5 s Tryz.underlying9 Tryz.underlying45 Tryz.underlying5
 have Gh:Hid ((strOf T).size≤grownCap w (strOf T).size 0 5):=grownCap_ge w (strOf T).size 0 5
 go_enter Tryz.func19,Tryz.ntmps19
 go_wp2_with fail
 clear hcv
 refine(qh.decode_any _ (strOf T).size _ T _ (fV (strOf T) _ w 5) (by omega) Gh.out).mono ?_
 rintro e w2 ⟨v,rfl,hown,hb2⟩
 have HB2:Hid (Below w.heap.size w w2):=bel (((Below.refl w.heap.size w).alloc (Nat.le_refl _) _).drew) hb2
 clear hb2 Gh
 obtain⟨A,c,rfl,hc,hm,hr⟩:=aJ hown
 have HR:=hid hr
 clear hown hr
 go_wp2_with fail
 refine(BI.eF A _ c (dec T) _ HR.out HRU.out (by omega)).mono ?_
 rintro e w3 ⟨v,rfl,hown,hb3⟩
 have HB3:=hid (bel HB2.out hb3)
 clear hb3 HR
 obtain⟨A3,c3,rfl,hc3,hm3,hr3⟩:=aJ hown
 have hst:=aF 45 9 5 Tryz.underlying45 Tryz.underlying5 Tryz.underlying9 _ c3 hr3
 clear hown hr3
 go_wp2_with fail
 clear hst
 refine(HT.out _ (HU.out.below HB3.out)).mono ?_
 rintro e w4 ⟨rfl,hb4⟩
 have HB4:=hid (bel HB3.out hb4)
 clear hb4
 go_wp2_with fail
 refine(HM.out _ (HU.out.below HB4.out)).mono ?_
 rintro e w5 ⟨rfl,hb5⟩
 have iG:=hid (bel HB4.out hb5)
 clear hb5
 go_wp2
 go_ret
 exact⟨rfl,iG.out⟩
end Go.Proofs.YtgamccijegollaaGreatDoor.vZ
namespace Go.Proofs.YtgamccijegollaaGreatDoor.WQ
open Go.RowKit Base L6 Dp dI cO acv ac2 acD aco wS yw tN Fp mW Pbx tK yx jQ sU pO acr vZ TI akb
theorem Kv (C:List UInt8):(wS.apart C).rest.length≤C.length∧(wS.apart C).dY.length≤C.length∧(wS.apart C).fB.length≤C.length:=by
 have h1:=rH 35 C
 have h2:=rH 63 (fG 35 C).1
 have h3:=rH 58 (fG 63 (fG 35 C).1).1
 unfold wS.apart
 simp only
 split
 ·refine⟨?_,?_,?_⟩<;>simp only<;>omega
 refine⟨?_,?_,?_⟩<;>simp only<;>omega
theorem Gy (u:U) (p:Parts):(wS.finish u p).aO=u.aO:=by
 cases h1:p.hq<;>cases h2:p.hf<;>simp[wS.finish,h1,h2]
theorem aiw {fn:Func} {a b:Tmp} {w:World} {g:Nat} {u:U} {p:Value} (h:fn.results=#[.cell a 25,.tmp b]) (hU:UB w g u p) (z:Int) (tmps:Array Value) (h2:tmps.getD a undef=.pointer (some ⟨g,0,none⟩)) (h3:tmps.getD b undef=.int .i64 z):
  (results fn tmps).run Tryz.prog w=.ok (.tuple #[.agg (cells u p),.int .i64 z]) w:=by
 have hp':tmps[a]?.getD undef=.pointer (some ⟨g,0,none⟩):=by simpa using h2
 have hq':tmps[b]?.getD undef=.int .i64 z:=by simpa using h3
 simp[results,h,hp',hq',asAddr,hU.load]
def xC (w:World) (o:Option U) (e:Ending) (w':World):Prop:=Below w.heap.size w w'∧∃A n c,e=.returned (.tuple #[.agg (cells (o.getD U0) (.slice A n c)),.int .i64 (if o.isSome=true then 0 else 2)])∧Own w w' (o.getD U0) A n c
theorem GY (T:List UInt8) (w:World) (hs:T.length≤65536) (hL:oI w) (hT:Tab.Pow w) (hM:Max w) (hU:rD w):Calls Tryz.prog 16 #[.string (strOf T),.pointer none] w (xC w (wS.url T none)):=by
 have hcl:=yF T
 obtain⟨C,hC⟩:∃x,x=clean T:=⟨_,rfl⟩
 rw[←hC]at hcl
 obtain⟨p,hp⟩:∃x,x=wS.apart C:=⟨_,rfl⟩
 have hpl:=Kv C
 rw[←hp]at hpl
 obtain⟨OR,hOR⟩:∃x,x=wS.resolve p none:=⟨_,rfl⟩
 obtain⟨OU,hOU⟩:∃x,x=wS.url T none:=⟨_,rfl⟩
 have HOU:Hid (OU=OR.map fun u=>wS.finish u p):=by show _=_;rw[hOU];unfold wS.url;rw[←hC,←hp,←hOR]
 rw[←hOU]
 have HCL:Hid (∀w:World,rD w→Calls Tryz.prog 19 #[.string (strOf T)] w fun e w'=>e=.returned (.string (strOf C))∧Below w.heap.size w w'):=fun w h=>by rw[hC];exact clean_any T w (by omega) h
 have HAP:Hid (∀w:World,Max w→Calls Tryz.prog 53 #[.string (strOf C)] w fun e w'=>e=.returned (.agg (bQ p))∧Below w.heap.size w w'):=fun w h=>by rw[hp];exact qm C w (by omega) h
 have HRS:Hid (∀w:World,oI w→Tab.Pow w→Max w→Calls Tryz.prog 54 #[.agg (bQ p),.pointer none] w (mO w OR)):=fun w a c d=>by rw[hOR];exact Yq p w (by omega) a c d
 have WC:Hid (∀(u:U) (A:Option Addr) (n c:Nat) (w:World),Calls Tryz.prog 55 #[.agg (cells u (.slice A n c)),.agg (bQ p)] w fun e w'=>e=.returned (.agg (cells (wS.finish u p) (.slice A n c)))∧Below w.heap.size w w'):=fun u A n c w=>Gx u p A n c w (by omega) (by omega)
 have hTI:¬((strOf T).size:Int)>65536:=by rw[o9];omega
 have atU:((strOf T).size:Int)≤65536:=by omega
 have HL:=hid hL
 have HT:=hid hT
 have HM:=hid hM
 have HUT:=hid hU
 clear hOU hOR hp hC hL hT hM hU hpl hcl
 obtain⟨s,rt,q,f,hq,hf⟩:=p
 go_enter Tryz.func16,Tryz.ntmps16
 go_upto_region 1 with(fail)
 generalize hw:World.alloc w _=w1
 have h1:UB w1 (w.heap.size) (U0) (.slice none 0 0)∧Below w.heap.size w w1:=by
  subst hw
  exact laid1 w _ _
 clear hw
 have bP:Hid (w.heap.size≤w.heap.size):=(Below.refl w.heap.size w).size
 have bM:=hid (bel (Below.refl w.heap.size w) h1.2)
 have aW:=hid h1.1
 clear h1
 go_wp2_with fail
 refine(HCL.out _ (HUT.out.below bM.out)).mono ?_
 rintro e w2 ⟨rfl,hbx⟩
 have bK:=hid (aW.out.below hbx)
 have eX:=hid (bel bM.out hbx)
 clear aW bM
 clear hbx
 go_wp2_with fail
 refine(HAP.out _ (HM.out.below eX.out)).mono ?_
 rintro e w3 ⟨rfl,hbx⟩
 have bD:=hid (bK.out.below hbx)
 have cZ:=hid (bel eX.out hbx)
 clear bK eX
 clear hbx
 rw[show Value.agg (bQ ⟨s,rt,q,f,hq,hf⟩)=.agg #[.string (strOf s),.string (strOf rt),.string (strOf q),.string (strOf f),.bool hq,.bool hf]from rfl]
 go_upto_region 4 with(fail)
 generalize hw:World.alloc w3 _=w4
 have h1:PB w4 (w3.heap.size) (⟨s,rt,q,f,hq,hf⟩)∧Below w3.heap.size w3 w4:=by
  subst hw
  exact laid1 w3 _ _
 clear hw
 have hlr:=bD.out.lt
 have J9:Hid (w.heap.size≠w3.heap.size):=by show _≠_;omega
 have J8:Hid (w3.heap.size≠w.heap.size):=by show _≠_;omega
 clear hlr
 have WL:Hid (w.heap.size≤w3.heap.size):=cZ.out.size
 have bF:=hid (bD.out.below h1.2)
 have dD:=hid (bel cZ.out h1.2)
 have kT:=hid h1.1
 clear bD cZ
 clear h1
 obtain⟨p0,p1,p2,p3,p4,p5⟩:=kT.out.facts
 go_wp2_with fail
 clear p0 p1 p2 p3 p4 p5
 refine(HRS.out _ (HL.out.below dD.out) (bY HT.out dD.out) (HM.out.below dD.out)).mono ?_
 rintro e w5 ⟨hbx,u',A',n',c',ok,rfl,hown,yK⟩
 have iy:Hid (w.heap.size<w4.heap.size):=bF.out.lt
 have Ib:Hid (w.heap.size≤w4.heap.size):=dD.out.size
 have bH:=hid (bF.out.below hbx)
 have mF:=hid (kT.out.below hbx)
 have fC:=hid (bel dD.out hbx)
 have F8:=hid yK
 have ajR:=hid (show Own w4 w5 u' A' n' c' from hown)
 clear yK hown
 clear bF kT dD
 clear hbx
 rw[show Value.agg (cells u' (.slice A' n' c'))=.agg #[.string (strOf u'.au),.string (strOf u'.usr),.string (strOf u'.MX),.string (strOf u'.hst),.bool u'.hh,.int .i64 u'.port,.bool u'.opq,.string (strOf u'.txt),.slice A' n' c',.bool u'.hq,.bool u'.hf,.string (strOf u'.dY),.string (strOf u'.fB)]from rfl]
 go_upto_region 5 with(fail)
 generalize hw:World.alloc w5 _=w6
 have h1:UB w6 (w5.heap.size) (u') (.slice A' n' c')∧Below w5.heap.size w5 w6:=by
  subst hw
  exact laid1 w5 _ _
 clear hw
 have hlr:=bH.out.lt
 have aX:Hid (w.heap.size≠w5.heap.size):=by show _≠_;omega
 have nO:Hid (w5.heap.size≠w.heap.size):=by show _≠_;omega
 clear hlr
 have hlp:=mF.out.lt
 have jf:Hid (w3.heap.size≠w5.heap.size):=by show _≠_;omega
 have Ko:Hid (w5.heap.size≠w3.heap.size):=by show _≠_;omega
 clear hlp
 have fK:Hid (w.heap.size≤w5.heap.size):=fC.out.size
 have bT:=hid (bH.out.below h1.2)
 have yg:=hid (mF.out.below h1.2)
 have gq:=hid (bel fC.out h1.2)
 have bG:=hid h1.1
 have HBU:=hid h1.2
 clear bH mF fC
 clear h1
 skip
 cases ok with
 |false=>
  have qc:Hid (OU=none):=by
   show _=_
   rcases F8.out with⟨_,h⟩|⟨h,_⟩
   ·cases h
   rw[HOU.out,h];rfl
  go_wp2_with (refine aC bT.out U0 none 0 0 (.tmp 4) (.tmp 24) rfl rfl rfl rfl ?_)
  try simp only[Exit.inBlock,Exit.then]
  refine bodyPost_ret (w:=World.setRow w6 w.heap.size (cells U0 (.slice none 0 0))) (aiw (u:=U0) (p:=.slice none 0 0) rfl (bT.out.row U0 _) 2 _ rfl rfl) rfl ?_
  rw[qc.out]
  exact⟨below_setRow gq.out bP.out _,none,0,0,rfl,wY _ _ rfl⟩
 |true=>
  have HSO:Hid (OU=some (wS.finish u' ⟨s,rt,q,f,hq,hf⟩)):=by
   show _=_
   rcases F8.out with⟨h,_⟩|⟨_,h,_⟩
   ·rw[HOU.out,h];rfl
   cases h
  have hfp:(wS.finish u' ⟨s,rt,q,f,hq,hf⟩).aO=u'.aO:=Gy _ _
  obtain⟨d0,d1,d2,d3,d4,d5,d6,d7,d8,d9,d10,d11,d12⟩:=bG.out.facts
  obtain⟨p0,p1,p2,p3,p4,p5⟩:=yg.out.facts
  go_wp2_with fail
  clear d0 d1 d2 d3 d4 d5 d6 d7 d8 d9 d10 d11 d12
  clear p0 p1 p2 p3 p4 p5
  skip
  have Tf:Hid (Below w5.heap.size w5 w6):=HBU.out
  refine(WC.out u' A' n' c' _).mono ?_
  rintro e w7 ⟨rfl,hbx⟩
  have dQ:=hid (bT.out.below hbx)
  have HXpw7:=hid (yg.out.below hbx)
  have dO:=hid (bG.out.below hbx)
  have iU:=hid (bel gq.out hbx)
  clear bT yg bG gq
  have ajv:=hid hbx
  clear hbx
  have hwn:=(ajR.out.below Tf.out).below ajv.out
  go_wp2_with (refine aC dQ.out (wS.finish u' ⟨s,rt,q,f,hq,hf⟩) A' n' c' (.tmp 4) (.tmp 27) rfl rfl rfl rfl ?_)
  try simp only[Exit.inBlock,Exit.then]
  have ho:=(hwn.row iy.out (cells (wS.finish u' ⟨s,rt,q,f,hq,hf⟩) (.slice A' n' c'))).base Ib.out
  refine bodyPost_ret (w:=World.setRow w7 w.heap.size (cells (wS.finish u' ⟨s,rt,q,f,hq,hf⟩) (.slice A' n' c'))) (aiw (u:=wS.finish u' ⟨s,rt,q,f,hq,hf⟩) (p:=.slice A' n' c') rfl (dQ.out.row _ _) 0 _ rfl rfl) rfl ?_
  rw[HSO.out]
  exact⟨below_setRow iU.out bP.out _,A',n',c',rfl,by show Own _ _ (wS.finish u' ⟨s,rt,q,f,hq,hf⟩) _ _ _;unfold Own;rw[hfp];exact ho⟩
end Go.Proofs.YtgamccijegollaaGreatDoor.WQ
namespace Go.Proofs.YtgamccijegollaaGreatDoor.oN
open Go.RowKit Base cO acA acG WR acv acD aco acJ wS agU
def pl (l:List ByteArray):Nat:=(aZ.aO l).length
structure Fit (u:U) (N:Nat):Prop where
 all:u.au.length+u.usr.length+u.MX.length+u.hst.length+u.txt.length+u.dY.length+u.fB.length+pl u.aO≤N
 lo: -1≤u.port
 hi:u.port≤65535
theorem Fit.mono {u:U} {N M:Nat} (h:Fit u N) (hm:N≤M):Fit u M:=⟨Nat.le_trans h.all hm,h.lo,h.hi⟩
theorem Q5:pl []=0:=rfl
theorem X9 (l:List ByteArray) (s:ByteArray):pl (l++[s])=pl l+1+s.size:=by
 unfold pl
 rw[aZ.abf,List.length_append,List.length_cons,show s.data.toList.length=s.size from Array.length_toList]
 omega
theorem af6 (l:List ByteArray) (k:Nat):pl (l.take k)≤pl l:=by
 unfold pl
 rw[aZ.fM,aZ.fM,List.length_take]
 have:=aZ.pK l k
 omega
theorem aed (f:Bool) (l:List ByteArray):pl (mM f l)≤pl l:=by
 unfold mM
 split
 ·exact Nat.le_refl _
 exact af6 _ _
theorem wr_len (f:Bool) (L:List UInt8):(wr f L).length≤3*L.length+1:=by
 unfold wr
 split
 ·simp only[List.length_append,List.length_take,List.length_cons,List.length_nil];omega
 have:=FM.iW 4 L;omega
theorem amX (f last:Bool) (l:List ByteArray) (L:List UInt8):pl (Hu f last l L)≤pl l+3*L.length+2:=by
 have h0:(strOf ([]:List UInt8)).size=0:=rfl
 have h1:=aed f l
 unfold Hu
 split
 ·split
  ·rw[X9,h0];omega
  omega
 split
 ·split
  ·rw[X9,h0];omega
  omega
 have:=wr_len (f&&l.isEmpty) L
 rw[X9,o9]
 omega
theorem amY (f sp:Bool):∀(M:List UInt8) (l:List ByteArray) (b:List UInt8),pl (wb f sp l b M)≤pl l+3*(b.length+M.length)+2*(M.length+1)
 |[],l,b=>by
  have:=amX f true l b
  unfold wb
  simp only[List.length_nil]
  omega
 |c::M,l,b=>by
  unfold wb
  split
  ·have h1:=amY f sp M (Hu f false l b) []
   have h2:=amX f false l b
   simp only[List.length_nil,List.length_cons]at h1⊢
   omega
  ·have h1:=amY f sp M l (b++[c])
   simp only[List.length_append,List.length_nil,List.length_cons]at h1⊢
   omega
theorem EP (au:List UInt8) (l:List ByteArray) (s:List UInt8):pl (walk au l s)≤pl l+5*s.length+2:=by
 have:=amY (decide (au=FILE)) (special au) s l []
 unfold walk
 simp only[List.length_nil]at this
 omega
theorem yV (au s:List UInt8):pl (rooted au s)≤5*s.length+2:=by
 unfold rooted
 split
 ·rw[Q5];omega
 have h:=EP au [] (if rU (special au) s 0=true then s.drop 1 else s)
 have h2:(if rU (special au) s 0=true then s.drop 1 else s).length≤s.length:=by
  split
  ·rw[List.length_drop];omega
  exact Nat.le_refl _
 rw[Q5]at h
 omega
theorem zT (b:UInt8):∀L:List UInt8,(fG b L).1.length≤L.length∧(fG b L).2.1.length≤L.length
 |[]=>by simp[fG]
 |c::L=>by
  have h:=zT b L
  unfold fG
  split
  ·simp
  ·simp only[List.length_cons]
   omega
theorem Ip (b:UInt8):∀L:List UInt8,(fG b L).1.length+(fG b L).2.1.length≤L.length
 |[]=>by simp[fG]
 |c::L=>by
  have h:=Ip b L
  unfold fG
  split
  ·simp
  ·simp only[List.length_cons]
   omega
theorem QF:∀(L:List UInt8) (p:List UInt8×List UInt8),nV L=some p→p.1.length+p.2.length+1≤L.length
 |[],p,h=>by cases h
 | c :: L, p, h => by
  unfold nV at h
  split at h
  ·rename_i q hq
   have:=QF L q hq
   cases h
   simp only[List.length_cons]
   omega
  ·split at h
   ·cases h
    simp
   ·cases h
theorem ak1 (s:List UInt8):(jL s).1.length+(jL s).2.1.length+3*(jL s).2.2.1.length≤3*s.length:=by
 unfold jL
 split
 ·simp
 rename_i p hp
 have h1:=QF s p hp
 have h2:=Ip 58 p.1
 have h3:=FM.iW 5 (fG 58 p.1).1
 have h4:=FM.iW 5 (fG 58 p.1).2.1
 simp only
 omega
theorem prt_fit {au d:List UInt8} {z:Int} (h:prt au d=some z): -1≤z∧z≤65535:=by
 unfold prt at h
 split at h
 ·cases h;omega
 split at h
 ·split at h
  ·cases h;omega
  split at h
  ·cases h;omega
  cases h
 cases h
theorem qQ {au s:List UInt8} {u:U} {N:Nat} (h:authority au s=some u) (hN:au.length+5*s.length+300≤N):Fit u N:=by
 unfold authority at h
 obtain⟨_,h⟩:=jY h
 obtain⟨_,h⟩:=jY h
 have hw:(s.take (upto (special au) s)).length+(s.drop (upto (special au) s)).length=s.length:=by rw[List.length_take,List.length_drop];omega
 have hc:=ak1 (s.take (upto (special au) s))
 have hh:=tN.EJ (jL (s.take (upto (special au) s))).2.2.1 false
 have hr:=yV au (s.drop (upto (special au) s))
 split at h
 ·rename_i H p e1 e2
  have h1:=J5.aaA e1
  have h2:=prt_fit e2
  cases h
  refine⟨?_,h2.1,h2.2⟩
  simp only[U0,List.length_nil]
  omega
 cases h
theorem adK {b:U} {N M:Nat} (hb:Fit b M) (l:List ByteArray) (hl:M+pl l≤N):Fit {aH b with aO:=l} N:=by
 have:=hb.all
 refine⟨?_,hb.lo,hb.hi⟩
 simp only[aH,U0,List.length_nil]
 omega
theorem Dv {b:U} {N M:Nat} (hb:Fit b M) (l:List ByteArray) (hl:M+(pl l - pl b.aO)≤N):Fit {aH b with aO:=l} N:=by
 have:=hb.all
 refine⟨?_,hb.lo,hb.hi⟩
 simp only[aH,U0,List.length_nil]
 omega
theorem UK {b:U} {M:Nat} (hb:Fit b M):Fit (along (aH b) b) M:=by
 have:=hb.all
 refine⟨?_,hb.lo,hb.hi⟩
 simp only[along,aH,U0,List.length_nil]
 omega
theorem Ju {r:List UInt8} {b u:U} {N M:Nat} (h:relative r b=some u) (hb:Fit b M) (hN:M+5*r.length+300≤N):Fit u N:=by
 have hd:=List.length_drop (i:=2) (l:=r)
 have hw:=(List.dropWhile_sublist (gB true) (l:=r.drop 2)).length_le
 unfold relative at h
 split at h
 ·refine qQ h ?_
  have:=hb.all
  split<;>omega
 injection h with h
 subst h
 split
 ·have:=yV b.au r
  exact adK hb _ (by omega)
 split
 ·exact(UK hb).mono (by omega)
 have h1:=EP b.au (mM false b.aO) r
 have h2:=aed false b.aO
 exact Dv hb _ (by omega)
theorem SC (l:List ByteArray) {N:Nat} (H:List UInt8) (hl:4+pl l+H.length≤N):Fit {uF with hst:=H,aO:=l} N:=by
 refine⟨?_,?_,?_⟩<;>simp[uF,U0,FILE]
 omega
theorem far_fit {s:List UInt8} {u:U} {N:Nat} (h:far s=some u) (hN:5*s.length+300≤N):Fit u N:=by
 have h1:=yV FILE s
 have h2:=yV FILE (s.drop (upto true s))
 have h3:(s.take (upto true s)).length+(s.drop (upto true s)).length=s.length:=by rw[List.length_take,List.length_drop];omega
 unfold far at h
 split at h
 ·cases h;exact SC _ [] (by simp only[List.length_nil];omega)
 split at h
 ·cases h;exact SC _ [] (by simp only[List.length_nil];omega)
 split at h
 ·cases h
 rename_i H e
 have h5:=J5.aaA e
 cases h
 refine SC _ _ ?_
 split
 ·simp only[List.length_nil];omega
 omega
theorem aak {r:List UInt8} {base:Option U} {u:U} {N M:Nat} (h:file r base=some u) (hb:∀b,base=some b→Fit b M) (hN:M+5*r.length+300≤N):Fit u N:=by
 unfold file at h
 split at h
 ·refine far_fit h ?_
  rw[List.length_drop];omega
 split at h
 ·injection h with h
  subst h
  have h1:∀(q:Prop) [Decidable q] (x:List ByteArray),pl (if q then x.take 1 else[])≤pl x:=by
   intro q _ x
   split
   ·exact af6 _ _
   rw[Q5];omega
  have hd:=List.length_drop (i:=1) (l:=r)
  cases base with
  |none=>
   have h2:=EP FILE (if nrm ((Option.elim none [] U.aO).head?.elim [] fun x=>x.data.toList)=true∧JR (r.drop 1)=false then(Option.elim none [] U.aO).take 1 else[]) (r.drop 1)
   have h3:=h1 (nrm ((Option.elim none [] U.aO).head?.elim [] fun x=>x.data.toList)=true∧JR (r.drop 1)=false) (Option.elim none [] U.aO)
   have h4:pl (Option.elim none [] U.aO)=0:=rfl
   exact SC _ [] (by simp only[List.length_nil];omega)
  |some b=>
   have hb:=hb b rfl
   have h2:=EP FILE (if nrm ((Option.elim (some b) [] U.aO).head?.elim [] fun x=>x.data.toList)=true∧JR (r.drop 1)=false then(Option.elim (some b) [] U.aO).take 1 else[]) (r.drop 1)
   have h3:=h1 (nrm ((Option.elim (some b) [] U.aO).head?.elim [] fun x=>x.data.toList)=true∧JR (r.drop 1)=false) (Option.elim (some b) [] U.aO)
   have h4:pl (Option.elim (some b) [] U.aO)=pl b.aO:=rfl
   exact Dv hb _ (by omega)
 split at h
 ·injection h with h
  subst h
  have h1:pl (if JR r=true then[]else mM true [])=0:=by split<;>rfl
  have h2:=EP FILE (if JR r=true then[]else mM true []) r
  exact SC _ [] (by simp only[List.length_nil];omega)
 rename_i b
 have hb:=hb b rfl
 split at h
 ·injection h with h
  subst h
  exact(UK hb).mono (by omega)
 injection h with h
 subst h
 have h1:pl (if JR r=true then[]else mM true b.aO)≤pl b.aO:=by
  split
  ·rw[Q5];omega
  exact aed _ _
 have h2:=EP FILE (if JR r=true then[]else mM true b.aO) r
 exact Dv hb _ (by omega)
theorem opq_len (m:Bool) (s:List UInt8):(wS.opq m s).length≤3*s.length+3:=by
 have h:=FM.iW 0 s
 unfold wS.opq Lib.trimSuffix
 split
 ·rw[List.length_append]
  split
  ·rw[List.length_take];simp only[List.length_cons,List.length_nil];omega
  simp only[List.length_cons,List.length_nil];omega
 omega
theorem aie {p:Parts} {u:U} {N:Nat} (h:wS.plain p=some u) (hN:p.au.length+5*p.rest.length+300≤N):Fit u N:=by
 have hd:=List.length_drop (i:=2) (l:=p.rest)
 unfold wS.plain at h
 split at h
 ·exact qQ h (by omega)
 split at h
 ·injection h with h
  subst h
  have h1:=yV p.au p.rest
  refine⟨?_,?_,?_⟩<;>simp[U0]
  omega
 injection h with h
 subst h
 have h1:=opq_len (p.hq||p.hf) p.rest
 refine⟨?_,?_,?_⟩<;>simp[U0,Q5]
 omega
theorem abq {p:Parts} {base:Option U} {u:U} {N M:Nat} (h:wS.resolve p base=some u) (hb:∀b,base=some b→Fit b M) (hN:M+p.au.length+5*p.rest.length+300≤N):Fit u N:=by
 have hw:=(List.dropWhile_sublist (gB true) (l:=p.rest)).length_le
 unfold wS.resolve at h
 split at h
 ·refine aak h (fun b e=>hb b ?_) (by omega)
  cases base with
  |none=>cases e
  |some c=>
   simp only[Option.filter]at e
   split at e
   ·exact e
   cases e
 split at h
 ·split at h
  ·split at h
   ·exact Ju h (hb _ rfl) (by omega)
   exact qQ h (by omega)
  exact qQ h (by omega)
 split at h
 ·exact aie h (by omega)
 split at h
 ·cases h
 rename_i b
 have hb1:=hb b rfl
 split at h
 ·unfold rY at h
  obtain⟨_,h⟩:=jY h
  injection h with h
  subst h
  exact hb1.mono (by omega)
 split at h
 ·exact aak h (fun c e=>by injection e with e;subst e;exact hb1) (by omega)
 exact Ju h hb1 (by omega)
theorem ady {u:U} {p:Parts} {N M:Nat} (h:Fit u M) (hN:M+3*p.dY.length+3*p.fB.length≤N):Fit (finish u p) N:=by
 have h1:=FM.iW (if special u.au=true then 3 else 2) p.dY
 have h2:=FM.iW 1 p.fB
 obtain⟨a,b,c⟩:=h
 unfold finish
 cases p.hq<;>cases p.hf<;>refine⟨?_,?_,?_⟩<;>simp only[if_true,if_false,Bool.false_eq_true]<;>first|assumption|omega
theorem ag5 (C:List UInt8):(wS.apart C).au.length+(wS.apart C).rest.length+(wS.apart C).dY.length+(wS.apart C).fB.length≤C.length:=by
 have h1:=Ip 35 C
 have h2:=Ip 63 (fG 35 C).1
 have h3:=Ip 58 (fG 63 (fG 35 C).1).1
 unfold wS.apart
 simp only
 split
 ·simp only[lower,List.length_map];omega
 simp only[List.length_nil];omega
theorem AZ {s:List UInt8} {base:Option U} {u:U} {M:Nat} (h:wS.url s base=some u) (hb:∀b,base=some b→Fit b M):Fit u (M+15*s.length+300):=by
 have h1:=acr.yF s
 have h2:=ag5 (clean s)
 unfold wS.url at h
 obtain⟨v,hv,rfl⟩:=Option.map_eq_some_iff.1 h
 exact ady (abq (N:=M+(wS.apart (clean s)).au.length+5*(wS.apart (clean s)).rest.length+300) hv hb (Nat.le_refl _)) (by omega)
end Go.Proofs.YtgamccijegollaaGreatDoor.oN
namespace Go.Proofs.YtgamccijegollaaGreatDoor.NJ
open Go.RowKit Base dI cO acA acG WR acv acD aco acJ J5 wS agU acK zD
theorem eP (L:List UInt8) (d c:UInt8):Lib.hasSuffix (L++[d]) [c]=decide (d=c):=by
 rw[Bool.eq_iff_iff]
 unfold Lib.hasSuffix
 rw[List.isSuffixOf_iff_suffix,decide_eq_true_iff]
 constructor
 ·rintro⟨t,e⟩
  exact(List.append_inj' e rfl).2|>fun h=>(List.cons.inj h).1.symm
 rintro rfl
 exact⟨L,rfl⟩
theorem jC (L:List UInt8):L=[]∨∃M d,L=M++[d]:=by
 rcases List.eq_nil_or_concat L with h|⟨M,d,h⟩
 ·exact .inl h
 exact .inr ⟨M,d,by simpa using h⟩
end Go.Proofs.YtgamccijegollaaGreatDoor.NJ
namespace Go.Proofs.YtgamccijegollaaGreatDoor.wo
open Go.RowKit Base dI cO oO wu WU akq acA acG WR acv acD aco acJ WJ J5 wS agU acK NJ zD
def KU (u:U):List UInt8:=aZ.ug (strOf u.usr) (strOf u.MX) (strOf u.hst) u.hh u.port u.opq u.aO
def Bl (u:U):List UInt8:=aZ.wH (strOf u.au) (strOf u.usr) (strOf u.MX) (strOf u.hst) u.hh u.port u.opq (strOf u.txt) u.aO u.hq (strOf u.dY)
theorem yD (u:U):Bl u=u.au++[58]++KU u++aZ.pF u.opq (strOf u.txt) u.aO++(if u.hq then 63::u.dY else[]):=rfl
def HC (c:UInt8):Prop:=c≠47∧c≠92∧c≠64∧c≠63∧c≠35∧33≤c.toNat∧c.toNat≤126
instance (c:UInt8):Decidable (HC c):=by unfold HC;exact inferInstance
theorem Dc {T:List UInt8} (h:∀c ∈ T,32≤c.toNat∧c.toNat≤126) (h1:∃c t,T=c::t∧fO c=false) (h2:Lib.hasSuffix T [32]=false):clean T=T:=by
 have e:ED T=T:=oL T fun c hc=>by have:=(h c hc).2;omega
 have et:ru T=T:=by
  obtain⟨c,t,rfl,hc⟩:=h1
  unfold ru
  rw[List.dropWhile_cons_of_neg (by rw[hc];simp)]
  rcases jC (c::t)with hx|⟨M,d,hx⟩
  ·cases hx
  rw[hx]at h h2⊢
  rw[eP,decide_eq_false_iff_not]at h2
  have hd:fO d=false:=by
   have:=(h d (by simp)).1
   unfold fO
   rw[decide_eq_false_iff_not]
   intro h3
   exact h2 (UInt8.toNat_inj.1 (by show d.toNat=32;omega))
  rw[List.reverse_append]
  show((d::M.reverse).dropWhile fO).reverse=_
  rw[List.dropWhile_cons_of_neg (by rw[hd];simp)]
  simp
 rw[rG,e,et,List.filter_eq_self.2 fun c hc=>?_]
 have:=(h c hc).1
 unfold brk
 have h9:c≠9:=by rintro rfl;revert this;decide
 have h10:c≠10:=by rintro rfl;revert this;decide
 have h13:c≠13:=by rintro rfl;revert this;decide
 simp[h9,h10,h13]
end Go.Proofs.YtgamccijegollaaGreatDoor.wo
namespace Go.Proofs.YtgamccijegollaaGreatDoor.Wx
open Go.RowKit Base Dp
theorem sizeB:(Tryz.prog.info? 168).map (·.size)=some 2:=by kernel_rfl
theorem liesB:liesAt Tryz.prog Tryz.prog.depth 168 (2 / Tryz.prog.cellsOf 168) 0 168 1=true:=by kernel_rfl
abbrev lq (B b:Nat) (l:List UInt8) (w:World):Prop:=Lib.IsBuilder 168 5 B b (Lib.byteCells l) w
theorem PY (b:Nat) (w:World) (h0:w.cell? ⟨b,0,none⟩=some (.pointer (some ⟨b,0,none⟩))):
  Calls Tryz.prog 209 #[.pointer (some ⟨b,0,none⟩)] w fun e w'=>e=.returned (.tuple #[])∧w'=w:=by
 obtain⟨j,hj,_⟩:=Option.map_eq_some_iff.1 sizeB
 go_enter Tryz.func209,Tryz.ntmps209
 go_wp2
 rw[Lib.run_neq_ptr_same w _ Tryz.underlying166 hj]
 go_wp2
 go_end0
 exact⟨rfl,rfl⟩
theorem MJ (b:Nat) (w:World) (h0:w.cell? ⟨b,0,none⟩=some (.pointer none)) (hsh:w.shape? b=some (168,2)) (hfz:w.frozen? ⟨b,0,none⟩=false):
  Calls Tryz.prog 209 #[.pointer (some ⟨b,0,none⟩)] w fun e w'=>e=.returned (.tuple #[])∧w'=w.setCell ⟨b,0,none⟩ (.pointer (some ⟨b,0,none⟩)):=by
 obtain⟨j,hj,hjs⟩:=Option.map_eq_some_iff.1 sizeB
 go_enter Tryz.func209,Tryz.ntmps209
 go_wp2
 rw[Lib.run_to_unsafe w ⟨b,0,none⟩ Tryz.underlying166 Tryz.underlying287 hj (by rw[hjs];decide) hsh (Nat.zero_lt_succ 1)]
 simp only[Result.andThen]
 rw[Oper.upon_value]
 go_wp2
 rw[run_callFunc_extern Tryz.func276 (by kernel_rfl) (by kernel_rfl) (by kernel_rfl) (e:=Extern.AbiNoEscape.same) (by kernel_rfl)]
 rw[Lib.run_noEscape]
 simp only[Result.andThen]
 rw[Oper.upon_value]
 go_wp2
 rw[Lib.run_from_unsafe w ⟨b,0,none⟩ Tryz.underlying287 Tryz.underlying166 hj hsh liesB]
 simp only[Result.andThen]
 rw[Oper.upon_value]
 go_wp2
 go_end0
 exact⟨rfl,rfl⟩
theorem check_any (B b:Nat) (bs:List Value) (w:World) (h:Lib.IsBuilder 168 5 B b bs w):
  Calls Tryz.prog 209 #[.pointer (some ⟨b,0,none⟩)] w fun e w'=>e=.returned (.tuple #[])∧(Lib.BuilderAt 168 5 B b (.pointer (some ⟨b,0,none⟩)) bs w'∧Below B w w'):=by
 rcases h with h|h
 ·refine(MJ b w h.cell0 h.shape h.frozen0).mono ?_
  rintro e w' ⟨rfl,rfl⟩
  exact⟨rfl,h.used _,(Below.refl B w).setCell (p:=⟨b,0,none⟩) h.1 _⟩
 ·refine(PY b w h.cell0).mono ?_
  rintro e w' ⟨rfl,rfl⟩
  exact⟨rfl,h,Below.refl B _⟩
theorem write_any (B b:Nat) (l:List UInt8) (s:ByteArray) (w:World) (h:lq B b l w) (hlen:l.length+s.size≤140737488355328) (hBw:B≤w.heap.size):
  Calls Tryz.prog 106 #[.pointer (some ⟨b,0,none⟩),.string s] w fun e w'=>e=.returned (.tuple #[.int .i64 s.size,.nilIface])∧lq B b (l++s.data.toList) w'∧Below B w w':=by
 obtain⟨i0,hi,hz0,hz1,hz2⟩:=info_parts iR
 have hlb:(Lib.byteCells l).length=l.length:=by simp[Lib.byteCells]
 have WE:=Base.hid hlb
 clear hlb
 go_enter Tryz.func106,Tryz.ntmps106
 go_wp2_with (refine(check_any B b _ _ h).mono ?_)
 rintro e w1 ⟨rfl,h1,hb1⟩
 obtain⟨hB,v,hbk,hown,hne⟩:=h1
 have c0:w1.cell? ⟨b,0,none⟩=some (.pointer (some ⟨b,0,none⟩)):=by rw[Lib.cell_of_heap hbk];rfl
 have c1:w1.cell? ⟨b,1,none⟩=some v:=by rw[Lib.cell_of_heap hbk];rfl
 go_wp2_with (at_builtin;refine Lib.wpList_append_own_string _ rfl _ _ 45 9 rfl B 5 i0 Tryz.underlying45 Tryz.underlying9 hi hz0 hz1 hz2 _ _ _ rfl hown s rfl ?c3 ?c4 ?c5 ?_)
 case c3=>have:=WE.out;unfold maxLen;omega
 case c4=>have:=WE.out;omega
 case c5=>have:=hb1.size;omega
 intro v' w2 hown' hgrow _
 have hlt:b<w1.heap.size:=(Array.getElem?_eq_some_iff.1 hbk).1
 have hb2:w2.heap[b]?=some (.cells #[.pointer (some ⟨b,0,none⟩),v] 168 (0,0)):=by
  rw[hgrow.block b hlt (fun e=>hne e.symm)]
  exact hbk
 have d0:w2.cell? ⟨b,0,none⟩=some (.pointer (some ⟨b,0,none⟩)):=by rw[Lib.cell_of_heap hb2];rfl
 have d1:w2.cell? ⟨b,1,none⟩=some v:=by rw[Lib.cell_of_heap hb2];rfl
 have f1:w2.frozen? ⟨b,1,none⟩=false:=Lib.frozen_of_heap hb2 1
 obtain⟨ao,n',cap,rfl⟩:∃ao n' cap,v'=.slice ao n' cap:=by
  rcases hown'.2 with⟨hv,_⟩|⟨g,cap,cur,hv,_⟩
  ·exact⟨_,_,_,hv⟩
  ·exact⟨_,_,_,hv⟩
 go_wp2
 go_ret2
 refine⟨rfl,Or.inr ?_,?_⟩
 ·have hp:=Lib.BuilderAt.put (T:=168) (e:=5) hB hb2 (bs':=Lib.byteCells l++Lib.strCells s) (by simpa[Lib.strCells_length]using hown') (by decide)
  have e:Lib.byteCells (l++s.data.toList)=Lib.byteCells l++Lib.strCells s:=by simp[Lib.byteCells,Lib.strCells]
  rw[e]
  exact hp
 ·exact(hb1.grown hgrow (by have:=hb1.size;omega) (fun k hk=>(hown.lt k hk).1)).setCell (p:=⟨b,1,none⟩) hB _
end Go.Proofs.YtgamccijegollaaGreatDoor.Wx
namespace Go.Proofs.YtgamccijegollaaGreatDoor.UrlB
open Go.RowKit Base Dp aZ Wx
theorem qL (B b:Nat) (l:List UInt8) (w:World) (h:lq B b l w) (hBw:B≤w.heap.size):
  Calls Tryz.prog 109 #[.pointer (some ⟨b,0,none⟩)] w fun e w'=>e=.returned (.string (strOf l))∧Below B w w':=Tryz.Builder_String B b l w h hBw
theorem ak0 (s0:ByteArray) (s1:ByteArray) (s2:ByteArray) (s3:ByteArray) (b4:Bool) (z5:Int) (b6:Bool) (s7:ByteArray) (A:Option Addr) (n cap:Nat) (l:List ByteArray) (b9:Bool) (b10:Bool) (s11:ByteArray) (s12:ByteArray) (w:World) (h1:s1.size≤1073741824) (h2:s2.size≤1073741824):
  Calls Tryz.prog 162 #[.agg #[.string s0,.string s1,.string s2,.string s3,.bool b4,.int .i64 z5,.bool b6,.string s7,.slice A n cap,.bool b9,.bool b10,.string s11,.string s12]] w fun e w'=>e=.returned (.string (strOf (lD s1 s2)))∧Below w.heap.size w w':=by
 have hl1:s1.data.toList.length=s1.size:=Array.length_toList
 have hl2:s2.data.toList.length=s2.size:=Array.length_toList
 by_cases e2:s2.data.toList=[]
 ·have q2:s2.toList=[]:=by rw[tl];exact e2
  have HC:Hid (lD s1 s2=if s1.data.toList=[]then[]else s1.data.toList++[64]):=if_pos e2
  by_cases e1:s1.data.toList=[]
  ·have q1:s1.toList=[]:=by rw[tl];exact e1
   have HC2:Hid (lD s1 s2=[]):=HC.out.trans (if_pos e1)
   clear e1 e2 hl1 hl2
   go_enter Tryz.func162,Tryz.ntmps162
   go_wp2
   go_ret
   exact⟨by rw[HC2.out];rfl,(Below.refl _ _).alloc (Nat.le_refl _) _⟩
  ·have q1:(s1.toList==[])=false:=by rw[tl];simpa using e1
   have q1':s1.toList.isEmpty=false:=by rw[tl];simpa using e1
   have HC2:Hid (lD s1 s2=s1.data.toList++[64]):=HC.out.trans (if_neg e1)
   have a1:∀w:World,(Op.stringOp .add s1 ⟨#[64]⟩).run Tryz.prog w=.ok (.string (strOf (s1.data.toList++[64]))) w:=fun w=>dL s1 ⟨#[64]⟩ w (by show s1.size+1≤_;omega)
   clear e1 e2 hl1 hl2
   go_enter Tryz.func162,Tryz.ntmps162
   go_wp2
   go_ret
   exact⟨by rw[HC2.out];rfl,(Below.refl _ _).alloc (Nat.le_refl _) _⟩
 ·have q2:(s2.toList==[])=false:=by rw[tl];simpa using e2
  have q2':s2.toList.isEmpty=false:=by rw[tl];simpa using e2
  have HC:Hid (lD s1 s2=s1.data.toList++[58]++s2.data.toList++[64]):=if_neg e2
  obtain⟨X,hX⟩:∃X,X=strOf (s1.data.toList++[58]):=⟨_,rfl⟩
  obtain⟨Y,hY⟩:∃Y,Y=strOf (s1.data.toList++[58]++s2.data.toList):=⟨_,rfl⟩
  have a1:∀w:World,(Op.stringOp .add s1 ⟨#[58]⟩).run Tryz.prog w=.ok (.string X) w:=fun w=>by rw[hX];exact dL s1 ⟨#[58]⟩ w (by show s1.size+1≤_;omega)
  have a2:∀w:World,(Op.stringOp .add X s2).run Tryz.prog w=.ok (.string Y) w:=fun w=>by rw[hX,hY];exact dL _ s2 w (by rw[o9,List.length_append];simp;omega)
  have a3:∀w:World,(Op.stringOp .add Y ⟨#[64]⟩).run Tryz.prog w=.ok (.string (strOf (lD s1 s2))) w:=fun w=>by rw[HC.out,hY];exact dL _ ⟨#[64]⟩ w (by rw[o9];simp;show _+1≤_;omega)
  clear e2 hl1 hl2 hX hY
  go_enter Tryz.func162,Tryz.ntmps162
  go_wp2
  go_ret
  exact⟨rfl,(Below.refl _ _).alloc (Nat.le_refl _) _⟩
theorem DU (s0:ByteArray) (s1:ByteArray) (s2:ByteArray) (s3:ByteArray) (b4:Bool) (z5:Int) (b6:Bool) (s7:ByteArray) (A:Option Addr) (n cap:Nat) (l:List ByteArray) (b9:Bool) (b10:Bool) (s11:ByteArray) (s12:ByteArray) (w:World) (hR:aY w A n (l.map Value.string)) (hnc:n≤cap) (hcm:cap≤maxLen) (h7:s7.size≤1073741824) (hl:(aO l).length≤1073741824):
  Calls Tryz.prog 67 #[.agg #[.string s0,.string s1,.string s2,.string s3,.bool b4,.int .i64 z5,.bool b6,.string s7,.slice A n cap,.bool b9,.bool b10,.string s11,.string s12]] w fun e w'=>e=.returned (.string (strOf (pF b6 s7 l)))∧Below w.heap.size w w':=by
 have hn:l.length=n:=by rw[←hR.1,List.length_map]
 have hpl:=fM l
 unfold maxLen at hcm
 cases b6 with
 |true=>
  clear hn hpl
  have HR:=hid hR
  clear hR
  go_enter Tryz.func67,Tryz.ntmps67
  go_wp2
  go_ret
  exact⟨rfl,(Below.refl _ _).alloc (Nat.le_refl _) _⟩
 | false=>
  have HR:=hid hR
  have HN:=hid hn
  have vW:=hid hpl
  have Ci:=hid hl
  clear hR hn hpl hl
  go_enter Tryz.func67,Tryz.ntmps67
  go_wp2
  generalize hw1:w.alloc _=w1
  have hb1:Below w.heap.size w w1:=by rw[←hw1];exact(Below.refl _ _).alloc (Nat.le_refl _) _
  have hs1:w1.heap.size=w.heap.size+1:=by rw[←hw1];simp
  clear hw1
  have HB0:Hid (lq (w.heap.size+1) (w.heap.size+1) [] (w1.alloc (.cells #[.pointer none,.slice none 0 0] 168))):=by
   have h:=Lib.fresh_isBuilder 168 5 w1
   rw[hs1]at h
   exact h
  go_loopw [5,13] (fun _ vk wr=>∃k:Nat,k≤n∧vk=.int .i64 (k:Int)∧Hid (lq (w.heap.size+1) (w.heap.size+1) (aO (l.take k)) wr)∧Hid (Below (w.heap.size+1) w1 wr)) (fun _ vk _=>n - (intOf vk).toNat)
  case atStart=>exact⟨0,Nat.zero_le _,rfl,HB0.out,(Below.refl _ _).alloc (by rw[hs1];exact Nat.le_refl _) _⟩
  case round=>
   obtain⟨k,hk,rfl,HB,Z4⟩:=hrel
   have hsz:w.heap.size+1≤wr.heap.size:=by have:=Z4.out.size;rw[hs1]at this;exact this
   by_cases hlt:k<n
   ·have hkl:k<l.length:=by rw[HN.out];exact hlt
    have hRr:=HR.out.below (hb1.trans (Z4.out.mono (by omega)))
    obtain⟨g,off,rfl,hg,hcell⟩:=hRr.spot (by omega)
    have hc:=hcell k (by rw[List.length_map];exact hkl)
    rw[List.getElem_map]at hc
    obtain⟨s,hs⟩:∃s,s=l[k]:=⟨_,rfl⟩
    have HS:Hid (l.take (k+1)=l.take k++[s]):=by rw[hs];exact take_snoc l k hkl
    rw[←hs]at hc
    have hsum:=AV l k hkl
    have IY:=pK l (k+1)
    have hpk:=fM (l.take k)
    rw[List.length_take,Nat.min_eq_left (by omega)]at hpk
    have hpl:=vW.out
    have hll:=Ci.out
    rw[←hs]at hsum
    have hss:s.size≤1073741824:=by omega
    have a1:∀w:World,(Op.stringOp .add ⟨#[47]⟩ s).run Tryz.prog w=.ok (.string (strOf ([47]++s.data.toList))) w:=fun w=>dL ⟨#[47]⟩ s w (by show 1+s.size≤_;omega)
    have HLEN:Hid ((aO (l.take k)).length+(1+s.size)≤140737488355328):=by show _≤_;omega
    clear hs hsum IY hpk hpl hll hRr hcell hkl
    go_wp2_with (refine(write_any _ _ _ _ _ HB.out (by rw[o9];have:=HLEN.out;simp at this⊢;omega) hsz).mono ?_;rintro e w3 ⟨rfl,HB3,hb3⟩)
    go_roundw
    case rel=>exact⟨k+1,by omega,by go_num,by
     rw[HS.out,abf]
     exact HB3,Z4.out.trans hb3⟩
    case measure=>simp[intOf];omega
   ·obtain rfl:k=n:=by omega
    have HT:Hid (l.take k=l):=List.take_of_length_le (by rw[HN.out];exact Nat.le_refl _)
    go_wp2_with (refine(qL _ _ _ _ HB.out hsz).mono ?_;rintro e w3 ⟨rfl,hb3⟩)
    go_ret
    exact⟨congrArg (fun X=>Ending.returned (.string (strOf (aO X)))) HT.out,hb1.trans ((Z4.out.trans hb3).mono (by omega))⟩
end Go.Proofs.YtgamccijegollaaGreatDoor.UrlB
namespace Go.Proofs.YtgamccijegollaaGreatDoor.Pg
open Go.RowKit Base Dp aZ Wx UrlB L6
def Box (w:World) (b:Nat) (c:Array Value):Prop:=w.heap[b]?=some (.cells c 25 (0,0))
theorem Box.cell {w:World} {b:Nat} {c:Array Value} (h:Box w b c) (i:Nat):w.cell? ⟨b,i,none⟩=c[i]?:=cell_of_row w b i _ _ _ h
theorem Box.below {w w':World} {B b:Nat} {c:Array Value} (h:Box w b c) (hb:Below B w w') (hB:b<B):Box w' b c:=(hb.block b hB).trans h
theorem kV {w:World} {b:Nat} {v0 v1 v2 v3 v4 v5 v6 v7 v8 v9 v10 v11 v12:Value} (h:Box w b #[v0,v1,v2,v3,v4,v5,v6,v7,v8,v9,v10,v11,v12]):
  w.cell? ⟨b,0,none⟩=some v0∧w.cell? ⟨b,1,none⟩=some v1∧w.cell? ⟨b,2,none⟩=some v2∧w.cell? ⟨b,3,none⟩=some v3∧w.cell? ⟨b,4,none⟩=some v4∧w.cell? ⟨b,5,none⟩=some v5∧w.cell? ⟨b,6,none⟩=some v6∧w.cell? ⟨b,7,none⟩=some v7∧w.cell? ⟨b,8,none⟩=some v8∧w.cell? ⟨b,9,none⟩=some v9∧w.cell? ⟨b,10,none⟩=some v10∧w.cell? ⟨b,11,none⟩=some v11∧w.cell? ⟨b,12,none⟩=some v12:=
 ⟨(h.cell 0).trans rfl,(h.cell 1).trans rfl,(h.cell 2).trans rfl,(h.cell 3).trans rfl,(h.cell 4).trans rfl,(h.cell 5).trans rfl,(h.cell 6).trans rfl,(h.cell 7).trans rfl,(h.cell 8).trans rfl,(h.cell 9).trans rfl,(h.cell 10).trans rfl,(h.cell 11).trans rfl,(h.cell 12).trans rfl⟩
theorem amh (z:Int) (h0: -9223372036854775808≤z) (h1:z≤9223372036854775807) (w:World) (hT:Tab.Pow w):
  Calls Tryz.prog 159 #[.int .i64 z] w fun e w'=>e=.returned (.string (strOf (Lib.itoa z)))∧Below w.heap.size w w':=
 (Tryz.strconv_Itoa z h0 h1 w hT).mono fun e w' ⟨he,k,os,hw⟩=>⟨he,by rw[hw];exact Tab.below_grow w k os⟩
theorem uX (k:Nat):∀n,n<10^(k+1)→(Lib.decDigits n).length≤k+1:=by
 induction k with
 |zero=>intro n h;rw[Lib.decDigits,dif_pos (by omega)];simp
 |succ k ih=>
  intro n h
  rw[Lib.decDigits]
  split
  ·simp
  have:=ih (n / 10) (by rw[Nat.pow_succ]at h;omega)
  rw[List.length_append]
  simp
  omega
theorem aaI (z:Int) (h0: -9223372036854775808≤z) (h1:z≤9223372036854775807):(Lib.itoa z).length≤20:=by
 unfold Lib.itoa
 split
 ·have:=uX 18 z.natAbs (by omega)
  simp
  omega
 have:=uX 18 z.toNat (by omega)
 omega
theorem ZV (s1 s2:ByteArray) (h1:s1.size≤1073741824) (h2:s2.size≤1073741824):(lD s1 s2).length≤2147483650:=by
 have hl1:s1.data.toList.length=s1.size:=Array.length_toList
 have hl2:s2.data.toList.length=s2.size:=Array.length_toList
 unfold lD
 split
 ·split
  ·simp
  rw[List.length_append];simp;omega
 rw[List.length_append,List.length_append,List.length_append];simp;omega
theorem Rf (z5:Int) (h0: -9223372036854775808≤z5) (h1:z5≤9223372036854775807):(kK z5).length≤21:=by
 have:=aaI z5 h0 h1
 unfold kK
 split<;>simp<;>omega
theorem afR (s1 s2 s3:ByteArray) (b4:Bool) (z5:Int) (b6:Bool) (l:List ByteArray) (h1:s1.size≤1073741824) (h2:s2.size≤1073741824) (h3:s3.size≤1073741824) (h0: -9223372036854775808≤z5) (h5:z5≤9223372036854775807):(ug s1 s2 s3 b4 z5 b6 l).length≤4294967296:=by
 have:=ZV s1 s2 h1 h2
 have:=Rf z5 h0 h5
 have hl3:s3.data.toList.length=s3.size:=Array.length_toList
 unfold ug
 split
 ·rw[List.length_append,List.length_append,List.length_append];simp;omega
 split<;>simp
theorem gZ {B b:Nat} {l:List UInt8} {w w':World} (h:lq B b l w) (hb:Below w.heap.size w w'):lq B b l w':=by
 rcases h with⟨h1,v,h2,h3,h4⟩|⟨h1,v,h2,h3,h4⟩
 ·exact Or.inl ⟨h1,v,(hb.block _ (Array.getElem?_eq_some_iff.1 h2).1).trans h2,aP h3 hb,h4⟩
 exact Or.inr ⟨h1,v,(hb.block _ (Array.getElem?_eq_some_iff.1 h2).1).trans h2,aP h3 hb,h4⟩
theorem ZQ (s0:ByteArray) (s1:ByteArray) (s2:ByteArray) (s3:ByteArray) (b4:Bool) (z5:Int) (b6:Bool) (s7:ByteArray) (A:Option Addr) (n cap:Nat) (l:List ByteArray) (b9:Bool) (b10:Bool) (s11:ByteArray) (s12:ByteArray) (w:World) (hR:aY w A n (l.map Value.string)) (hnc:n≤cap) (hcm:cap≤maxLen) (hs0:s0.size≤1073741824) (hs1:s1.size≤1073741824) (hs2:s2.size≤1073741824) (hs3:s3.size≤1073741824) (hs7:s7.size≤1073741824) (hs11:s11.size≤1073741824) (hz: -9223372036854775808≤z5) (hz':z5≤9223372036854775807) (hl:(aO l).length≤1073741824) (hT:Tab.Pow w):
  Calls Tryz.prog 73 #[.agg #[.string s0,.string s1,.string s2,.string s3,.bool b4,.int .i64 z5,.bool b6,.string s7,.slice A n cap,.bool b9,.bool b10,.string s11,.string s12]] w fun e w'=>e=.returned (.string (strOf (wH s0 s1 s2 s3 b4 z5 b6 s7 l b9 s11)))∧Below w.heap.size w w':=by
 have hl0:s0.data.toList.length=s0.size:=Array.length_toList
 have hl3:s3.data.toList.length=s3.size:=Array.length_toList
 have hl7:s7.data.toList.length=s7.size:=Array.length_toList
 have hl11:s11.data.toList.length=s11.size:=Array.length_toList
 have hn:l.length=n:=by rw[←hR.1,List.length_map]
 have HN:=hid hn
 have HCL:=hid (ZV s1 s2 hs1 hs2)
 have HIT:=hid (aaI z5 hz hz')
 have HML:=hid (afR s1 s2 s3 b4 z5 b6 l hs1 hs2 hs3 hz hz')
 have Uy:Hid ((s0.data.toList++[58]).length≤1073741825):=by show _≤_;rw[List.length_append];simp;omega
 obtain⟨CA,hCA⟩:∃X,X=[47,47]++lD s1 s2:=⟨_,rfl⟩
 obtain⟨CB,hCB⟩:∃X,X=CA++s3.data.toList:=⟨_,rfl⟩
 have hCAl:CA.length≤2147483652:=by rw[hCA,List.length_append];have:=HCL.out;simp;omega
 have WE:Hid (CB.length≤3221225476):=by show _≤_;rw[hCB,List.length_append];omega
 have a2:∀w:World,(Op.stringOp .add ⟨#[47,47]⟩ (strOf (lD s1 s2))).run Tryz.prog w=.ok (.string (strOf CA)) w:=fun w=>by rw[hCA];exact dL ⟨#[47,47]⟩ _ w (by rw[o9];have:=HCL.out;show 2+_≤_;omega)
 have a3:∀w:World,(Op.stringOp .add (strOf CA) s3).run Tryz.prog w=.ok (.string (strOf CB)) w:=fun w=>by rw[hCB];exact dL _ s3 w (by rw[o9];omega)
 have HCB:Hid (CB=[47,47]++lD s1 s2++s3.data.toList):=by show _=_;rw[hCB,hCA]
 clear hCA hCB hCAl
 have TB:Hid ((pF b6 s7 l).length≤1073741824):=by show _≤_;unfold pF;split<;>omega
 have a1:∀w:World,(Op.stringOp .add s0 ⟨#[58]⟩).run Tryz.prog w=.ok (.string (strOf (s0.data.toList++[58]))) w:=fun w=>dL s0 ⟨#[58]⟩ w (by show s0.size+1≤_;omega)
 obtain⟨QL,hQL⟩:∃X,X=[63]++s11.data.toList:=⟨_,rfl⟩
 have a5:∀w:World,(Op.stringOp .add ⟨#[63]⟩ s11).run Tryz.prog w=.ok (.string (strOf QL)) w:=fun w=>by rw[hQL];exact dL ⟨#[63]⟩ s11 w (by show 1+s11.size≤_;omega)
 have HQLL:Hid (QL.length≤1073741825):=by show _≤_;rw[hQL,List.length_append];simp;omega
 have HQL:=hid hQL
 clear hQL
 clear hl0 hl3 hl7 hl11 hn
 have HR:=hid hR
 have Ci:=hid hl
 have HT:=hid hT
 clear hR hl hT
 unfold maxLen at hcm
 go_enter Tryz.func73,Tryz.ntmps73
 go_upto_region 1 with(fail)
 generalize hw1:w.alloc _=w1
 have hb1:Below w.heap.size w w1:=by rw[←hw1];exact(Below.refl _ _).alloc (Nat.le_refl _) _
 have hs1':w1.heap.size=w.heap.size+1:=by rw[←hw1];simp
 have acy:Hid (Box w1 w.heap.size #[.string s0,.string s1,.string s2,.string s3,.bool b4,.int .i64 z5,.bool b6,.string s7,.slice A n cap,.bool b9,.bool b10,.string s11,.string s12]):=by
  show _=_
  rw[←hw1]
  exact heap_alloc_new w _
 clear hw1
 go_upto_region 2 with(fail)
 have HB2:Hid (lq (w.heap.size+1) (w.heap.size+1) [] (w1.alloc (.cells #[.pointer none,.slice none 0 0] 168))):=by
  have h:=Lib.fresh_isBuilder 168 5 w1
  rw[hs1']at h
  exact h
 have XO:Below (w.heap.size+1) w1 (w1.alloc (.cells #[.pointer none,.slice none 0 0] 168)):=(Below.refl _ _).alloc (by rw[hs1'];exact Nat.le_refl _) _
 have hs2':(w1.alloc (.cells #[.pointer none,.slice none 0 0] 168)).heap.size=w.heap.size+2:=by simp[hs1']
 generalize hw2:w1.alloc _=w2 at HB2 XO hs2'⊢
 clear hw2
 have alR:Below w.heap.size w w2:=hb1.trans (XO.mono (by omega))
 have hbx:=acy.out.below XO (by omega)
 have HBX2:=hid hbx
 obtain⟨c0,c1,c2,c3,c4,c5,c6,c7,c8,c9,c10,c11,c12⟩:=kV hbx
 clear hbx
 have hsz2:w.heap.size+1≤w2.heap.size:=by omega
 clear hs1' hs2'
 go_wp2_with fail
 refine(write_any _ _ _ _ _ HB2.out (by rw[o9];have:=Uy.out;simp at this⊢;omega) hsz2).mono ?_
 rintro e w3 ⟨rfl,HB3',aau⟩
 have HB3:Hid (lq (w.heap.size+1) (w.heap.size+1) (s0.data.toList++[58]) w3):=HB3'
 have hsz3:w.heap.size+1≤w3.heap.size:=by have:=aau.size;omega
 have hbx:=HBX2.out.below aau (by omega:w.heap.size<w.heap.size+1)
 have HBX3:=hid hbx
 clear HB3' c0 c1 c2 c3 c4 c5 c6 c7 c8 c9 c10 c11 c12
 obtain⟨c0,c1,c2,c3,c4,c5,c6,c7,c8,c9,c10,c11,c12⟩:=kV hbx
 clear hbx
 go_upto_if 9 with(fail)
 go_cut [] (fun wx=>Hid (lq (w.heap.size+1) (w.heap.size+1) (s0.data.toList++[58]++ug s1 s2 s3 b4 z5 b6 l) wx)∧Hid (Below (w.heap.size+1) w2 wx))
 case first=>
  cases b4 with
  | true=>
   go_wp2_with fail
   clear c0 c1 c2 c3 c4 c5 c6 c7 c8 c9 c10 c11 c12
   refine bC (by kernel_rfl) 6 [is (.agg #[.string s0,.string s1,.string s2,.string s3,.bool true,.int .i64 z5,.bool b6,.string s7,.slice A n cap,.bool b9,.bool b10,.string s11,.string s12]),is (.string (strOf (lD s1 s2))),is (.string (strOf CA)),is (.pointer (some ⟨w.heap.size,3,none⟩)),is (.string s3),is (.string (strOf CB))] [[],[0],[0,1],[],[3],[0,1,2,3,4],[0,1,2,3,4,5]] (by kernel_rfl) ?_ ?_
   ·refine⟨?_,?_,?_,?_,?_,?_,trivial⟩
    all_goals(intro t wq hbq hh K hK;simp only[filled,aj,upd,Have,is,any,row,pick,Act.put,List.setIfInBounds_toArray,List.set_cons_zero,List.set_cons_succ,Nat.reduceAdd,Nat.reduceEqDiff,reduceIte,List.tail_cons,List.headD_cons]at hh hK⊢)
    ·clear hh
     have hbx:=HBX3.out.below hbq (by omega)
     obtain⟨c0,c1,c2,c3,c4,c5,c6,c7,c8,c9,c10,c11,c12⟩:=kV hbx
     clear hbx
     go_simp
     exact hK _ _ (Below.refl _ _) rfl
    ·have e0:=hh.1
     clear hh
     simp only[e0]at hK⊢
     go_simp
     refine(ak0 s0 s1 s2 s3 true z5 b6 s7 A n cap l b9 b10 s11 s12 _ hs1 hs2).mono ?_
     rintro e w5 ⟨rfl,hb5⟩
     exact hK _ _ hb5 rfl
    ·have e1:=hh.2.1
     clear hh
     simp only[e1]at hK⊢
     have hadd:=a2 wq
     go_simp
     exact hK _ _ (Below.refl _ _) rfl
    ·clear hh
     go_simp
     exact hK _ _ (Below.refl _ _) rfl
    ·have e3:=hh.1
     clear hh
     simp only[e3]at hK⊢
     have hbx:=HBX3.out.below hbq (by omega)
     obtain⟨c0,c1,c2,c3,c4,c5,c6,c7,c8,c9,c10,c11,c12⟩:=kV hbx
     clear hbx
     go_simp
     exact hK _ _ (Below.refl _ _) rfl
    ·have e2:=hh.2.2.1
     have e4:=hh.2.2.2.2.1
     clear hh
     simp only[e2,e4]at hK⊢
     have hadd:=a3 wq
     go_simp
     exact hK _ _ (Below.refl _ _) rfl
   ·intro t wq hbq hh
    have f5:=aB hh 5 (by decide)
    simp only[pick]at f5
    replace f5:t 5=(.string (strOf CB)):=f5
    clear hh
    simp only[filled,aj,upd,Have,is,any,row,pick,Act.put,List.setIfInBounds_toArray,List.set_cons_zero,List.set_cons_succ,Nat.reduceAdd,Nat.reduceEqDiff,reduceIte]
    simp only[f5]
    have HB4:=HB3.out
    go_wp2_with fail
    refine(write_any _ _ _ _ _ (gZ HB3.out hbq) (by rw[o9];have:=Uy.out;have:=WE.out;omega) (by have:=hbq.size;omega)).mono ?_
    rintro e w5 ⟨rfl,iG,hb5⟩
    rw[kX]at iG
    have atX:=aau.trans ((hbq.mono (by omega)).trans hb5)
    have hbx:=HBX3.out.below ((hbq.mono (by omega)).trans hb5) (by omega:w.heap.size<w.heap.size+1)
    have HBX5:=hid hbx
    obtain⟨c0,c1,c2,c3,c4,c5,c6,c7,c8,c9,c10,c11,c12⟩:=kV hbx
    clear hbx HB4
    have hsz5:w.heap.size+1≤w5.heap.size:=by have:=atX.size;omega
    by_cases hp:z5= -1
    ·have q1:(z5== -1)=true:=by simpa using hp
     have q2:(z5 != -1)=false:=by simpa using hp
     have HP:Hid (kK z5=[]):=if_pos hp
     clear hp
     go_wp2
     go_meet
     refine⟨?_,atX⟩
     have e:s0.data.toList++[58]++ug s1 s2 s3 true z5 b6 l=s0.data.toList++[58]++CB:=by unfold ug;rw[if_pos rfl,HP.out,List.append_nil,HCB.out]
     show lq _ _ _ _
     rw[e]
     exact iG
    ·have q1:(z5== -1)=false:=by simpa using hp
     have q2:(z5 != -1)=true:=by simpa using hp
     have HP:Hid (kK z5=58::Lib.itoa z5):=if_neg hp
     clear hp
     obtain⟨IT,hIT⟩:∃X,X=[58]++Lib.itoa z5:=⟨_,rfl⟩
     have a4:∀w:World,(Op.stringOp .add ⟨#[58]⟩ (strOf (Lib.itoa z5))).run Tryz.prog w=.ok (.string (strOf IT)) w:=fun w=>by rw[hIT];exact dL ⟨#[58]⟩ _ w (by rw[o9];have:=HIT.out;show 1+_≤_;omega)
     have HITL:Hid (IT.length≤21):=by show _≤_;rw[hIT,List.length_append];have:=HIT.out;simp;omega
     have HITE:=hid hIT
     clear hIT
     go_wp2_with fail
     refine(amh z5 hz hz' _ (HT.out.below (alR.trans (atX.mono (by omega))))).mono ?_
     rintro e w6 ⟨rfl,hb6⟩
     go_wp2_with fail
     refine(write_any _ _ _ _ _ (gZ iG hb6) (by rw[o9,List.length_append];have:=HITL.out;have:=Uy.out;have:=WE.out;omega) (by have:=hb6.size;omega)).mono ?_
     rintro e w7 ⟨rfl,kZ,hb7⟩
     rw[kX]at kZ
     go_wp2
     go_meet
     refine⟨?_,atX.trans ((hb6.mono hsz5).trans hb7)⟩
     have e:s0.data.toList++[58]++ug s1 s2 s3 true z5 b6 l=s0.data.toList++[58]++CB++IT:=by unfold ug;rw[if_pos rfl,HP.out,HCB.out,HITE.out];simp
     show lq _ _ _ _
     rw[e]
     exact kZ
  | false=>
   cases b6 with
   |true=>
    go_wp2
    go_meet
    refine⟨?_,aau⟩
    show lq _ _ (_++[]) _
    rw[List.append_nil]
    exact HB3.out
   | false=>
    by_cases h1n:1<n
    ·obtain⟨x,y,r,hlx⟩:∃x y r,l=x::y::r:=by
      have:=HN.out
      match l,this with
      |x::y::r,_=>exact⟨x,y,r,rfl⟩
      |[_],h=>simp at h;omega
      |[],h=>simp at h;omega
     have hRr:=HR.out.below (alR.trans (aau.mono (by omega)))
     obtain⟨g,off,rfl,hg,hcell⟩:=hRr.spot (by omega)
     have hc:=hcell 0 (by rw[List.length_map,HN.out];omega)
     have e0:(l.map Value.string)[0]'(by rw[List.length_map,HN.out];omega)=.string x:=by simp[hlx]
     rw[e0,Nat.add_zero]at hc
     have HD:Hid (dotted false l=decide (x.data.toList=[])):=by show _=_;rw[hlx];rfl
     clear hRr hcell e0 hlx
     by_cases hx:x.data.toList=[]
     ·have q1:x.toList=[]:=by rw[tl];exact hx
      have Td:Hid (dotted false l=true):=HD.out.trans (decide_eq_true hx)
      clear hx
      go_wp2_with fail
      refine(write_any _ _ _ _ _ HB3.out (by have:=Uy.out;show _+2≤_;omega) hsz3).mono ?_
      rintro e w5 ⟨rfl,iG,hb5⟩
      go_wp2
      go_meet
      refine⟨?_,aau.trans hb5⟩
      have e:s0.data.toList++[58]++ug s1 s2 s3 false z5 false l=s0.data.toList++[58]++[47,46]:=by unfold ug;rw[if_neg (by decide),if_pos Td.out]
      show lq _ _ _ _
      rw[e]
      exact iG
     ·have q1:(x.toList==[])=false:=by rw[tl];simpa using hx
      have q1':x.toList.isEmpty=false:=by rw[tl];simpa using hx
      have Td:Hid (¬dotted false l=true):=by show ¬_;rw[HD.out];simpa using hx
      clear hx
      go_wp2
      go_meet
      refine⟨?_,aau⟩
      have e:s0.data.toList++[58]++ug s1 s2 s3 false z5 false l=s0.data.toList++[58]:=by unfold ug;rw[if_neg (by decide),if_neg Td.out,List.append_nil]
      show lq _ _ _ _
      rw[e]
      exact HB3.out
    ·have Td:Hid (¬dotted false l=true):=by
      have:=HN.out
      match l,this with
      |x::y::r,h=>simp at h;omega
      |[_],h=>simp[dotted,Hid]
      |[],h=>simp[dotted,Hid]
     go_wp2
     go_meet
     refine⟨?_,aau⟩
     have e:s0.data.toList++[58]++ug s1 s2 s3 false z5 false l=s0.data.toList++[58]:=by unfold ug;rw[if_neg (by decide),if_neg Td.out,List.append_nil]
     show lq _ _ _ _
     rw[e]
     exact HB3.out
 case rest=>
 obtain⟨HB4,HB24⟩:=hcut
 clear c0 c1 c2 c3 c4 c5 c6 c7 c8 c9 c10 c11 c12
 have hbx:=HBX2.out.below HB24.out (by omega:w.heap.size<w.heap.size+1)
 have HBX4:=hid hbx
 obtain⟨c0,c1,c2,c3,c4,c5,c6,c7,c8,c9,c10,c11,c12⟩:=kV hbx
 clear hbx
 have Ae:w.heap.size+1≤wc.heap.size:=by have:=HB24.out.size;omega
 go_wp2_with fail
 refine(DU s0 s1 s2 s3 b4 z5 b6 s7 A n cap l b9 b10 s11 s12 _ (HR.out.below (alR.trans (HB24.out.mono (by omega)))) hnc (by unfold maxLen;omega) hs7 Ci.out).mono ?_
 rintro e w5 ⟨rfl,hb5⟩
 go_wp2_with fail
 have hml:=HML.out
 have hla:=Uy.out
 have hpa:=TB.out
 have HLC:Hid ((s0.data.toList++[58]++ug s1 s2 s3 b4 z5 b6 l).length≤5368709121):=by show _≤_;rw[List.length_append];omega
 have Fg:Hid ((s0.data.toList++[58]++ug s1 s2 s3 b4 z5 b6 l++pF b6 s7 l).length≤6442450945):=by show _≤_;rw[List.length_append];have:=HLC.out;omega
 clear hml hla hpa
 refine(write_any _ _ _ _ _ (gZ HB4.out hb5) (by rw[o9];have:=HLC.out;have:=TB.out;omega) (by have:=hb5.size;omega)).mono ?_
 rintro e w6 ⟨rfl,nN,hb6⟩
 rw[kX]at nN
 have hb26:=HB24.out.trans ((hb5.mono Ae).trans hb6)
 have ajz:w.heap.size+1≤w6.heap.size:=by have:=hb26.size;omega
 clear c0 c1 c2 c3 c4 c5 c6 c7 c8 c9 c10 c11 c12
 have hbx:=HBX2.out.below hb26 (by omega:w.heap.size<w.heap.size+1)
 obtain⟨c0,c1,c2,c3,c4,c5,c6,c7,c8,c9,c10,c11,c12⟩:=kV hbx
 clear hbx
 have HB6':=hid nN
 clear nN
 cases b9 with
 |false=>
  go_wp2_with fail
  refine(qL _ _ _ _ HB6'.out ajz).mono ?_
  rintro e w7 ⟨rfl,hb7⟩
  go_wp2
  go_ret
  refine⟨?_,alR.trans ((hb26.trans hb7).mono (by omega))⟩
  have e:wH s0 s1 s2 s3 b4 z5 b6 s7 l false s11=s0.data.toList++[58]++ug s1 s2 s3 b4 z5 b6 l++pF b6 s7 l:=by unfold wH;rw[if_neg (by decide),List.append_nil]
  refine congrArg (fun X=>Ending.returned (.string (strOf X))) ?_
  rw[e]
  simp
 |true=>
  go_wp2_with fail
  refine(write_any _ _ _ _ _ HB6'.out (by rw[o9];have:=Fg.out;have:=HQLL.out;omega) ajz).mono ?_
  rintro e w7 ⟨rfl,kZ,hb7⟩
  rw[kX]at kZ
  go_wp2_with fail
  refine(qL _ _ _ _ kZ (by have:=hb7.size;omega)).mono ?_
  rintro e w8 ⟨rfl,hb8⟩
  go_wp2
  go_ret
  refine⟨?_,alR.trans (((hb26.trans hb7).trans hb8).mono (by omega))⟩
  have e:wH s0 s1 s2 s3 b4 z5 b6 s7 l true s11=s0.data.toList++[58]++ug s1 s2 s3 b4 z5 b6 l++pF b6 s7 l++QL:=by unfold wH;rw[if_pos rfl,HQL.out];rfl
  refine congrArg (fun X=>Ending.returned (.string (strOf X))) ?_
  rw[e]
  simp
end Go.Proofs.YtgamccijegollaaGreatDoor.Pg
namespace Go.Proofs.YtgamccijegollaaGreatDoor.UG
open Go.RowKit Base Dp cO aco Pg sU wS mW tK yx jQ pO vZ WQ oN wo
structure Env (w:World):Prop where
 pow:Tab.Pow w
 lad:oI w
 max:Max w
 Hq:rD w
theorem Env.below {w w':World} (h:Env w) (hb:Below w.heap.size w w'):Env w':=⟨bY h.pow hb,h.lad.below hb,h.max.below hb,h.Hq.below hb⟩
structure Pt (w:World) (u:U) (A:Option Addr) (n c:Nat):Prop where
 aO:dR w u A n c
theorem Pt.below {w w':World} {u:U} {A:Option Addr} {n c:Nat} (h:Pt w u A n c) (hb:Below w.heap.size w w'):Pt w' u A n c:=⟨mW.dR.below h.aO hb⟩
theorem dl (s:ByteArray):s.data.toList.length=s.size:=Array.length_toList
theorem jB {T:ByteArray} {u:U} (ho:wS.url T.data.toList none=some u) (hs:T.size≤65536) (w:World) (E:Env w):Calls Tryz.prog 16 #[.string T,.pointer none] w fun e w'=>∃A' n' c',e=.returned (.tuple #[.agg #[.string (strOf u.au),.string (strOf u.usr),.string (strOf u.MX),.string (strOf u.hst),.bool u.hh,.int .i64 u.port,.bool u.opq,.string (strOf u.txt),.slice A' n' c',.bool u.hq,.bool u.hf,.string (strOf u.dY),.string (strOf u.fB)],.int .i64 0])∧Pt w' u A' n' c'∧Below w.heap.size w w':=by
 have h:=GY T.data.toList w (by rw[dl];exact hs) E.lad E.pow E.max E.Hq
 rw[aG,ho]at h
 exact h.mono fun e w' ⟨h1,A,n,c,h2,h3⟩=>⟨A,n,c,h2,⟨h3.aO⟩,h1⟩
theorem GZ {T:ByteArray} {u:U} (hu:u=U0) (ho:wS.url T.data.toList none=none) (hs:T.size≤65536) (w:World) (E:Env w):Calls Tryz.prog 16 #[.string T,.pointer none] w fun e w'=>∃A' n' c',e=.returned (.tuple #[.agg #[.string (strOf u.au),.string (strOf u.usr),.string (strOf u.MX),.string (strOf u.hst),.bool u.hh,.int .i64 u.port,.bool u.opq,.string (strOf u.txt),.slice A' n' c',.bool u.hq,.bool u.hf,.string (strOf u.dY),.string (strOf u.fB)],.int .i64 2])∧Pt w' u A' n' c'∧Below w.heap.size w w':=by
 subst hu
 have h:=GY T.data.toList w (by rw[dl];exact hs) E.lad E.pow E.max E.Hq
 rw[aG,ho]at h
 exact h.mono fun e w' ⟨h1,A,n,c,h2,h3⟩=>⟨A,n,c,h2,⟨h3.aO⟩,h1⟩
end Go.Proofs.YtgamccijegollaaGreatDoor.UG
