/- Texts that belong together: WV, FetC, StkF, sW, yu, Sls, RefS, RefN. -/
import Derived.Test.YtmpeaoacaecgpaaGreatDoorYAM
import Derived.Test.YtmpeaoacaecgpaaGreatDoorYAQ
import Derived.BigQuiet
import Derived.Deep.QuietTactic
import Derived.Deep.WholeRow
import Derived.Defers
import Derived.Recover
import Derived.Test.YtmpeaoacaecgpaaGreatDoorYAK
import Derived.Test.YtmpeaoacaecgpaaGreatDoorYAA
import Derived.Test.YtmpeaoacaecgpaaGreatDoorYAI
import Derived.Test.YtmpeaoacaecgpaaGreatDoorShelf
import Derived.Test.YtmpeaoacaecgpaaGreatDoorYAD
import Derived.Test.YtmpeaoacaecgpaaGreatDoorYAO
set_option linter.unusedSimpArgs false
set_option linter.unusedVariables false
set_option maxRecDepth 100000
set_option maxHeartbeats 64000000
namespace Go.Proofs.YtmpeaoacaecgpaaGreatDoor.WV
open Go.RowKit Base Base2 PrsP mW tK yx
def wG (o:Bool) (t:List UInt8):Int:=if o=true∧t=[98,108,97,110,107]then 3 else if o=true∧t=[115,114,99,100,111,99]then 4 else 5
def qI (u:U):Int:=if u.au=[100,97,116,97]then 0 else if u.au=[98,108,111,98]then 1 else if u.au=[102,105,108,101]then 2 else if u.au=[97,98,111,117,116]then wG u.opq u.txt else if u.au=[106,97,118,97,115,99,114,105,112,116]then 6 else 7
theorem ag3 (u:U) (A:Option Addr) (n c:Nat) (w:World):Calls Tryz.prog 110 #[.agg (cells u (.slice A n c))] w fun e w'=>e=.returned (.int .i64 (wG u.opq u.txt))∧Below w.heap.size w w':=by
 obtain⟨z,hz⟩:∃z,z=wG u.opq u.txt:=⟨_,rfl⟩
 rw[←hz]
 have HZ:=hid hz
 clear hz
 cases ho:u.opq with
 |false=>
  have HE:Hid (z=5):=by show _=_;rw[HZ.out];unfold wG;simp[ho]
  go_enter Tryz.func110,Tryz.ntmps110
  go_upto_region 1 with(fail)
  generalize hw:World.alloc w _=w1
  have h1:UB w1 w.heap.size u (.slice A n c)∧Below w.heap.size w w1:=by
   subst hw
   exact laid1 w _ _
  clear hw
  obtain⟨d0,d1,d2,d3,d4,d5,d6,d7,d8,d9,d10,d11,d12⟩:=h1.1.facts
  have HB:=hid h1.2
  clear h1
  rw[ho]at d6
  clear ho
  go_wp2
  go_ret
  exact⟨by rw[HE.out];first|done|rfl,HB.out⟩
 | true=>
  by_cases h0:u.txt=[98,108,97,110,107]
  ·
   have Z9:((strOf u.txt).toList==[98,108,97,110,107])=true:=by rw[aK,h0];first|done|rfl
   have aac:(strOf u.txt).toList=[98,108,97,110,107]:=by rw[aK,h0];first|done|rfl
   have HE:Hid (z=3):=by show _=_;rw[HZ.out];unfold wG;simp[ho,h0]
   clear h0
   go_enter Tryz.func110,Tryz.ntmps110
   go_upto_region 1 with(fail)
   generalize hw:World.alloc w _=w1
   have h1:UB w1 w.heap.size u (.slice A n c)∧Below w.heap.size w w1:=by
    subst hw
    exact laid1 w _ _
   clear hw
   obtain⟨d0,d1,d2,d3,d4,d5,d6,d7,d8,d9,d10,d11,d12⟩:=h1.1.facts
   have HB:=hid h1.2
   clear h1
   rw[ho]at d6
   clear ho
   go_wp2
   go_ret
   exact⟨by rw[HE.out];first|done|rfl,HB.out⟩
  ·
   have Z9:((strOf u.txt).toList==[98,108,97,110,107])=false:=by rw[aK,beq_eq_false_iff_ne];exact h0
   have aac:¬(strOf u.txt).toList=[98,108,97,110,107]:=by rw[aK];exact h0
   by_cases h1:u.txt=[115,114,99,100,111,99]
   ·
    have e0h1:((strOf u.txt).toList==[115,114,99,100,111,99])=true:=by rw[aK,h1];first|done|rfl
    have e1h1:(strOf u.txt).toList=[115,114,99,100,111,99]:=by rw[aK,h1];first|done|rfl
    have HE:Hid (z=4):=by show _=_;rw[HZ.out];unfold wG;simp[ho,h1]
    clear h0 h1
    go_enter Tryz.func110,Tryz.ntmps110
    go_upto_region 1 with(fail)
    generalize hw:World.alloc w _=w1
    have h1:UB w1 w.heap.size u (.slice A n c)∧Below w.heap.size w w1:=by
     subst hw
     exact laid1 w _ _
    clear hw
    obtain⟨d0,d1,d2,d3,d4,d5,d6,d7,d8,d9,d10,d11,d12⟩:=h1.1.facts
    have HB:=hid h1.2
    clear h1
    rw[ho]at d6
    clear ho
    go_wp2
    go_ret
    exact⟨by rw[HE.out];first|done|rfl,HB.out⟩
   ·
    have e0h1:((strOf u.txt).toList==[115,114,99,100,111,99])=false:=by rw[aK,beq_eq_false_iff_ne];exact h1
    have e1h1:¬(strOf u.txt).toList=[115,114,99,100,111,99]:=by rw[aK];exact h1
    have HE:Hid (z=5):=by show _=_;rw[HZ.out];unfold wG;simp[ho,h0,h1]
    clear h0 h1
    go_enter Tryz.func110,Tryz.ntmps110
    go_upto_region 1 with(fail)
    generalize hw:World.alloc w _=w1
    have h1:UB w1 w.heap.size u (.slice A n c)∧Below w.heap.size w w1:=by
     subst hw
     exact laid1 w _ _
    clear hw
    obtain⟨d0,d1,d2,d3,d4,d5,d6,d7,d8,d9,d10,d11,d12⟩:=h1.1.facts
    have HB:=hid h1.2
    clear h1
    rw[ho]at d6
    clear ho
    go_wp2
    go_ret
    exact⟨by rw[HE.out];first|done|rfl,HB.out⟩
theorem KY (u:U) (A:Option Addr) (n c:Nat) (w:World):Calls Tryz.prog 48 #[.agg (cells u (.slice A n c))] w fun e w'=>e=.returned (.int .i64 (qI u))∧Below w.heap.size w w':=by
 have HAB:=hid (fun w=>ag3 u A n c w)
 obtain⟨z,hz⟩:∃z,z=qI u:=⟨_,rfl⟩
 rw[←hz]
 have HZ:=hid hz
 clear hz
 by_cases h0:u.au=[100,97,116,97]
 ·
  have Z9:((strOf u.au).toList==[100,97,116,97])=true:=by rw[aK,h0];first|done|rfl
  have aac:(strOf u.au).toList=[100,97,116,97]:=by rw[aK,h0];first|done|rfl
  have HE:Hid (z=0):=by show _=_;rw[HZ.out];unfold qI;simp[h0]
  clear h0
  go_enter Tryz.func48,Tryz.ntmps48
  go_upto_region 1 with(fail)
  generalize hw:World.alloc w _=w1
  have h1:UB w1 w.heap.size u (.slice A n c)∧Below w.heap.size w w1:=by
   subst hw
   exact laid1 w _ _
  clear hw
  obtain⟨d0,d1,d2,d3,d4,d5,d6,d7,d8,d9,d10,d11,d12⟩:=h1.1.facts
  have HB:=hid h1.2
  clear h1
  go_wp2
  go_ret
  exact⟨by rw[HE.out];first|done|rfl,HB.out⟩
 ·
  have Z9:((strOf u.au).toList==[100,97,116,97])=false:=by rw[aK,beq_eq_false_iff_ne];exact h0
  have aac:¬(strOf u.au).toList=[100,97,116,97]:=by rw[aK];exact h0
  by_cases h1:u.au=[98,108,111,98]
  ·
   have e0h1:((strOf u.au).toList==[98,108,111,98])=true:=by rw[aK,h1];first|done|rfl
   have e1h1:(strOf u.au).toList=[98,108,111,98]:=by rw[aK,h1];first|done|rfl
   have HE:Hid (z=1):=by show _=_;rw[HZ.out];unfold qI;simp[h0,h1]
   clear h0 h1
   go_enter Tryz.func48,Tryz.ntmps48
   go_upto_region 1 with(fail)
   generalize hw:World.alloc w _=w1
   have h1:UB w1 w.heap.size u (.slice A n c)∧Below w.heap.size w w1:=by
    subst hw
    exact laid1 w _ _
   clear hw
   obtain⟨d0,d1,d2,d3,d4,d5,d6,d7,d8,d9,d10,d11,d12⟩:=h1.1.facts
   have HB:=hid h1.2
   clear h1
   go_wp2
   go_ret
   exact⟨by rw[HE.out];first|done|rfl,HB.out⟩
  ·
   have e0h1:((strOf u.au).toList==[98,108,111,98])=false:=by rw[aK,beq_eq_false_iff_ne];exact h1
   have e1h1:¬(strOf u.au).toList=[98,108,111,98]:=by rw[aK];exact h1
   by_cases h2:u.au=[102,105,108,101]
   ·
        have e0h2:((strOf u.au).toList==[102,105,108,101])=true:=by rw[aK,h2];first|done|rfl
        have e1h2:(strOf u.au).toList=[102,105,108,101]:=by rw[aK,h2];first|done|rfl
        have HE:Hid (z=2):=by show _=_;rw[HZ.out];unfold qI;simp[h0,h1,h2]
        clear h0 h1 h2
        go_enter Tryz.func48,Tryz.ntmps48
        go_upto_region 1 with(fail)
        generalize hw:World.alloc w _=w1
        have h1:UB w1 w.heap.size u (.slice A n c)∧Below w.heap.size w w1:=by
         subst hw
         exact laid1 w _ _
        clear hw
        obtain⟨d0,d1,d2,d3,d4,d5,d6,d7,d8,d9,d10,d11,d12⟩:=h1.1.facts
        have HB:=hid h1.2
        clear h1
        go_wp2
        go_ret
        exact⟨by rw[HE.out];first|done|rfl,HB.out⟩
   ·
        have e0h2:((strOf u.au).toList==[102,105,108,101])=false:=by rw[aK,beq_eq_false_iff_ne];exact h2
        have e1h2:¬(strOf u.au).toList=[102,105,108,101]:=by rw[aK];exact h2
        by_cases h3:u.au=[97,98,111,117,116]
        ·
         have e0h3:((strOf u.au).toList==[97,98,111,117,116])=true:=by rw[aK,h3];first|done|rfl
         have e1h3:(strOf u.au).toList=[97,98,111,117,116]:=by rw[aK,h3];first|done|rfl
         have HE:Hid (z=wG u.opq u.txt):=by show _=_;rw[HZ.out];unfold qI;simp[h0,h1,h2,h3]
         clear h0 h1 h2 h3
         go_enter Tryz.func48,Tryz.ntmps48
         go_upto_region 1 with(fail)
         generalize hw:World.alloc w _=w1
         have h1:UB w1 w.heap.size u (.slice A n c)∧Below w.heap.size w w1:=by
          subst hw
          exact laid1 w _ _
         clear hw
         obtain⟨d0,d1,d2,d3,d4,d5,d6,d7,d8,d9,d10,d11,d12⟩:=h1.1.facts
         have HB:=hid h1.2
         clear h1
         go_wp2_with fail
         clear d0 d1 d2 d3 d4 d5 d6 d7 d8 d9 d10 d11 d12
         refine(HAB.out _).mono ?_
         rintro e w2 ⟨rfl,hb2⟩
         have HB2:=hid (bel HB.out hb2)
         clear hb2
         go_wp2
         go_ret
         exact⟨by rw[HE.out];first|done|rfl,HB2.out⟩
        ·
         have e0h3:((strOf u.au).toList==[97,98,111,117,116])=false:=by rw[aK,beq_eq_false_iff_ne];exact h3
         have e1h3:¬(strOf u.au).toList=[97,98,111,117,116]:=by rw[aK];exact h3
         by_cases h4:u.au=[106,97,118,97,115,99,114,105,112,116]
         ·
          have e0h4:((strOf u.au).toList==[106,97,118,97,115,99,114,105,112,116])=true:=by rw[aK,h4];first|done|rfl
          have e1h4:(strOf u.au).toList=[106,97,118,97,115,99,114,105,112,116]:=by rw[aK,h4];first|done|rfl
          have HE:Hid (z=6):=by show _=_;rw[HZ.out];unfold qI;simp[h0,h1,h2,h3,h4]
          clear h0 h1 h2 h3 h4
          go_enter Tryz.func48,Tryz.ntmps48
          go_upto_region 1 with(fail)
          generalize hw:World.alloc w _=w1
          have h1:UB w1 w.heap.size u (.slice A n c)∧Below w.heap.size w w1:=by
           subst hw
           exact laid1 w _ _
          clear hw
          obtain⟨d0,d1,d2,d3,d4,d5,d6,d7,d8,d9,d10,d11,d12⟩:=h1.1.facts
          have HB:=hid h1.2
          clear h1
          go_wp2
          go_ret
          exact⟨by rw[HE.out];first|done|rfl,HB.out⟩
         ·
          have e0h4:((strOf u.au).toList==[106,97,118,97,115,99,114,105,112,116])=false:=by rw[aK,beq_eq_false_iff_ne];exact h4
          have e1h4:¬(strOf u.au).toList=[106,97,118,97,115,99,114,105,112,116]:=by rw[aK];exact h4
          have HE:Hid (z=7):=by show _=_;rw[HZ.out];unfold qI;simp[h0,h1,h2,h3,h4]
          clear h0 h1 h2 h3 h4
          go_enter Tryz.func48,Tryz.ntmps48
          go_upto_region 1 with(fail)
          generalize hw:World.alloc w _=w1
          have h1:UB w1 w.heap.size u (.slice A n c)∧Below w.heap.size w w1:=by
           subst hw
           exact laid1 w _ _
          clear hw
          obtain⟨d0,d1,d2,d3,d4,d5,d6,d7,d8,d9,d10,d11,d12⟩:=h1.1.facts
          have HB:=hid h1.2
          clear h1
          go_wp2
          go_ret
          exact⟨by rw[HE.out];first|done|rfl,HB.out⟩
end Go.Proofs.YtmpeaoacaecgpaaGreatDoor.WV
namespace Go.Proofs.YtmpeaoacaecgpaaGreatDoor.FetC
open Go.RowKit Base Base2 Regs Kq mW PrsP ES uw xH WX ajr TL
theorem aaj (li sp:Value) (T:List UInt8) (u:U) (s h:ByteArray) (p n:Int) (w:World)
  (HP:Hid (∀w',Below w.heap.size w w'→Calls Tryz.prog 16 #[.string (strOf T),.pointer none] w' fun e w''=>∃A n' c,e=.returned (.tuple #[.agg (cells u (.slice A n' c)),.int .i64 0])∧dR w'' u A n' c∧Below w'.heap.size w' w''))
  (hz:WV.qI u=3):
  Calls Tryz.prog 203 #[li,.string (strOf T),.agg #[.string s,.string h,.int .i64 p,.int .i64 n],sp] w fun e w'=>e=.returned (.agg #[.int .i64 3,.int .i64 200,.int .i64 0,.int .i64 0,.string ⟨#[116,101,120,116,47,104,116,109,108,59,99,104,97,114,115,101,116,61,117,116,102,45,56]⟩,.slice none 0 0])∧Below w.heap.size w w':=by
 have HZ:=hid hz
 clear hz
 go_enter Tryz.func203,Tryz.ntmps203
 go_upto_region 1 with(fail)
 generalize bI:World.alloc (World.alloc w _) _=v1
 have h1_:OB v1 w.heap.size s h p n∧AB v1 (w.heap.size+1) #[.int .i64 0,.int .i64 0,.int .i64 0,.int .i64 0,.string ⟨#[]⟩,.slice none 0 0]∧Below w.heap.size w v1:=by
  subst bI
  exact laid2 w _ _ _ _
 clear bI
 have ZE:=hid h1_.1
 have Po:=hid h1_.2.1
 have HB1:=hid h1_.2.2
 clear h1_
 go_wp2_with fail
 refine(HP.out _ HB1.out).mono ?_
 rintro e v2 ⟨A,n',c,rfl,hpt,hb2⟩
 have XO2:=hid (ZE.out.below hb2)
 have Pq:=hid (Po.out.below hb2)
 have HB2:=hid (bel HB1.out hb2)
 have Zc:=hid hpt
 clear ZE Po HB1 hb2 hpt
 rw[show Value.agg (cells u (.slice A n' c))=.agg #[.string (strOf u.au),.string (strOf u.usr),.string (strOf u.pwd),.string (strOf u.hst),.bool u.hh,.int .i64 u.port,.bool u.opq,.string (strOf u.txt),.slice A n' c,.bool u.hq,.bool u.hf,.string (strOf u.dY),.string (strOf u.fB)]from rfl]
 go_upto_region 4 with(fail)
 generalize bI:World.alloc v2 _=v3
 have h3_:UB v3 v2.heap.size u (.slice A n' c)∧Below v2.heap.size v2 v3:=by
  subst bI
  exact laid1 v2 _ _
 clear bI
 have XO3:=hid (XO2.out.below h3_.2)
 have NZ:=hid (Pq.out.below h3_.2)
 have HB3:=hid (bel HB2.out h3_.2)
 have Zd:=hid (dR.below Zc.out h3_.2)
 have ZG:=hid h3_.1
 clear h3_ XO2 Pq HB2 Zc
 have SA:=hid ZG.out.load
 go_wp2_with (refine fJ SA.out (.tmp 9) rfl rfl rfl ?_)
 refine(WV.KY u A n' c _).mono ?_
 rw[HZ.out]
 rintro e v4 ⟨rfl,hb4⟩
 have XO4:=hid (XO3.out.below hb4)
 have Pv:=hid (NZ.out.below hb4)
 have HB4:=hid (bel HB3.out hb4)
 have Ze:=hid (dR.below Zd.out hb4)
 have XU4:=hid (ZG.out.below hb4)
 clear XO3 NZ HB3 Zd ZG SA hb4
 go_upto_region 5 with(fail)
 generalize bI:World.alloc v4 _=v5
 have h5_:AB v5 v4.heap.size #[.int .i64 3,.int .i64 0,.int .i64 0,.int .i64 0,.string ⟨#[]⟩,.slice none 0 0]∧Below v4.heap.size v4 v5:=by
  subst bI
  exact laid1 v4 _ _
 clear bI
 have XO5:=hid (XO4.out.below h5_.2)
 have ZF:=hid (Pv.out.below h5_.2)
 have iG:=hid (bel HB4.out h5_.2)
 have acF:=hid (dR.below Ze.out h5_.2)
 have XU5:=hid (XU4.out.below h5_.2)
 have Xc:=hid h5_.1
 have X7:Hid (w.heap.size+1<v4.heap.size):=Pv.out.lt
 clear h5_ XO4 Pv HB4 Ze XU4
 obtain⟨a0,a1,a2,a3,a4,a5⟩:=Xc.out.facts
 obtain⟨f0,f1,f2,f3,f4,f5⟩:=Xc.out.thaw
 go_upto_region 14 with(fail)
 have hx:AB ((v5.setCell ⟨v4.heap.size,1,none⟩ (.int .i64 200)).setCell ⟨v4.heap.size,4,none⟩ (.string ⟨#[116,101,120,116,47,104,116,109,108,59,99,104,97,114,115,101,116,61,117,116,102,45,56]⟩)) v4.heap.size #[.int .i64 3,.int .i64 200,.int .i64 0,.int .i64 0,.string ⟨#[116,101,120,116,47,104,116,109,108,59,99,104,97,114,115,101,116,61,117,116,102,45,56]⟩,.slice none 0 0]:=(Xc.out.set 1 _).set 4 _
 have hr:AB ((v5.setCell ⟨v4.heap.size,1,none⟩ (.int .i64 200)).setCell ⟨v4.heap.size,4,none⟩ (.string ⟨#[116,101,120,116,47,104,116,109,108,59,99,104,97,114,115,101,116,61,117,116,102,45,56]⟩)) (w.heap.size+1) #[.int .i64 0,.int .i64 0,.int .i64 0,.int .i64 0,.string ⟨#[]⟩,.slice none 0 0]:=(ZF.out.Rx _ (by have:=X7.out;omega)).Rx _ (by have:=X7.out;omega)
 have hb:Below w.heap.size w ((v5.setCell ⟨v4.heap.size,1,none⟩ (.int .i64 200)).setCell ⟨v4.heap.size,4,none⟩ (.string ⟨#[116,101,120,116,47,104,116,109,108,59,99,104,97,114,115,101,116,61,117,116,102,45,56]⟩)):=(iG.out.setCell (p:=⟨v4.heap.size,1,none⟩) (by have:=X7.out;show w.heap.size≤v4.heap.size;omega) _).setCell (p:=⟨v4.heap.size,4,none⟩) (by have:=X7.out;show w.heap.size≤v4.heap.size;omega) _
 generalize (v5.setCell _ _).setCell _ _=v6 at hx hr hb⊢
 have XA6:=hid hx
 have dB:=hid hr
 have nN:=hid hb
 clear hx hr hb Xc ZF iG XO5 XU5 acF a0 a1 a2 a3 a4 a5 f0 f1 f2 f3 f4 f5
 have Uy:=hid (XA6.out.load rfl)
 go_wp2_with (first|refine fJ Uy.out (.tmp 11) rfl rfl rfl ?_|refine sG dB.out #[.int .i64 3,.int .i64 200,.int .i64 0,.int .i64 0,.string ⟨#[116,101,120,116,47,104,116,109,108,59,99,104,97,114,115,101,116,61,117,116,102,45,56]⟩,.slice none 0 0] rfl rfl (by simp[Value.oneCell']) (.tmp 8) (.tmp 50) rfl rfl rfl rfl ?_)
 try simp only[Exit.inBlock,Exit.then]
 exact bodyPost_ret (w:=World.setRow v6 (w.heap.size+1) #[.int .i64 3,.int .i64 200,.int .i64 0,.int .i64 0,.string ⟨#[116,101,120,116,47,104,116,109,108,59,99,104,97,114,115,101,116,61,117,116,102,45,56]⟩,.slice none 0 0]) (abo rfl (AB.row dB.out _) rfl _ rfl) rfl ⟨rfl,below_setRow nN.out (Nat.le_succ w.heap.size) _⟩
end Go.Proofs.YtmpeaoacaecgpaaGreatDoor.FetC
namespace Go.Proofs.YtmpeaoacaecgpaaGreatDoor.StkF
open Go.RowKit Base Base2 Regs Kq mW PrsP ES StoI ajr FetC TL TK agZ
theorem Yu {w:World} (pv:Option Addr) (sp:Value) (T s h:ByteArray) (p n:Int) (Q:Array Value→World→Prop) (HQ:∀(cs:Array Value) (a:World) (g:Nat) (ds:Array Value),Q cs a→w.heap.size≤g→g<w.heap.size+2→Q cs (a.setRow g ds))
  (HF:Hid (∀w',Below w.heap.size w w'→w.heap.size+2≤w'.heap.size→Calls Tryz.prog 203 #[.iface 103 (.pointer pv),.string T,.agg #[.string s,.string h,.int .i64 p,.int .i64 n],sp] w' fun e w''=>∃cs,e=.returned (.agg cs)∧cs.size=6∧cs.all (·.oneCell')=true∧Below w'.heap.size w' w''∧Q cs w'')):
  Calls Tryz.prog 98 #[.pointer pv,.string T,.agg #[.string s,.string h,.int .i64 p,.int .i64 n],sp] w fun e w'=>∃cs,e=.returned (.agg cs)∧cs.size=6∧Below w.heap.size w w'∧Q cs w':=by
 go_enter Tryz.func98,Tryz.ntmps98
 go_upto_region 1 with(fail)
 generalize bI:World.alloc (World.alloc w _) _=v1
 have h1_:OB v1 w.heap.size s h p n∧AB v1 (w.heap.size+1) #[.int .i64 0,.int .i64 0,.int .i64 0,.int .i64 0,.string ⟨#[]⟩,.slice none 0 0]∧Below w.heap.size w v1:=by
  subst bI
  exact laid2 w _ _ _ _
 clear bI
 have ZE:=hid h1_.1
 have Po:=hid h1_.2.1
 have HB1:=hid h1_.2.2
 have BD:Hid (w.heap.size+2≤v1.heap.size):=h1_.2.1.lt
 clear h1_
 have pY:=hid (nI ZE.out)
 go_wp2_with (refine fJ pY.out (.tmp 6) rfl rfl rfl ?_)
 refine(HF.out _ HB1.out BD.out).mono ?_
 rintro e v2 ⟨cs,rfl,hcs,hone,hb2,hq⟩
 have Pq:=hid (Po.out.below hb2)
 have HB2:=hid (bel HB1.out hb2)
 have HQ2:=hid hq
 have HC2:=hid hcs
 have xE:=hid hone
 clear hb2 hq hcs hone ZE Po HB1 pY
 go_wp2_with (refine sG Pq.out cs rfl HC2.out xE.out (.tmp 8) (.tmp 14) rfl rfl rfl rfl ?_)
 try simp only[Exit.inBlock,Exit.then]
 exact bodyPost_ret (w:=World.setRow v2 (w.heap.size+1) cs) (abo rfl (AB.row Pq.out _) HC2.out _ rfl) rfl ⟨cs,rfl,HC2.out,below_setRow HB2.out (Nat.le_succ w.heap.size) _,HQ _ _ _ _ HQ2.out (Nat.le_succ _) (Nat.lt_succ_self _)⟩
end Go.Proofs.YtmpeaoacaecgpaaGreatDoor.StkF
namespace Go.Proofs.YtmpeaoacaecgpaaGreatDoor.sW
open Go.RowKit Base
def spl (b:UInt8):List UInt8→List (List UInt8)
 |[]=>[[]]
 |c::L=>if c=b then[]::spl b L else match spl b L with
  |[]=>[[c]]
  |x::r=>(c::x)::r
theorem Ee (b:UInt8):∀L:List UInt8,spl b L≠[]
 |[]=>by simp[spl]
 |c::L=>by
  unfold spl
  split
  ·simp
  ·split<;>simp
theorem RI (b:UInt8) (L:List UInt8):spl b (b::L)=[]::spl b L:=by rw[spl,if_pos rfl]
theorem JB (b c:UInt8) (L:List UInt8) (h:c≠b):spl b (c::L)=match spl b L with
  |[]=>[[c]]
  |x::r=>(c::x)::r:=by rw[spl,if_neg h]
theorem Np (b:UInt8):∀L:List UInt8,spl b (L++[b])=spl b L++[[]]
 |[]=>by simp[spl]
 |c::L=>by
  rw[List.cons_append,spl,spl,Np b L]
  split
  ·rfl
  ·have:=Ee b L
   cases h:spl b L with
   |nil=>exact absurd h this
   |cons x r=>rfl
theorem Ef (b d:UInt8) (hd:d≠b):∀L:List UInt8,∃xs x,spl b L=xs++[x]∧spl b (L++[d])=xs++[x++[d]]
 |[]=>⟨[],[],rfl,by simp[spl,hd]⟩
 |c::L=>by
  obtain⟨xs,x,h1,h2⟩:=Ef b d hd L
  rw[List.cons_append,spl,spl,h1,h2]
  split
  ·exact⟨[]::xs,x,rfl,rfl⟩
  ·cases xs with
   |nil=>exact⟨[],c::x,rfl,rfl⟩
   |cons y ys=>exact⟨(c::y)::ys,x,rfl,rfl⟩
theorem kD (b:UInt8):∀L:List UInt8,(spl b L).length≤L.length+1
 |[]=>by simp[spl]
 | c :: L => by
  have ih:=kD b L
  unfold spl
  split
  ·simp;omega
  ·split
   ·simp
   ·rename_i h
    rw[h]at ih
    simp at ih⊢
    omega
theorem AO (b:UInt8):∀(L:List UInt8),∀x ∈ spl b L,x.length≤L.length
 |[]=>by simp[spl]
 | c :: L => by
  have ih:=AO b L
  intro x hx
  unfold spl at hx
  split at hx
  ·rcases List.mem_cons.1 hx with rfl|hx
   ·simp
   ·have:=ih x hx;simp;omega
  ·split at hx
   ·rename_i h
    simp at hx
    subst hx
    simp
   ·rename_i y r h
    rcases List.mem_cons.1 hx with rfl|hx
    ·have:=ih y (by rw[h];simp);simp;omega
    ·have:=ih x (by rw[h];simp[hx]);simp;omega
theorem OC (b:UInt8):∀(L:List UInt8),∀x ∈ spl b L,∀d ∈ x,d ∈ L∧d≠b
 |[]=>by simp[spl]
 | c ::L=>by
  have ih:=OC b L
  intro x hx d hd
  unfold spl at hx
  split at hx
  ·rcases List.mem_cons.1 hx with rfl|hx
   ·simp at hd
   ·have:=ih x hx d hd;exact⟨List.mem_cons_of_mem _ this.1,this.2⟩
  ·rename_i hc
   split at hx
   ·simp at hx
    subst hx
    simp at hd
    subst hd
    exact⟨List.mem_cons_self,hc⟩
   ·rename_i y r h
    rcases List.mem_cons.1 hx with rfl|hx
    ·rcases List.mem_cons.1 hd with rfl|hd
     ·exact⟨List.mem_cons_self,hc⟩
     ·have:=ih y (by rw[h];simp) d hd;exact⟨List.mem_cons_of_mem _ this.1,this.2⟩
    ·have:=ih x (by rw[h];simp[hx]) d hd;exact⟨List.mem_cons_of_mem _ this.1,this.2⟩
def glue (b:UInt8) (l:List (List UInt8)):List UInt8:=l.flatMap fun x=>b::x
theorem yJ (b:UInt8):∀L:List UInt8,glue b (spl b L)=b::L
 |[]=>by simp[spl,glue]
 | c :: L => by
  have ih:=yJ b L
  unfold spl
  split
  ·rename_i h
   subst h
   rw[glue,List.flatMap_cons]
   show _++glue c (spl c L)=_
   rw[ih]
   rfl
  ·split
   ·rename_i h
    exact absurd h (Ee b L)
   ·rename_i y r h
    rw[h]at ih
    simp only[glue,List.flatMap_cons,List.cons_append,List.cons.injEq,true_and]at ih⊢
    rw[ih]
theorem agp (a b:UInt8) (f:UInt8→UInt8):∀L:List UInt8,(∀c ∈ L,f c=b↔c=a)→spl b (L.map f)=(spl a L).map (List.map f)
 |[],_=>by simp[spl]
 |c::L,h=>by
  have ih:=agp a b f L (fun d hd=>h d (List.mem_cons_of_mem _ hd))
  have hc:=h c List.mem_cons_self
  rw[List.map_cons]
  unfold spl
  by_cases e:c=a
  ·rw[if_pos (hc.2 e),if_pos e,ih]
   rfl
  ·rw[if_neg (fun x=>e (hc.1 x)),if_neg e,ih]
   cases spl a L<;>rfl
end Go.Proofs.YtmpeaoacaecgpaaGreatDoor.sW
namespace Go.Proofs.YtmpeaoacaecgpaaGreatDoor.yu
open Go.RowKit Base sW qh
def tH (x:List UInt8) (last:Bool):Bool:=decide (x≠[46])&&decide (x≠[46,46])&&(decide (x≠[])||last)
def jO:List (List UInt8)→Bool
 |[]=>true
 |x::r=>tH x r.isEmpty&&jO r
def fine (L:List UInt8):Bool:=val L&&decide (L.head?=some 47)&& !L.contains 0&&jO (spl 47 (L.drop 1))
theorem aal (L:List UInt8):fine L=true↔val L=true∧L.head?=some 47∧L.contains 0=false∧jO (spl 47 (L.drop 1))=true:=by
 unfold fine
 simp only[Bool.and_eq_true,decide_eq_true_eq,Bool.not_eq_true',and_assoc]
theorem QS:∀(l:List (List UInt8)) (k:Nat) (h:k<l.length),jO (l.drop k)=(tH l[k] (decide (k+1=l.length))&&jO (l.drop (k+1))):=by
 intro l k h
 rw[List.drop_eq_getElem_cons h,jO]
 congr 2
 rw[Bool.eq_iff_iff]
 simp only[List.isEmpty_iff,List.drop_eq_nil_iff,decide_eq_true_eq]
 omega
theorem KZ:∀{l:List (List UInt8)},jO l=true→∀x ∈ l,x≠[46]∧x≠[46,46]
 |[],_=>by simp
 |y::r,h=>by
  simp only[jO,tH,Bool.and_eq_true,Bool.or_eq_true,decide_eq_true_eq]at h
  intro x hx
  rcases List.mem_cons.1 hx with rfl|hx
  ·exact h.1.1
  ·exact KZ h.2 x hx
end Go.Proofs.YtmpeaoacaecgpaaGreatDoor.yu
namespace Go.Proofs.YtmpeaoacaecgpaaGreatDoor.Sls
open Go.RowKit Base Base2 Base3 sW
open Go.Proofs.YtmpeaoacaecgpaaGreatDoor.pO (Max lZ)
theorem take_snoc {α:Type} (l:List α) (k:Nat) (h:k<l.length):l.take (k+1)=l.take k++[l[k]]:=List.take_succ_eq_append_getElem h
theorem yO {c d:UInt8} (h:c≠d):((c.toNat:Int)==(d.toNat:Int))=false:=by
 have:c.toNat≠d.toNat:=fun e=>h (UInt8.toNat_inj.1 e)
 simp;omega
theorem pq:(Tryz.prog.info? 9).map (fun i=>(i.zero,i.size,i.bytes))=some (some (.string ByteArray.empty),1,16):=by kernel_rfl
theorem ext_mid (s:ByteArray) (a b:Nat):s.extract a b=strOf ((s.data.toList.take b).drop a):=by
 apply ByteArray.ext
 apply Array.ext'
 rw[ByteArray.data_extract]
 simp only[strOf,Array.toList_extract,List.extract_eq_take_drop]
 rw[List.drop_take]
def Gj (w:World) (l:List (List UInt8)) (e:Ending) (w':World):Prop:=∃v,e=.returned v∧w'.ownsRow w.heap.size 9 1 v l.length ((l.map strOf).map Value.string)∧Below w.heap.size w w'
theorem abH (s:ByteArray) (w:World) (hs:s.size≤1073741824) (hM:Max w):Calls Tryz.prog 105 #[.string s,.string ⟨#[47]⟩] w (pO.Read w (spl 47 s.data.toList)):=
 lZ 47 (spl 47) rfl (RI 47) (JB 47) s w hs hM
theorem alO (b:UInt8) (L:List UInt8):decide (0≤Lib.indexByte L b)=L.contains b:=by
 have hge:=Lib.indexByte_ge L b
 by_cases h:Lib.indexByte L b= -1
 ·have hn:=Lib.indexByte_none h
  rw[decide_eq_false (by omega)]
  cases e:L.contains b with
  |false=>rfl
  |true=>
   have hm:b ∈ L:=by simpa using e
   obtain⟨j,hj,he⟩:=List.getElem_of_mem hm
   exact absurd (List.getElem?_eq_some_iff.2 ⟨hj,he⟩) (hn j)
 obtain⟨o,ho⟩:∃o:Nat,Lib.indexByte L b=o:=⟨(Lib.indexByte L b).toNat,by omega⟩
 have hs:=(Lib.indexByte_some ho).1
 rw[decide_eq_true (by omega)]
 obtain⟨hj,he⟩:=List.getElem?_eq_some_iff.1 hs
 symm
 simpa using(show b ∈ L by rw[←he];exact List.getElem_mem _)
theorem FN (b:UInt8) (s:ByteArray) (w:World):Calls Tryz.prog 104 #[.string s,.string ⟨#[b]⟩] w fun e w'=>e=.returned (.bool (s.data.toList.contains b))∧w=w':=by
 refine(Tryz.strings_Contains_one s b w).mono ?_
 rintro e w' ⟨rfl,rfl⟩
 exact⟨ak (alO b _),rfl⟩
theorem vP (s:ByteArray) (w:World) (hs:s.size≤900000):
  Calls Tryz.prog 101 #[.string s,.int .u8 47] w (Gj w (spl 47 s.data.toList)):=by
 have hsl:s.data.toList.length=s.size:=Array.length_toList
 obtain⟨i0,hi,hz0,hz1,hz2⟩:=info_parts pq
 have HSL:=hid hsl
 clear hsl
 obtain⟨R,hR⟩:∃R,R=spl 47 s.data.toList:=⟨_,rfl⟩
 have hrl:R.length≤s.size+1:=by have:=kD 47 s.data.toList;rw[←hR,HSL.out]at this;exact this
 rw[←hR]
 have HR:=hid hR
 clear hR
 go_enter Tryz.func101,Tryz.ntmps101
 go_wp2
 go_loopw [5,6,7,11] (fun vo vf _ vk wr=>∃(k f:Nat) (xs:List (List UInt8)),k≤s.size+1∧f≤k∧xs.length≤k∧vk=.int .i64 (k:Int)∧vf=.int .i64 (f:Int)∧Hid (wr.ownsRow w.heap.size 9 1 vo xs.length ((xs.map strOf).map Value.string))∧Hid (Below w.heap.size w wr)∧Hid (k≤s.size→spl 47 (s.data.toList.take k)=xs++[(s.data.toList.take k).drop f])∧Hid (k=s.size+1→R=xs)) (fun _ _ _ vk _=>s.size+1 - (intOf vk).toNat)
 case atStart=>exact⟨0,0,[],Nat.zero_le _,Nat.le_refl _,Nat.le_refl _,rfl,rfl,World.ownsRow_nil _ _ _ _,Below.refl _ _,fun _=>rfl,fun h=>absurd h (by omega)⟩
 case round=>
  obtain⟨k,f,xs,hk1,hfk,hxk,rfl,rfl,HO,HB,HW,HE⟩:=hrel
  obtain⟨m,hm⟩:∃m,m=xs.length:=⟨_,rfl⟩
  rw[←hm]at hxk
  have HM:=hid hm
  clear hm
  by_cases hlt:k<s.size+1
  ·have HW2:Hid (spl 47 (s.data.toList.take k)=xs++[(s.data.toList.take k).drop f]):=HW.out (by omega)
   clear HW HE
   obtain⟨X,hX⟩:∃X,X=s.extract f k:=⟨_,rfl⟩
   have hxe:s.extract f k=X:=hX.symm
   have HX:Hid (X=strOf ((s.data.toList.take k).drop f)):=by show _=_;rw[hX,ext_mid]
   have hfi:(f:Int)≤(k:Int):=by omega
   clear hX
   by_cases hks:k<s.size
   ·obtain ⟨c,hc⟩:∃c,s[k]=c:=⟨_,rfl⟩
    have hkl:k<s.data.toList.length:=by rw[HSL.out];exact hks
    have hcl:s.data.toList[k]=c:=hc
    have HS:Hid (s.data.toList.take (k+1)=s.data.toList.take k++[c]):=by rw[←hcl];exact take_snoc _ k hkl
    have HTL:Hid ((s.data.toList.take k).length=k):=by show _=_;rw[List.length_take,HSL.out];omega
    have q1:((k:Int)==(s.size:Int))=false:=by simp;omega
    have hki:(k:Int)≤(s.size:Int):=by omega
    clear hkl hcl
    by_cases h47:c=47
    ·have q2:((c.toNat:Int)==47)=true:=by rw[h47];rfl
     have HN:Hid (spl 47 (s.data.toList.take (k+1))=(xs++[(s.data.toList.take k).drop f])++[(s.data.toList.take (k+1)).drop (k+1)]):=by
      show _=_
      rw[HS.out,h47,Np 47,HW2.out]
      congr 2
      rw[List.drop_eq_nil_of_le]
      rw[List.length_append,HTL.out]
      exact Nat.le_refl _
     have HFE:Hid (k+1=s.size+1→R=xs++[(s.data.toList.take k).drop f]):=fun h=>absurd h (by omega)
     have hown:=HO.out
     have hbel:=HB.out
     rw[←HM.out]at hown
     clear h47
     go_wp2_with (at_builtin;refine aQ rfl _ _ 23 rfl w.heap.size 9 i0 (.string ByteArray.empty) 16 Tryz.underlying23 hi hz0 hz1 hz2 rfl _ m _ rfl hown hbel hbel.size [.string X] 1 rfl rfl (by intro u hu;simp at hu;subst hu;rfl) (by unfold maxLen;omega) (by omega) ?_)
     intro v7 w7 dU dA
     have Gg:Hid (w7.ownsRow w.heap.size 9 1 v7 (xs++[(s.data.toList.take k).drop f]).length (((xs++[(s.data.toList.take k).drop f]).map strOf).map Value.string)):=by
      show World.ownsRow _ _ _ _ _ _ _
      rw[List.length_append,List.map_append,List.map_append,←HM.out]
      show World.ownsRow _ _ _ _ _ (m+1) (_++[Value.string (strOf ((s.data.toList.take k).drop f))])
      rw[←HX.out]
      simpa using dU
     have HY:=hid dA
     clear hown hbel dU dA
     go_wp2
     go_roundw
     case rel=>exact⟨k+1,k+1,xs++[(s.data.toList.take k).drop f],by omega,Nat.le_refl _,by rw[List.length_append,←HM.out];show m+1≤_;omega,by go_num,by go_num,Gg,HY,fun _=>HN.out,HFE⟩
     case measure=>simp[intOf];omega
    ·have q2:((c.toNat:Int)==47)=false:=yO (d:=47) h47
     have HN:Hid (spl 47 (s.data.toList.take (k+1))=xs++[(s.data.toList.take (k+1)).drop f]):=by
      show _=_
      obtain⟨xs',x',e1,e2⟩:=Ef 47 c h47 (s.data.toList.take k)
      have h3:=HW2.out.symm.trans e1
      obtain⟨h4,h5⟩:=List.append_inj' h3 rfl
      have h5:(s.data.toList.take k).drop f=x':=by simpa using h5
      rw[HS.out,e2,←h4,←h5,List.drop_append_of_le_length (by rw[HTL.out];exact hfk)]
     have HFE:Hid (k+1=s.size+1→R=xs):=fun h=>absurd h (by omega)
     clear h47
     go_wp2
     go_roundw
     case rel=>exact⟨k+1,f,xs,by omega,by omega,by rw[←HM.out];omega,by go_num,rfl,HO,HB,fun _=>HN.out,HFE⟩
     case measure=>simp[intOf];omega
   ·have hke:k=s.size:=by omega
    have q1:((k:Int)==(s.size:Int))=true:=by simp;omega
    have hki:(k:Int)≤(s.size:Int):=by omega
    have HFE:Hid (k+1=s.size+1→R=xs++[(s.data.toList.take k).drop f]):=by
     intro _
     rw[←HW2.out,HR.out,List.take_of_length_le (by rw[HSL.out,hke];exact Nat.le_refl _)]
    have HFW:Hid (k+1≤s.size→spl 47 (s.data.toList.take (k+1))=(xs++[(s.data.toList.take k).drop f])++[(s.data.toList.take (k+1)).drop (k+1)]):=fun h=>absurd h (by omega)
    have hown:=HO.out
    have hbel:=HB.out
    rw[←HM.out]at hown
    clear hke
    go_wp2_with (at_builtin;refine aQ rfl _ _ 23 rfl w.heap.size 9 i0 (.string ByteArray.empty) 16 Tryz.underlying23 hi hz0 hz1 hz2 rfl _ m _ rfl hown hbel hbel.size [.string X] 1 rfl rfl (by intro u hu;simp at hu;subst hu;rfl) (by unfold maxLen;omega) (by omega) ?_)
    intro v7 w7 dU dA
    have Gg:Hid (w7.ownsRow w.heap.size 9 1 v7 (xs++[(s.data.toList.take k).drop f]).length (((xs++[(s.data.toList.take k).drop f]).map strOf).map Value.string)):=by
     show World.ownsRow _ _ _ _ _ _ _
     rw[List.length_append,List.map_append,List.map_append,←HM.out]
     show World.ownsRow _ _ _ _ _ (m+1) (_++[Value.string (strOf ((s.data.toList.take k).drop f))])
     rw[←HX.out]
     simpa using dU
    have HY:=hid dA
    clear hown hbel dU dA
    go_wp2
    go_roundw
    case rel=>exact⟨k+1,k+1,xs++[(s.data.toList.take k).drop f],by omega,Nat.le_refl _,by rw[List.length_append,←HM.out];show m+1≤_;omega,by go_num,by go_num,Gg,HY,HFW,HFE⟩
    case measure=>simp[intOf];omega
  ·obtain rfl:k=s.size+1:=by omega
   obtain⟨vA,vc,rfl,_,_,_⟩:=aJ HO.out
   have HXX:Hid (Gj w R (.returned (.slice vA xs.length vc)) wr):=by
    rw[HE.out rfl]
    exact⟨_,rfl,HO.out,HB.out⟩
   go_wp2
   go_ret
   exact HXX.out
end Go.Proofs.YtmpeaoacaecgpaaGreatDoor.Sls
namespace Go.Proofs.YtmpeaoacaecgpaaGreatDoor.RefS
open Go.RowKit Base Base2 qh
def JV (t:List UInt8):Prop:=∀c ∈ t,128≤(c.toNat:Int)∧(c.toNat:Int)≤191
instance (t:List UInt8):Decidable (JV t):=by unfold JV;exact inferInstance
def Fv (x y:Int):Prop:=x=224∧y<160∨x=237∧159<y∨x=240∧y<144∨x=244∧143<y
instance (x y:Int):Decidable (Fv x y):=by unfold Fv;exact inferInstance
def bad (x:Int):List UInt8→Prop
 |[]=>False
 |y::_=>Fv x y.toNat
instance (x:Int) (t:List UInt8):Decidable (bad x t):=by cases t<;>unfold bad<;>exact inferInstance
def st:List UInt8→Bool×Bool
 |[]=>(false,false)
 |x::t=>if size x.toNat<(t.length:Int)+1∨¬JV t∨bad x.toNat t then(false,false)else(true,decide ((t.length:Int)+1=size x.toNat))
def WO (L:List UInt8) (k:Nat):Prop:=∀j (h:j<L.length),1≤j→j<k→128≤(L[j].toNat:Int)∧(L[j].toNat:Int)≤191
theorem Jc (x:UInt8) (t:List UInt8) (h:WO (x::t) (t.length+1)):JV t:=by
 intro c hc
 obtain⟨i,hi,rfl⟩:=List.mem_iff_getElem.1 hc
 have:=h (i+1) (by simp;omega) (by omega) (by omega)
 simpa using this
theorem Jd (x:UInt8) (t:List UInt8) (k:Nat) (hk:k<t.length+1) (h1:1≤k) (hb:((x::t)[k].toNat:Int)<128∨191<((x::t)[k].toNat:Int)):¬JV t:=by
 intro h
 obtain⟨i,rfl⟩:∃i,k=i+1:=⟨k - 1,by omega⟩
 have:=h t[i] (List.getElem_mem _)
 simp at hb
 omega
theorem QO {a b c:Prop} (h1:¬a) (h2:b) (h3:¬c):¬(a∨¬b∨c):=by
 rintro(h|h|h)
 ·exact h1 h
 ·exact h h2
 exact h3 h
theorem xu (x:UInt8) (t:List UInt8) (h:size x.toNat<(t.length:Int)+1∨¬JV t∨bad x.toNat t):st (x::t)=(false,false):=by rw[st,if_pos h]
theorem vT (x:UInt8) (t:List UInt8) (h:¬(size x.toNat<(t.length:Int)+1∨¬JV t∨bad x.toNat t)):st (x::t)=(true,decide ((t.length:Int)+1=size x.toNat)):=by rw[st,if_neg h]
theorem anF (b off cap : Nat) (x : UInt8) (t : List UInt8) (n : Nat) (w : World) (hn : t.length + 1 = n) (hm : n ≤ 16) (hz : size x.toNat = 1)
  (hL:∀j (h:j<(x::t).length),w.cell? ⟨b,off+j,none⟩=some (.int .u8 ((x::t)[j].toNat:Int)))
  (k1:(x.toNat:Int)<128)
  (R:Bool×Bool) (hR:R=st (x::t)):
  Calls Tryz.prog 157 #[.slice (some ⟨b,off,none⟩) n cap] w fun e w'=>e=.returned (.tuple #[.bool R.1,.bool R.2])∧w=w':=by
 have hc0:w.cell? ⟨b,off,none⟩=some (.int .u8 (x.toNat:Int)):=by
  have:=hL 0 (by simp)
  rw[Nat.add_zero]at this
  exact this
 have HL:=hid hL
 have HN:=hid hn
 have HZ:=hid hz
 have HR:=hid hR
 have hp:(0:Int)<(n:Int):=by omega
 clear hL hn hz hR
 by_cases alY:(1:Int)<(n:Int)
 ·have HE:Hid (R=(false,false)):=by
   have e:=HR.out
   rw[xu x t (.inl (by rw[HZ.out];have:=HN.out;omega))]at e
   exact e
  go_enter Tryz.func157,Tryz.ntmps157
  go_wp2
  go_ret2
  rw[HE.out]
  exact⟨rfl,rfl⟩
 ·go_enter Tryz.func157,Tryz.ntmps157
  go_wp2
  go_loop [5] (fun vk=>∃k:Nat,1≤k∧k≤n∧vk=.int .i64 k∧Hid (WO (x::t) k)) (fun vk=>n - (intOf vk).toNat)
  case atStart=>exact⟨1,by omega,by omega,rfl,fun j _ h1 h2=>absurd h2 (by omega)⟩
  case round=>
   obtain⟨k,hk1,hk2,rfl,HO⟩:=hrel
   by_cases hlt:k<n
   ·have hlx:k<(x::t).length:=by have:=HN.out;simp;omega
    obtain⟨c,hc⟩:∃c,c=(x::t)[k]:=⟨_,rfl⟩
    have hcell:w.cell? ⟨b,off+k,none⟩=some (.int .u8 (c.toNat:Int)):=by rw[hc];exact HL.out k hlx
    have HC:=hid hc
    clear hc
    by_cases hb:(c.toNat:Int)<128∨191<(c.toNat:Int)
    ·have HE:Hid (R=(false,false)):=by
      have e:=HR.out
      rw[xu x t (.inr (.inl (Jd x t k (by have:=HN.out;omega) hk1 (by rw[←HC.out];exact hb))))]at e
      exact e
     rcases hb with hb|hb
     ·go_wp2
      go_ret2
      rw[HE.out]
      exact⟨rfl,rfl⟩
     ·have hb':¬(c.toNat:Int)<128:=by omega
      go_wp2
      go_ret2
      rw[HE.out]
      exact⟨rfl,rfl⟩
    ·have hb1:¬(c.toNat:Int)<128:=by omega
     have hb2:¬191<(c.toNat:Int):=by omega
     have jy:Hid (WO (x::t) (k+1)):=fun j hj h1 h2=>by
      by_cases e:j=k
      ·subst e
       rw[←HC.out]
       omega
      ·exact HO.out j hj h1 (by omega)
     clear hb HO
     go_wp2
     go_round
     case rel=>exact⟨k+1,by omega,by omega,by go_num,jy⟩
     case measure=>simp[intOf];omega
   ·skip
    obtain rfl:k=n:=by omega
    have HA:Hid (JV t):=Jc x t (by have e:=HN.out;rw[e];exact HO.out)
    clear HO hlt
    cases t with
    |nil=>
     have hn1:=HN.out
     simp at hn1
     have HE:Hid (R=(true,decide ((k:Int)=1))):=by
      have e:=HR.out
      rw[vT x [] (QO (by rw[HZ.out];simp) HA.out (fun h=>h)),HZ.out]at e
      rw[e,←hn1]
      exact rfl
     have hn2:¬(1:Int)<(k:Int):=by omega
     clear hn1
     go_wp2
     go_ret2
     rw[HE.out]
     exact⟨vS rfl (iO (by rw[Bool.eq_iff_iff];simp)),rfl⟩
    | cons y t'=>
     have hc1:w.cell? ⟨b,off+1,none⟩=some (.int .u8 (y.toNat:Int)):=HL.out 1 (by simp)
     have hn1:=HN.out
     simp only[List.length_cons]at hn1
     have hn2:(1:Int)<(k:Int):=by omega
     have hy0:0≤(y.toNat:Int)∧(y.toNat:Int)<256:=by have:=y.toNat_lt;omega
     have HK:Hid ((((y::t').length:Nat):Int)+1=k):=by show _=_;simp only[List.length_cons];omega
     clear hn1
     by_cases hbd:Fv x.toNat y.toNat
     ·have HE:Hid (R=(false,false)):=by
       have e:=HR.out
       rw[xu x (y::t') (.inr (.inr hbd))]at e
       exact e
      unfold Fv at hbd
      exact absurd hbd (by omega)
     ·have HE:Hid (R=(true,decide ((k:Int)=1))):=by
       have e:=HR.out
       rw[vT x (y::t') (QO (by rw[HZ.out];have:=HK.out;omega) HA.out hbd),HZ.out,HK.out]at e
       exact e
      unfold Fv at hbd
      clear hbd
      go_wp2
      all_goals
       go_ret2
       rw[HE.out]
       exact⟨vS rfl (iO (by rw[Bool.eq_iff_iff];simp)),rfl⟩
theorem anG (b off cap : Nat) (x : UInt8) (t : List UInt8) (n : Nat) (w : World) (hn : t.length + 1 = n) (hm : n ≤ 16) (hz : size x.toNat = 2)
  (hL:∀j (h:j<(x::t).length),w.cell? ⟨b,off+j,none⟩=some (.int .u8 ((x::t)[j].toNat:Int)))
  (k1:194≤(x.toNat:Int)) (k2:(x.toNat:Int)≤223)
  (R:Bool×Bool) (hR:R=st (x::t)):
  Calls Tryz.prog 157 #[.slice (some ⟨b,off,none⟩) n cap] w fun e w'=>e=.returned (.tuple #[.bool R.1,.bool R.2])∧w=w':=by
 have hc0:w.cell? ⟨b,off,none⟩=some (.int .u8 (x.toNat:Int)):=by
  have:=hL 0 (by simp)
  rw[Nat.add_zero]at this
  exact this
 have HL:=hid hL
 have HN:=hid hn
 have HZ:=hid hz
 have HR:=hid hR
 have hp:(0:Int)<(n:Int):=by omega
 clear hL hn hz hR
 by_cases alY:(2:Int)<(n:Int)
 ·have HE:Hid (R=(false,false)):=by
   have e:=HR.out
   rw[xu x t (.inl (by rw[HZ.out];have:=HN.out;omega))]at e
   exact e
  go_enter Tryz.func157,Tryz.ntmps157
  go_wp2
  go_ret2
  rw[HE.out]
  exact⟨rfl,rfl⟩
 ·go_enter Tryz.func157,Tryz.ntmps157
  go_wp2
  go_loop [5] (fun vk=>∃k:Nat,1≤k∧k≤n∧vk=.int .i64 k∧Hid (WO (x::t) k)) (fun vk=>n - (intOf vk).toNat)
  case atStart=>exact⟨1,by omega,by omega,rfl,fun j _ h1 h2=>absurd h2 (by omega)⟩
  case round=>
   obtain⟨k,hk1,hk2,rfl,HO⟩:=hrel
   by_cases hlt:k<n
   ·have hlx:k<(x::t).length:=by have:=HN.out;simp;omega
    obtain⟨c,hc⟩:∃c,c=(x::t)[k]:=⟨_,rfl⟩
    have hcell:w.cell? ⟨b,off+k,none⟩=some (.int .u8 (c.toNat:Int)):=by rw[hc];exact HL.out k hlx
    have HC:=hid hc
    clear hc
    by_cases hb:(c.toNat:Int)<128∨191<(c.toNat:Int)
    ·have HE:Hid (R=(false,false)):=by
      have e:=HR.out
      rw[xu x t (.inr (.inl (Jd x t k (by have:=HN.out;omega) hk1 (by rw[←HC.out];exact hb))))]at e
      exact e
     rcases hb with hb|hb
     ·go_wp2
      go_ret2
      rw[HE.out]
      exact⟨rfl,rfl⟩
     ·have hb':¬(c.toNat:Int)<128:=by omega
      go_wp2
      go_ret2
      rw[HE.out]
      exact⟨rfl,rfl⟩
    ·have hb1:¬(c.toNat:Int)<128:=by omega
     have hb2:¬191<(c.toNat:Int):=by omega
     have jy:Hid (WO (x::t) (k+1)):=fun j hj h1 h2=>by
      by_cases e:j=k
      ·subst e
       rw[←HC.out]
       omega
      ·exact HO.out j hj h1 (by omega)
     clear hb HO
     go_wp2
     go_round
     case rel=>exact⟨k+1,by omega,by omega,by go_num,jy⟩
     case measure=>simp[intOf];omega
   ·skip
    obtain rfl:k=n:=by omega
    have HA:Hid (JV t):=Jc x t (by have e:=HN.out;rw[e];exact HO.out)
    clear HO hlt
    cases t with
    |nil=>
     have hn1:=HN.out
     simp at hn1
     have HE:Hid (R=(true,decide ((k:Int)=2))):=by
      have e:=HR.out
      rw[vT x [] (QO (by rw[HZ.out];simp) HA.out (fun h=>h)),HZ.out]at e
      rw[e,←hn1]
      exact rfl
     have hn2:¬(1:Int)<(k:Int):=by omega
     clear hn1
     go_wp2
     go_ret2
     rw[HE.out]
     exact⟨vS rfl (iO (by rw[Bool.eq_iff_iff];simp)),rfl⟩
    | cons y t'=>
     have hc1:w.cell? ⟨b,off+1,none⟩=some (.int .u8 (y.toNat:Int)):=HL.out 1 (by simp)
     have hn1:=HN.out
     simp only[List.length_cons]at hn1
     have hn2:(1:Int)<(k:Int):=by omega
     have hy0:0≤(y.toNat:Int)∧(y.toNat:Int)<256:=by have:=y.toNat_lt;omega
     have HK:Hid ((((y::t').length:Nat):Int)+1=k):=by show _=_;simp only[List.length_cons];omega
     clear hn1
     by_cases hbd:Fv x.toNat y.toNat
     ·have HE:Hid (R=(false,false)):=by
       have e:=HR.out
       rw[xu x (y::t') (.inr (.inr hbd))]at e
       exact e
      unfold Fv at hbd
      exact absurd hbd (by omega)
     ·have HE:Hid (R=(true,decide ((k:Int)=2))):=by
       have e:=HR.out
       rw[vT x (y::t') (QO (by rw[HZ.out];have:=HK.out;omega) HA.out hbd),HZ.out,HK.out]at e
       exact e
      unfold Fv at hbd
      clear hbd
      go_wp2
      all_goals
       go_ret2
       rw[HE.out]
       exact⟨vS rfl (iO (by rw[Bool.eq_iff_iff];simp)),rfl⟩
theorem anH (b off cap:Nat) (x:UInt8) (t:List UInt8) (n:Nat) (w:World) (hn:t.length+1=n) (hm:n≤16) (hz:size x.toNat=3)
  (hL:∀j (h:j<(x::t).length),w.cell? ⟨b,off+j,none⟩=some (.int .u8 ((x::t)[j].toNat:Int)))
  (k1:224≤(x.toNat:Int)) (k2:(x.toNat:Int)≤239)
  (R:Bool×Bool) (hR:R=st (x::t)):
  Calls Tryz.prog 157 #[.slice (some ⟨b,off,none⟩) n cap] w fun e w'=>e=.returned (.tuple #[.bool R.1,.bool R.2])∧w=w':=by
 have hc0:w.cell? ⟨b,off,none⟩=some (.int .u8 (x.toNat:Int)):=by
  have:=hL 0 (by simp)
  rw[Nat.add_zero]at this
  exact this
 have HL:=hid hL
 have HN:=hid hn
 have HZ:=hid hz
 have HR:=hid hR
 have hp:(0:Int)<(n:Int):=by omega
 clear hL hn hz hR
 by_cases alY:(3:Int)<(n:Int)
 ·have HE:Hid (R=(false,false)):=by
   have e:=HR.out
   rw[xu x t (.inl (by rw[HZ.out];have:=HN.out;omega))]at e
   exact e
  go_enter Tryz.func157,Tryz.ntmps157
  go_wp2
  go_ret2
  rw[HE.out]
  exact⟨rfl,rfl⟩
 ·go_enter Tryz.func157,Tryz.ntmps157
  go_wp2
  go_loop [5] (fun vk=>∃k:Nat,1≤k∧k≤n∧vk=.int .i64 k∧Hid (WO (x::t) k)) (fun vk=>n - (intOf vk).toNat)
  case atStart=>exact⟨1,by omega,by omega,rfl,fun j _ h1 h2=>absurd h2 (by omega)⟩
  case round=>
   obtain⟨k,hk1,hk2,rfl,HO⟩:=hrel
   by_cases hlt:k<n
   ·have hlx:k<(x::t).length:=by have:=HN.out;simp;omega
    obtain⟨c,hc⟩:∃c,c=(x::t)[k]:=⟨_,rfl⟩
    have hcell:w.cell? ⟨b,off+k,none⟩=some (.int .u8 (c.toNat:Int)):=by rw[hc];exact HL.out k hlx
    have HC:=hid hc
    clear hc
    by_cases hb:(c.toNat:Int)<128∨191<(c.toNat:Int)
    ·have HE:Hid (R=(false,false)):=by
      have e:=HR.out
      rw[xu x t (.inr (.inl (Jd x t k (by have:=HN.out;omega) hk1 (by rw[←HC.out];exact hb))))]at e
      exact e
     rcases hb with hb|hb
     ·go_wp2
      go_ret2
      rw[HE.out]
      exact⟨rfl,rfl⟩
     ·have hb':¬(c.toNat:Int)<128:=by omega
      go_wp2
      go_ret2
      rw[HE.out]
      exact⟨rfl,rfl⟩
    ·have hb1:¬(c.toNat:Int)<128:=by omega
     have hb2:¬191<(c.toNat:Int):=by omega
     have jy:Hid (WO (x::t) (k+1)):=fun j hj h1 h2=>by
      by_cases e:j=k
      ·subst e
       rw[←HC.out]
       omega
      ·exact HO.out j hj h1 (by omega)
     clear hb HO
     go_wp2
     go_round
     case rel=>exact⟨k+1,by omega,by omega,by go_num,jy⟩
     case measure=>simp[intOf];omega
   ·skip
    obtain rfl:k=n:=by omega
    have HA:Hid (JV t):=Jc x t (by have e:=HN.out;rw[e];exact HO.out)
    clear HO hlt
    cases t with
    |nil=>
     have hn1:=HN.out
     simp at hn1
     have HE:Hid (R=(true,decide ((k:Int)=3))):=by
      have e:=HR.out
      rw[vT x [] (QO (by rw[HZ.out];simp) HA.out (fun h=>h)),HZ.out]at e
      rw[e,←hn1]
      exact rfl
     have hn2:¬(1:Int)<(k:Int):=by omega
     clear hn1
     go_wp2
     go_ret2
     rw[HE.out]
     exact⟨vS rfl (iO (by rw[Bool.eq_iff_iff];simp)),rfl⟩
    | cons y t'=>
     have hc1:w.cell? ⟨b,off+1,none⟩=some (.int .u8 (y.toNat:Int)):=HL.out 1 (by simp)
     have hn1:=HN.out
     simp only[List.length_cons]at hn1
     have hn2:(1:Int)<(k:Int):=by omega
     have hy0:0≤(y.toNat:Int)∧(y.toNat:Int)<256:=by have:=y.toNat_lt;omega
     have HK:Hid ((((y::t').length:Nat):Int)+1=k):=by show _=_;simp only[List.length_cons];omega
     clear hn1
     by_cases hbd:Fv x.toNat y.toNat
     ·have HE:Hid (R=(false,false)):=by
       have e:=HR.out
       rw[xu x (y::t') (.inr (.inr hbd))]at e
       exact e
      unfold Fv at hbd
      rcases hbd with hbd|hbd|hbd|hbd
      ·obtain⟨q1,q2⟩:=hbd
       have q3:((x.toNat:Int)==224)=true:=by rw[beq_iff_eq];exact q1
       have aek:((x.toNat:Int)==237)=false:=by rw[beq_eq_false_iff_ne];omega
       have ael:((x.toNat:Int)==240)=false:=by rw[beq_eq_false_iff_ne];omega
       have aem:((x.toNat:Int)==244)=false:=by rw[beq_eq_false_iff_ne];omega
       clear q1
       go_wp2
       go_ret2
       rw[HE.out]
       exact⟨rfl,rfl⟩
      ·obtain⟨q1,q2⟩:=hbd
       have q3:((x.toNat:Int)==237)=true:=by rw[beq_iff_eq];exact q1
       have aej:((x.toNat:Int)==224)=false:=by rw[beq_eq_false_iff_ne];omega
       have ael:((x.toNat:Int)==240)=false:=by rw[beq_eq_false_iff_ne];omega
       have aem:((x.toNat:Int)==244)=false:=by rw[beq_eq_false_iff_ne];omega
       clear q1
       go_wp2
       go_ret2
       rw[HE.out]
       exact⟨rfl,rfl⟩
      ·exact absurd hbd.1 (by omega)
      ·exact absurd hbd.1 (by omega)
     ·have HE:Hid (R=(true,decide ((k:Int)=3))):=by
       have e:=HR.out
       rw[vT x (y::t') (QO (by rw[HZ.out];have:=HK.out;omega) HA.out hbd),HZ.out,HK.out]at e
       exact e
      unfold Fv at hbd
      by_cases e1:(x.toNat:Int)=224
      ·have q1:((x.toNat:Int)==224)=true:=by rw[beq_iff_eq];exact e1
       have q2:¬(y.toNat:Int)<160:=by omega
       have aek:((x.toNat:Int)==237)=false:=by rw[beq_eq_false_iff_ne];omega
       have ael:((x.toNat:Int)==240)=false:=by rw[beq_eq_false_iff_ne];omega
       have aem:((x.toNat:Int)==244)=false:=by rw[beq_eq_false_iff_ne];omega
       clear e1 hbd
       go_wp2
       all_goals
        go_ret2
        rw[HE.out]
        exact⟨vS rfl (iO (by rw[Bool.eq_iff_iff];simp)),rfl⟩
      ·by_cases e2:(x.toNat:Int)=237
       ·have q1:((x.toNat:Int)==237)=true:=by rw[beq_iff_eq];exact e2
        have q2:¬159<(y.toNat:Int):=by omega
        have aej:((x.toNat:Int)==224)=false:=by rw[beq_eq_false_iff_ne];omega
        have ael:((x.toNat:Int)==240)=false:=by rw[beq_eq_false_iff_ne];omega
        have aem:((x.toNat:Int)==244)=false:=by rw[beq_eq_false_iff_ne];omega
        clear e1 e2 hbd
        go_wp2
        all_goals
         go_ret2
         rw[HE.out]
         exact⟨vS rfl (iO (by rw[Bool.eq_iff_iff];simp)),rfl⟩
       ·skip
        have aej:((x.toNat:Int)==224)=false:=by rw[beq_eq_false_iff_ne];omega
        have aek:((x.toNat:Int)==237)=false:=by rw[beq_eq_false_iff_ne];omega
        have ael:((x.toNat:Int)==240)=false:=by rw[beq_eq_false_iff_ne];omega
        have aem:((x.toNat:Int)==244)=false:=by rw[beq_eq_false_iff_ne];omega
        clear e1 e2 hbd
        go_wp2
        all_goals
         go_ret2
         rw[HE.out]
         exact⟨vS rfl (iO (by rw[Bool.eq_iff_iff];simp)),rfl⟩
theorem anI (b off cap:Nat) (x:UInt8) (t:List UInt8) (n:Nat) (w:World) (hn:t.length+1=n) (hm:n≤16) (hz:size x.toNat=4)
  (hL:∀j (h:j<(x::t).length),w.cell? ⟨b,off+j,none⟩=some (.int .u8 ((x::t)[j].toNat:Int)))
  (k1:240≤(x.toNat:Int)) (k2:(x.toNat:Int)≤244)
  (R:Bool×Bool) (hR:R=st (x::t)):
  Calls Tryz.prog 157 #[.slice (some ⟨b,off,none⟩) n cap] w fun e w'=>e=.returned (.tuple #[.bool R.1,.bool R.2])∧w=w':=by
 have hc0:w.cell? ⟨b,off,none⟩=some (.int .u8 (x.toNat:Int)):=by
  have:=hL 0 (by simp)
  rw[Nat.add_zero]at this
  exact this
 have HL:=hid hL
 have HN:=hid hn
 have HZ:=hid hz
 have HR:=hid hR
 have hp:(0:Int)<(n:Int):=by omega
 clear hL hn hz hR
 by_cases alY:(4:Int)<(n:Int)
 ·have HE:Hid (R=(false,false)):=by
   have e:=HR.out
   rw[xu x t (.inl (by rw[HZ.out];have:=HN.out;omega))]at e
   exact e
  go_enter Tryz.func157,Tryz.ntmps157
  go_wp2
  go_ret2
  rw[HE.out]
  exact⟨rfl,rfl⟩
 ·go_enter Tryz.func157,Tryz.ntmps157
  go_wp2
  go_loop [5] (fun vk=>∃k:Nat,1≤k∧k≤n∧vk=.int .i64 k∧Hid (WO (x::t) k)) (fun vk=>n - (intOf vk).toNat)
  case atStart=>exact⟨1,by omega,by omega,rfl,fun j _ h1 h2=>absurd h2 (by omega)⟩
  case round=>
   obtain⟨k,hk1,hk2,rfl,HO⟩:=hrel
   by_cases hlt:k<n
   ·have hlx:k<(x::t).length:=by have:=HN.out;simp;omega
    obtain⟨c,hc⟩:∃c,c=(x::t)[k]:=⟨_,rfl⟩
    have hcell:w.cell? ⟨b,off+k,none⟩=some (.int .u8 (c.toNat:Int)):=by rw[hc];exact HL.out k hlx
    have HC:=hid hc
    clear hc
    by_cases hb:(c.toNat:Int)<128∨191<(c.toNat:Int)
    ·have HE:Hid (R=(false,false)):=by
      have e:=HR.out
      rw[xu x t (.inr (.inl (Jd x t k (by have:=HN.out;omega) hk1 (by rw[←HC.out];exact hb))))]at e
      exact e
     rcases hb with hb|hb
     ·go_wp2
      go_ret2
      rw[HE.out]
      exact⟨rfl,rfl⟩
     ·have hb':¬(c.toNat:Int)<128:=by omega
      go_wp2
      go_ret2
      rw[HE.out]
      exact⟨rfl,rfl⟩
    ·have hb1:¬(c.toNat:Int)<128:=by omega
     have hb2:¬191<(c.toNat:Int):=by omega
     have jy:Hid (WO (x::t) (k+1)):=fun j hj h1 h2=>by
      by_cases e:j=k
      ·subst e
       rw[←HC.out]
       omega
      ·exact HO.out j hj h1 (by omega)
     clear hb HO
     go_wp2
     go_round
     case rel=>exact⟨k+1,by omega,by omega,by go_num,jy⟩
     case measure=>simp[intOf];omega
   ·skip
    obtain rfl:k=n:=by omega
    have HA:Hid (JV t):=Jc x t (by have e:=HN.out;rw[e];exact HO.out)
    clear HO hlt
    cases t with
    |nil=>
     have hn1:=HN.out
     simp at hn1
     have HE:Hid (R=(true,decide ((k:Int)=4))):=by
      have e:=HR.out
      rw[vT x [] (QO (by rw[HZ.out];simp) HA.out (fun h=>h)),HZ.out]at e
      rw[e,←hn1]
      exact rfl
     have hn2:¬(1:Int)<(k:Int):=by omega
     clear hn1
     go_wp2
     go_ret2
     rw[HE.out]
     exact⟨vS rfl (iO (by rw[Bool.eq_iff_iff];simp)),rfl⟩
    | cons y t'=>
     have hc1:w.cell? ⟨b,off+1,none⟩=some (.int .u8 (y.toNat:Int)):=HL.out 1 (by simp)
     have hn1:=HN.out
     simp only[List.length_cons]at hn1
     have hn2:(1:Int)<(k:Int):=by omega
     have hy0:0≤(y.toNat:Int)∧(y.toNat:Int)<256:=by have:=y.toNat_lt;omega
     have HK:Hid ((((y::t').length:Nat):Int)+1=k):=by show _=_;simp only[List.length_cons];omega
     clear hn1
     by_cases hbd:Fv x.toNat y.toNat
     ·have HE:Hid (R=(false,false)):=by
       have e:=HR.out
       rw[xu x (y::t') (.inr (.inr hbd))]at e
       exact e
      unfold Fv at hbd
      rcases hbd with hbd|hbd|hbd|hbd
      ·exact absurd hbd.1 (by omega)
      ·exact absurd hbd.1 (by omega)
      ·obtain⟨q1,q2⟩:=hbd
       have q3:((x.toNat:Int)==240)=true:=by rw[beq_iff_eq];exact q1
       have aej:((x.toNat:Int)==224)=false:=by rw[beq_eq_false_iff_ne];omega
       have aek:((x.toNat:Int)==237)=false:=by rw[beq_eq_false_iff_ne];omega
       have aem:((x.toNat:Int)==244)=false:=by rw[beq_eq_false_iff_ne];omega
       clear q1
       go_wp2
       go_ret2
       rw[HE.out]
       exact⟨rfl,rfl⟩
      ·obtain⟨q1,q2⟩:=hbd
       have q3:((x.toNat:Int)==244)=true:=by rw[beq_iff_eq];exact q1
       have aej:((x.toNat:Int)==224)=false:=by rw[beq_eq_false_iff_ne];omega
       have aek:((x.toNat:Int)==237)=false:=by rw[beq_eq_false_iff_ne];omega
       have ael:((x.toNat:Int)==240)=false:=by rw[beq_eq_false_iff_ne];omega
       clear q1
       go_wp2
       go_ret2
       rw[HE.out]
       exact⟨rfl,rfl⟩
     ·have HE:Hid (R=(true,decide ((k:Int)=4))):=by
       have e:=HR.out
       rw[vT x (y::t') (QO (by rw[HZ.out];have:=HK.out;omega) HA.out hbd),HZ.out,HK.out]at e
       exact e
      unfold Fv at hbd
      by_cases e1:(x.toNat:Int)=240
      ·have q1:((x.toNat:Int)==240)=true:=by rw[beq_iff_eq];exact e1
       have q2:¬(y.toNat:Int)<144:=by omega
       have aej:((x.toNat:Int)==224)=false:=by rw[beq_eq_false_iff_ne];omega
       have aek:((x.toNat:Int)==237)=false:=by rw[beq_eq_false_iff_ne];omega
       have aem:((x.toNat:Int)==244)=false:=by rw[beq_eq_false_iff_ne];omega
       clear e1 hbd
       go_wp2
       all_goals
        go_ret2
        rw[HE.out]
        exact⟨vS rfl (iO (by rw[Bool.eq_iff_iff];simp)),rfl⟩
      ·by_cases e2:(x.toNat:Int)=244
       ·have q1:((x.toNat:Int)==244)=true:=by rw[beq_iff_eq];exact e2
        have q2:¬143<(y.toNat:Int):=by omega
        have aej:((x.toNat:Int)==224)=false:=by rw[beq_eq_false_iff_ne];omega
        have aek:((x.toNat:Int)==237)=false:=by rw[beq_eq_false_iff_ne];omega
        have ael:((x.toNat:Int)==240)=false:=by rw[beq_eq_false_iff_ne];omega
        clear e1 e2 hbd
        go_wp2
        all_goals
         go_ret2
         rw[HE.out]
         exact⟨vS rfl (iO (by rw[Bool.eq_iff_iff];simp)),rfl⟩
       ·skip
        have aej:((x.toNat:Int)==224)=false:=by rw[beq_eq_false_iff_ne];omega
        have aek:((x.toNat:Int)==237)=false:=by rw[beq_eq_false_iff_ne];omega
        have ael:((x.toNat:Int)==240)=false:=by rw[beq_eq_false_iff_ne];omega
        have aem:((x.toNat:Int)==244)=false:=by rw[beq_eq_false_iff_ne];omega
        clear e1 e2 hbd
        go_wp2
        all_goals
         go_ret2
         rw[HE.out]
         exact⟨vS rfl (iO (by rw[Bool.eq_iff_iff];simp)),rfl⟩
theorem aiL (b off cap:Nat) (x:UInt8) (t:List UInt8) (n:Nat) (w:World) (hn:t.length+1=n) (hm:n≤16) (hz:size x.toNat=0)
  (hL:∀j (h:j<(x::t).length),w.cell? ⟨b,off+j,none⟩=some (.int .u8 ((x::t)[j].toNat:Int)))
  (k1:128≤(x.toNat:Int)) (k2:(x.toNat:Int)≤193)
  (R:Bool×Bool) (hR:R=st (x::t)):
  Calls Tryz.prog 157 #[.slice (some ⟨b,off,none⟩) n cap] w fun e w'=>e=.returned (.tuple #[.bool R.1,.bool R.2])∧w=w':=by
 have hc0:w.cell? ⟨b,off,none⟩=some (.int .u8 (x.toNat:Int)):=by
  have:=hL 0 (by simp)
  rw[Nat.add_zero]at this
  exact this
 have HL:=hid hL
 have HN:=hid hn
 have HZ:=hid hz
 have HR:=hid hR
 have hp:(0:Int)<(n:Int):=by omega
 clear hL hn hz hR
 have HE:Hid (R=(false,false)):=by
  have e:=HR.out
  rw[xu x t (.inl (by rw[HZ.out];have:=HN.out;omega))]at e
  exact e
 go_enter Tryz.func157,Tryz.ntmps157
 go_wp2
 go_ret2
 rw[HE.out]
 exact⟨rfl,rfl⟩
theorem aiM (b off cap:Nat) (x:UInt8) (t:List UInt8) (n:Nat) (w:World) (hn:t.length+1=n) (hm:n≤16) (hz:size x.toNat=0)
  (hL:∀j (h:j<(x::t).length),w.cell? ⟨b,off+j,none⟩=some (.int .u8 ((x::t)[j].toNat:Int)))
  (k1:245≤(x.toNat:Int))
  (R:Bool×Bool) (hR:R=st (x::t)):
  Calls Tryz.prog 157 #[.slice (some ⟨b,off,none⟩) n cap] w fun e w'=>e=.returned (.tuple #[.bool R.1,.bool R.2])∧w=w':=by
 have hc0:w.cell? ⟨b,off,none⟩=some (.int .u8 (x.toNat:Int)):=by
  have:=hL 0 (by simp)
  rw[Nat.add_zero]at this
  exact this
 have HL:=hid hL
 have HN:=hid hn
 have HZ:=hid hz
 have HR:=hid hR
 have hp:(0:Int)<(n:Int):=by omega
 clear hL hn hz hR
 have HE:Hid (R=(false,false)):=by
  have e:=HR.out
  rw[xu x t (.inl (by rw[HZ.out];have:=HN.out;omega))]at e
  exact e
 go_enter Tryz.func157,Tryz.ntmps157
 go_wp2
 go_ret2
 rw[HE.out]
 exact⟨rfl,rfl⟩
end Go.Proofs.YtmpeaoacaecgpaaGreatDoor.RefS
namespace Go.Proofs.YtmpeaoacaecgpaaGreatDoor.RefN
open Go.RowKit Base Base2 qh RefS
def inR:Int→Int→List UInt8→Prop
 |_,_,[]=>True
 |l,h,c::t=>l≤(c.toNat:Int)∧(c.toNat:Int)≤h∧inR 128 191 t
def fo (r:Int) (t:List UInt8):Int:=t.foldl (fun r c=>r*64+(c.toNat:Int)%64) r
theorem RY:∀(p:List UInt8) (m k:Nat) (l h r:Int) (rest:List UInt8),inR l h p→p.length=m→tail m k l h r (p++rest)=(fo r p,((k+m:Nat):Int),true)
 |[],m,k,l,h,r,rest,_,hm=>by
  simp at hm
  subst hm
  simp[tail,fo]
 |c::p,0,k,l,h,r,rest,_,hm=>by simp at hm
 |c::p,m+1,k,l,h,r,rest,hi,hm=>by
  obtain⟨h1,h2,h3⟩:=hi
  rw[List.cons_append,tail,if_neg (by omega),RY p m (k+1) 128 191 _ rest h3 (by simpa using hm)]
  refine Prod.ext rfl (Prod.ext ?_ rfl)
  simp only
  omega
theorem Wh:∀(p:List UInt8) (m k:Nat) (l h r:Int) (rest:List UInt8),inR l h p→p.length<m→(rest=[]∨∃c t,rest=c::t∧(p=[]→((c.toNat:Int)<l∨h<(c.toNat:Int)))∧(p≠[]→((c.toNat:Int)<128∨191<(c.toNat:Int))))→
  tail m k l h r (p++rest)=(65533,((k+p.length:Nat):Int),false)
 |_,0,_,_,_,_,_,_,hm,_=>by simp at hm
 |[],m+1,k,l,h,r,rest,_,hm,hr=>by
  rcases hr with rfl|⟨c,t,rfl,hc,_⟩
  ·simp[tail]
  ·rw[List.nil_append,tail,if_pos (hc rfl)]
   simp
 |c::p,m+1,k,l,h,r,rest,hi,hm,hr=>by
  obtain⟨h1,h2,h3⟩:=hi
  rw[List.cons_append,tail,if_neg (by omega),Wh p m (k+1) 128 191 _ rest h3 (by simpa using hm) (by
   rcases hr with hr|⟨c',t',e,_,h5⟩
   ·exact .inl hr
   ·exact .inr ⟨c',t',e,fun _=>h5 (by simp),fun _=>h5 (by simp)⟩)]
  refine Prod.ext rfl (Prod.ext ?_ rfl)
  simp only[List.length_cons]
  omega
theorem amb:∀t:List UInt8,inR 128 191 t↔JV t
 |[]=>by simp[inR,JV]
 |c::t=>by
  have:=amb t
  unfold JV at this⊢
  simp only[inR,List.forall_mem_cons,this,and_assoc]
theorem aaT (c:UInt8) (t:List UInt8):JV (c::t)↔(128≤(c.toNat:Int)∧(c.toNat:Int)≤191)∧JV t:=by
 unfold JV
 simp only[List.forall_mem_cons]
theorem Vp (x:Int) (hs:2≤size x) (p:List UInt8):inR (lo x) (hi x) p↔JV p∧¬bad x p:=by
 have hx:194≤x∧x≤244:=by
  unfold size at hs
  (repeat' split at hs)<;>omega
 cases p with
 |nil=>simp[inR,JV,bad]
 |cons c t=>
  rw[aaT,inR,amb]
  unfold bad Fv lo hi
  constructor
  ·rintro⟨h1,h2,h3⟩
   refine⟨⟨?_,h3⟩,?_⟩
   ·(repeat' split at h1)<;>(repeat' split at h2)<;>omega
   (repeat' split at h1)<;>(repeat' split at h2)<;>omega
  rintro⟨⟨h1,h3⟩,h2⟩
  refine⟨?_,?_,h3⟩
  ·(repeat' split)<;>omega
  (repeat' split)<;>omega
def first(x:Int):Int:=if x≤127 then x else if x≤223 then x%32 else if x≤239 then x%16 else x%8
theorem size_le (x:Int):0≤size x∧size x≤4:=by unfold size;(repeat' split)<;>omega
theorem agh (x:UInt8) (T:List UInt8) (hs:1≤size x.toNat):rd (x::T)=tail (size x.toNat - 1).toNat 1 (lo x.toNat) (hi x.toNat) (first x.toNat) T:=by
 have hx0:0≤(x.toNat:Int):=by omega
 by_cases a:(x.toNat:Int)≤127
 ·have e:size x.toNat=1:=by unfold size;rw[if_pos a]
  rw[rd,if_pos a,e]
  simp[tail,first,a]
 by_cases b:(x.toNat:Int)≤193∨245≤(x.toNat:Int)
 ·exfalso
  unfold size at hs
  (repeat' split at hs)<;>omega
 rw[rd,if_neg a,if_neg b]
 unfold first
 rw[if_neg a]
 by_cases c:(x.toNat:Int)≤223
 ·have e:size x.toNat=2:=by unfold size;rw[if_neg a,if_pos (by omega)]
  rw[if_pos c,if_pos c,e]
  rfl
 rw[if_neg c,if_neg c]
 by_cases d:(x.toNat:Int)≤239
 ·have e:size x.toNat=3:=by unfold size;rw[if_neg a,if_neg (by omega),if_pos (by omega)]
  rw[if_pos d,if_pos d,e]
  rfl
 have e:size x.toNat=4:=by unfold size;rw[if_neg a,if_neg (by omega),if_neg (by omega),if_pos (by omega)]
 rw[if_neg d,if_neg d,e]
 rfl
theorem rd_zero (x:UInt8) (T:List UInt8) (hs:size x.toNat<1):rd (x::T)=(65533,1,false):=by
 have b:((x.toNat:Int)≤193∨245≤(x.toNat:Int))∧¬(x.toNat:Int)≤127:=by
  unfold size at hs
  (repeat' split at hs)<;>omega
 rw[rd,if_neg b.2,if_pos b.1]
theorem JC (x:UInt8) (p:List UInt8) (W:Bool) (h:st (x::p)=(true,W)):¬size x.toNat<(p.length:Int)+1∧JV p∧¬bad x.toNat p∧W=decide ((p.length:Int)+1=size x.toNat):=by
 rw[st]at h
 split at h
 ·cases h
 rename_i hn
 injection h with h1 h2
 refine⟨fun a=>hn (.inl a),?_,fun a=>hn (.inr (.inr a)),h2.symm⟩
 exact Decidable.byContradiction fun a=>hn (.inr (.inl a))
theorem afF (x:Int) (p:List UInt8) (hs:1≤size x) (hp:(p.length:Int)+1≤size x) (h1:JV p) (h2:¬bad x p):inR (lo x) (hi x) p:=by
 by_cases a:2≤size x
 ·exact(Vp x a p).2 ⟨h1,h2⟩
 cases p with
 |nil=>trivial
 |cons c t=>simp at hp;omega
theorem an2 (x:UInt8) (p rest:List UInt8) (h:st (x::p)=(true,true)):rd (x::(p++rest))=(fo (first x.toNat) p,(p.length:Int)+1,true):=by
 obtain⟨h1,h2,h3,h4⟩:=JC x p true h
 have h5:(p.length:Int)+1=size x.toNat:=by simpa using h4.symm
 rw[agh x _ (by omega),RY p _ 1 _ _ _ rest (afF _ p (by omega) (by omega) h2 h3) (by omega)]
 refine Prod.ext rfl (Prod.ext ?_ rfl)
 simp only
 omega
theorem part_rd (x:UInt8) (p rest:List UInt8) (h:st (x::p)=(true,false)) (hr:rest=[]∨∃c t,rest=c::t∧(st (x::(p++[c]))).1=false):rd (x::(p++rest))=(65533,(p.length:Int)+1,false):=by
 obtain⟨h1,h2,h3,h4⟩:=JC x p false h
 have h5:¬(p.length:Int)+1=size x.toNat:=by simpa using h4.symm
 have h6:2≤size x.toNat:=by omega
 rw [agh x _ (by omega),Wh p _ 1 _ _ _ rest (afF _ p (by omega) (by omega) h2 h3) (by omega) (by
  rcases hr with hr|⟨c,t,rfl,hc⟩
  ·exact .inl hr
  refine .inr ⟨c,t,rfl,?_,?_⟩
  ·rintro rfl
   have hn:¬inR (lo x.toNat) (hi x.toNat) [c]:=by
    intro hi
    obtain⟨a1,a2⟩:=(Vp _ h6 [c]).1 hi
    have:st (x::([]++[c]))=(true,decide ((([c]:List UInt8).length:Int)+1=size x.toNat)):=vT x [c] (QO (by simp;omega) a1 a2)
    rw[this]at hc
    cases hc
   simp only[inR,and_true]at hn
   omega
  intro hp
  have hn:¬JV [c]:=by
   intro hok
   have a1:JV (p++[c]):=by
    intro d hd
    rcases List.mem_append.1 hd with hd|hd
    ·exact h2 d hd
    exact hok d hd
   have a2:¬bad x.toNat (p++[c]):=by
    cases p with
    |nil=>exact absurd rfl hp
    |cons d p=>exact h3
   have:st (x::(p++[c]))=(true,decide (((p++[c]).length:Int)+1=size x.toNat)):=vT x _ (QO (by simp;omega) a1 a2)
   rw[this]at hc
   cases hc
  rw[aaT]at hn
  have:JV []:=by intro d hd;cases hd
  simp only[this,and_true]at hn
  omega)]
 refine Prod.ext rfl (Prod.ext ?_ rfl)
 simp only
 omega
theorem none_rd (x:UInt8) (T:List UInt8) (h:(st [x]).1=false):rd (x::T)=(65533,1,false):=by
 refine rd_zero x T ?_
 rcases Int.lt_or_le (size x.toNat) 1 with h1|h1
 ·exact h1
 have:st [x]=(true,decide ((([]:List UInt8).length:Int)+1=size x.toNat)):=vT x [] (QO (by simp;omega) (by intro d hd;cases hd) (fun h=>h))
 rw[this]at h
 cases h
end Go.Proofs.YtmpeaoacaecgpaaGreatDoor.RefN
