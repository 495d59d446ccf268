/- Texts that belong together: TM, WinZ, UG, Law16d, acn, Shs, rD, aj2. -/
import Derived.Test.YtmpeaoacaecgpaaGreatDoorYAU
import Derived.Test.YtmpeaoacaecgpaaGreatDoorYAV
import Derived.Test.YtmpeaoacaecgpaaGreatDoorYAT
import Derived.Test.YtmpeaoacaecgpaaGreatDoorYAP
import Derived.Test.YtmpeaoacaecgpaaGreatDoorYAO
import Derived.Test.YtmpeaoacaecgpaaGreatDoorYAN
import Derived.Test.YtmpeaoacaecgpaaGreatDoorYAA
import Derived.Test.YtmpeaoacaecgpaaGreatDoorYAK
import Derived.Test.YtmpeaoacaecgpaaGreatDoorYAQ
import Derived.Test.YtmpeaoacaecgpaaGreatDoorYAI
import Derived.BigQuiet
import Derived.Deep.DeepCutAuto
import Derived.Test.YtmpeaoacaecgpaaGreatDoorYAD
import Derived.Handed
import Derived.HandedShaped
import Derived.Shelf.Vars
import Derived.Lib.LaidU8
import Derived.ProofKit
import Derived.OpenShut
import Derived.ShutString
import Derived.ChangeOld
import Derived.Below
import Derived.SliceStrings
import Derived.SizedLaws
set_option linter.unusedSimpArgs false
set_option linter.unusedVariables false
set_option maxRecDepth 100000
set_option maxHeartbeats 64000000
namespace Go.Proofs.YtmpeaoacaecgpaaGreatDoor.TM
open Go.RowKit Base Base2 sW yu Sls Wx agI BldF oP
open Go.Proofs.YtmpeaoacaecgpaaGreatDoor.Gp (Env)
open Go.Proofs.YtmpeaoacaecgpaaGreatDoor.Zw (FIL tl)
open Go.Proofs.YtmpeaoacaecgpaaGreatDoor.aZ (aO fM AV pK)
def brk (s:List UInt8):Bool:=s.any fun c=>decide (c=92)||decide (c=47)
def jS (l:List ByteArray):List UInt8:=l.flatMap fun s=>92::fU.dec s.data.toList
def oZ (l:List ByteArray):Bool:=l.all fun s=> !brk (fU.dec s.data.toList)
def headW (h:List UInt8) (l:List ByteArray):List UInt8:=if h≠[]then 92::92::h else(l.head?.map fun a=>a.data.toList).getD []
def zh (h:List UInt8) (l:List ByteArray):List ByteArray:=if h≠[]then l else l.drop 1
def JL (h:List UInt8) (l:List ByteArray):Option (List UInt8):=if oZ (zh h l)=true∧sK (headW h l++jS (zh h l))=true then some (headW h l++jS (zh h l))else none
def BU (au h:List UInt8) (b6:Bool) (l:List ByteArray):List UInt8×Int:=
 if au≠FIL∨b6=true then([],2)else((JL h l).map fun o=>(o,(0:Int))).getD ([],2)
theorem La (l:List ByteArray) (s:ByteArray):jS (l++[s])=jS l++(92::fU.dec s.data.toList):=by simp[jS]
theorem vN (l:List ByteArray):(jS l).length≤(aO l).length:=by
 induction l with
 |nil=>exact Nat.le_refl _
 |cons a l ih=>
  have h:=fU.ku a.data.toList
  have e1:jS (a::l)=(92::fU.dec a.data.toList)++jS l:=rfl
  have e2:aO (a::l)=(47::a.data.toList)++aO l:=rfl
  rw[e1,e2,List.length_append,List.length_append,List.length_cons,List.length_cons]
  omega
theorem Gz (l:List ByteArray) (k:Nat) (h:k<l.length):oZ (l.take (k+1))=(oZ (l.take k)&& !brk (fU.dec l[k].data.toList)):=by
 unfold oZ
 rw[take_snoc l k h,List.all_append]
 simp
theorem Qn {l:List ByteArray} (k:Nat) (h:k<l.length) (hc:brk (fU.dec l[k].data.toList)=true):oZ l=false:=by
 cases e:oZ l with
 |false=>rfl
 |true=>
  have h1:=List.all_eq_true.1 e _ (List.getElem_mem h)
  rw[hc]at h1
  cases h1
theorem am9 (l:List ByteArray):(aO (l.drop 1)).length≤(aO l).length:=by
 cases l with
 |nil=>exact Nat.le_refl _
 |cons a l=>
  have e2:aO (a::l)=(47::a.data.toList)++aO l:=rfl
  rw[e2,List.length_append]
  exact Nat.le_add_left _ _
theorem DU (s0 s1 s2 s3:ByteArray) (b4:Bool) (z5:Int) (b6:Bool) (s7:ByteArray) (A:Option Addr) (n cap:Nat) (l:List ByteArray) (b9 b10:Bool) (s11 s12:ByteArray) (w:World) (hR:aY w A n (l.map Value.string)) (hnc:n≤cap) (hcm:cap≤maxLen) (hl:(aO l).length+s3.size≤800000) (hE:Env w):
  Calls Tryz.prog 95 #[.agg #[.string s0,.string s1,.string s2,.string s3,.bool b4,.int .i64 z5,.bool b6,.string s7,.slice A n cap,.bool b9,.bool b10,.string s11,.string s12]] w fun e w'=>e=.returned (.tuple #[.string (strOf (BU s0.data.toList s3.data.toList b6 l).1),.int .i64 (BU s0.data.toList s3.data.toList b6 l).2])∧Below w.heap.size w w':=by
 have hn:l.length=n:=by rw[←hR.1,List.length_map]
 have hpl:=fM l
 have h3l:s3.data.toList.length=s3.size:=Array.length_toList
 unfold maxLen at hcm
 obtain⟨V,hV⟩:∃V,V=BU s0.data.toList s3.data.toList b6 l:=⟨_,rfl⟩
 rw[←hV]
 by_cases e0:s0.data.toList=FIL
 ·have q0 : (s0.toList == [102, 105, 108, 101]) = true := by rw [tl, e0]; rfl
  cases b6 with
  |true=>
   have HV:Hid (V=([],2)):=by show _=_;rw[hV];unfold BU;rw[if_pos (.inr rfl)]
   clear hn hpl hR hl hV e0 hE h3l
   go_enter Tryz.func95,Tryz.ntmps95
   go_wp2
   go_ret2
   exact⟨by rw[HV.out];first|done|rfl,(Below.refl _ _).alloc (Nat.le_refl _) _⟩
  | false =>
   obtain⟨BS,hBS⟩:∃b,b=headW s3.data.toList l:=⟨_,rfl⟩
   obtain⟨R,hRR⟩:∃r,r=zh s3.data.toList l:=⟨_,rfl⟩
   have HVN:Hid (oZ R=false→V=([],2)):=fun h=>by rw[hV];unfold BU JL;rw[if_neg (by rintro(h|h);exact h e0;cases h),←hRR,h,if_neg (by rintro⟨h,_⟩;cases h)];rfl
   have HVE:Hid (oZ R=true→V=if sK (BS++jS R)=true then(BS++jS R,0)else([],2)):=fun h=>by
    rw[hV];unfold BU JL;rw[if_neg (by rintro(h|h);exact h e0;cases h),←hRR,←hBS,h]
    cases sK (BS++jS R)with
    |true=>rw[if_pos ⟨rfl,rfl⟩,if_pos rfl];rfl
    |false=>rw[if_neg (by rintro⟨_,h⟩;cases h),if_neg (by decide)];rfl
   have HE:=hid hE
   by_cases e3:s3.data.toList=[]
   ·have q3:s3.toList=[]:=by rw[tl];exact e3
    have q3':(s3.toList==[])=true:=by rw[q3];rfl
    have BR:R=l.drop 1:=by rw[hRR];unfold zh;rw[if_neg (fun h=>h e3)]
    by_cases hn1:0<n
    ·have hnI : (0 : Int) < (n : Int) := by omega
     obtain⟨g0,ahX,rfl,hg0,hcell0⟩:=hR.spot hn1
     have hcut:=hR.cut 1 (by omega)
     have hl0:0<l.length:=by omega
     have hc0:=hcell0 0 (by rw[List.length_map];exact hl0)
     rw[List.getElem_map]at hc0
     obtain⟨a,ha⟩:∃a,a=l[0]:=⟨_,rfl⟩
     rw[←ha]at hc0
     have hBa:BS=a.data.toList:=by rw[hBS];unfold headW;rw[if_neg (fun h=>h e3),List.head?_eq_getElem?,List.getElem?_eq_getElem hl0,ha];rfl
     have hsa:=AV l 0 hl0
     rw[←ha]at hsa
     obtain⟨n2,hn2⟩:∃n2,n2=n - 1:=⟨_,rfl⟩
     have HN:Hid (R.length=n2):=by show _=_;rw[BR,List.length_drop,hn2,hn]
     have HRR:Hid (aY w (some ⟨g0,ahX+1,none⟩) n2 (R.map Value.string)):=by show aY _ _ _ _;rw[hn2,BR,List.map_drop];exact hcut
     have hpd:=am9 l
     have vW:=hid (fM R)
     have hal:a.data.toList.length=a.size:=Array.length_toList
     have hbl:BS.length=a.size:=by rw[hBa];exact hal
     have hpc:(aO (l.drop 1)).length+a.size≤(aO l).length:=by
      match l,hl0,ha with
      |x::r,_,ha=>
       have ex:a=x:=ha
       subst ex
       show(aO r).length+a.size≤((47::a.data.toList)++aO r).length
       rw[List.length_append,List.length_cons,hal]
       omega
     have Ci:Hid ((aO R).length+BS.length≤800002):=by show _≤_;rw[BR,hbl];omega
     have Tt:Hid (BS.length≤800002):=by show _≤_;omega
     have hBe:strOf BS=a:=by rw[hBa];exact aG a
     have hc2':(1:Int)≤(n:Int):=by omega
     have WA:=hid hBe
     have has:a.size≤800000:=by omega
     have HN1:=hid hn2
     have hn9:n≤9223372036854775807:=by omega
     have hn29:n2≤9223372036854775807:=by omega
     by_cases hcap:cap=1
     ·obtain rfl:cap=1:=hcap
      obtain rfl:n=1:=by omega
      obtain rfl:n2=0:=by omega
      have hrn:R=[]:=List.eq_nil_of_length_eq_zero HN.out
      have HRR:Hid (aY w (some ⟨g0,ahX,none⟩) 0 (R.map Value.string)):=by show aY _ _ _ _;rw[hrn];first|done|exact aY.nil _
      clear hrn
      clear hn hpl hR hl hV e0 hE h3l hBS hRR BR hBa hn2 e3 hcut hcell0 hsa hpd hal hbl hpc hBe ha
      go_enter Tryz.func95,Tryz.ntmps95
      go_upto_region 8 with(fail)
      generalize hw1:w.alloc _=w1
      have HB1:Hid (Below w.heap.size w w1):=by show Below _ _ _;rw[←hw1];exact(Below.refl _ _).alloc (Nat.le_refl _) _
      have hs1:w1.heap.size=w.heap.size+1:=by rw[←hw1];simp
      clear hw1
      have Bd:Hid (lq (w.heap.size+1) (w.heap.size+1) [] (w1.alloc (.cells #[.pointer none,.slice none 0 0] 147))):=by
       have h:=Lib.fresh_isBuilder 147 5 w1
       rw[hs1]at h
       exact h
      have J3:Hid (Below (w.heap.size+1) w1 (w1.alloc (.cells #[.pointer none,.slice none 0 0] 147))):=(Below.refl _ _).alloc (by rw[hs1];exact Nat.le_refl _) _
      have hbw:Below w.heap.size w (w1.alloc (.cells #[.pointer none,.slice none 0 0] 147)):=HB1.out.trans (J3.out.mono (Nat.le_succ _))
      have hc8:(w1.alloc (.cells #[.pointer none,.slice none 0 0] 147)).cell? ⟨g0,ahX,none⟩=some (.string a):=(hbw.cell (p:=⟨g0,ahX,none⟩) hg0).trans hc0
      have h0J:(0:Int)<((1:Nat):Int):=by decide
      go_wp2_with fail
      clear hc8 hbw
      refine(write_any _ _ _ _ _ Bd.out (by show 0+a.size≤_;omega) (by simp;omega)).mono ?_
      rintro e w6 ⟨rfl,hB6,hb6⟩
      have HB0:Hid (lq (w.heap.size+1) (w.heap.size+1) BS w6):=by
       show lq _ _ _ _
       have h:=hB6
       rw[←WA.out]at h
       exact h
      have OG:=hid (J3.out.trans hb6)
      clear hB6 hb6 Bd J3 hc0
      go_wp2
      go_loopw [7,8,38] (fun _ _ vk wr=>∃k:Nat,k≤0∧vk=.int .i64 (k:Int)∧Hid (lq (w.heap.size+1) (w.heap.size+1) (BS++jS (R.take k)) wr)∧Hid (Below (w.heap.size+1) w1 wr)∧Hid (oZ (R.take k)=true)) (fun _ _ vk _=>0 - (intOf vk).toNat)
      case atStart=>exact⟨0,Nat.zero_le _,rfl,(by show lq _ _ _ _;rw[List.take_zero];show lq _ _ (BS++[]) _;rw[List.append_nil];exact HB0.out),OG.out,rfl⟩
      case round=>
       clear HB0 OG
       obtain⟨k,hk,rfl,HB,HBL,HF⟩:=hrel
       have hb1:=HB1.out
       have hsz:w.heap.size+1≤wr.heap.size:=by have:=HBL.out.size;rw[hs1]at this;exact this
       by_cases hlt:k<0
       ·exact absurd hlt (Nat.not_lt_zero _)
       ·obtain rfl:k=0:=by omega
        have hT:R.take 0=R:=List.take_of_length_le (by rw[HN.out];exact Nat.le_refl _)
        rw[hT]at HB HF
        have hol:(BS++jS R).length≤900000:=by have h1:=vN R;have h2:=Ci.out;have h3:=Tt.out;rw[List.length_append];omega
        obtain⟨O,hO⟩:∃O,O=BS++jS R:=⟨_,rfl⟩
        rw[←hO]at HB hol
        obtain⟨f,hf⟩:∃f,f=sK O:=⟨_,rfl⟩
        have WC:Hid (∀w:World,Env w→Calls Tryz.prog 44 #[.string (strOf O)] w fun e w'=>e=.returned (.bool f)∧Below w.heap.size w w'):=fun w h=>by rw[hf];exact Gp.oW (strOf O) w (by rw[size_strOf];omega) h
        have HVF:Hid (V=if f=true then(O,0)else([],2)):=by show _=_;rw[HVE.out HF.out,←hO,←hf]
        clear hT hO hf hol
        go_wp2_with fail
        refine(iZ _ _ _ _ (QB HB.out) hsz).mono ?_
        rintro e w3 ⟨rfl,hBS,hb3⟩
        have HBS:=hid hBS
        clear hBS
        have mP:=hid (HBL.out.trans hb3)
        have NU:Hid (Below w.heap.size w w3):=hb1.trans (mP.out.mono (by omega))
        go_wp2_with fail
        refine(WC.out _ (HE.out.below NU.out)).mono ?_
        rintro e w4 ⟨rfl,hb4⟩
        have H9:=hid (bel NU.out hb4)
        cases f with
        |false=>
         have J4:Hid (V=([],2)):=by show _=_;rw[HVF.out];rfl
         clear hb3 hb4 HBS
         go_wp2
         go_ret2
         exact⟨by rw[J4.out];first|done|rfl,H9.out⟩
        |true=>
         have J4:Hid (V=(O,0)):=by show _=_;rw[HVF.out];rfl
         have HB4:Hid (IsF (w.heap.size+1) (w.heap.size+1) O w4):=yL HBS.out hb4
         have Ae:w.heap.size+1≤w4.heap.size:=by have h1:=mP.out.size;have h2:=hb4.size;rw[hs1]at h1;omega
         clear hb4
         go_wp2_with fail
         refine(iZ _ _ _ _ HB4.out Ae).mono ?_
         rintro e w5 ⟨rfl,_,hb5⟩
         have WB:Hid (Below w.heap.size w w5):=H9.out.trans (hb5.mono (by omega))
         clear hb5
         go_wp2
         go_ret2
         exact⟨by rw[J4.out];first|done|rfl,WB.out⟩
     ·have hcap2:2≤cap:=by omega
      clear hcap
      clear hn hpl hR hl hV e0 hE h3l hBS hRR BR hBa hn2 e3 hcut hcell0 hsa hpd hal hbl hpc hBe ha
      go_enter Tryz.func95,Tryz.ntmps95
      go_upto_region 8 with(fail)
      generalize hw1:w.alloc _=w1
      have HB1:Hid (Below w.heap.size w w1):=by show Below _ _ _;rw[←hw1];exact(Below.refl _ _).alloc (Nat.le_refl _) _
      have hs1:w1.heap.size=w.heap.size+1:=by rw[←hw1];simp
      clear hw1
      have Bd:Hid (lq (w.heap.size+1) (w.heap.size+1) [] (w1.alloc (.cells #[.pointer none,.slice none 0 0] 147))):=by
       have h:=Lib.fresh_isBuilder 147 5 w1
       rw[hs1]at h
       exact h
      have J3:Hid (Below (w.heap.size+1) w1 (w1.alloc (.cells #[.pointer none,.slice none 0 0] 147))):=(Below.refl _ _).alloc (by rw[hs1];exact Nat.le_refl _) _
      have hbw:Below w.heap.size w (w1.alloc (.cells #[.pointer none,.slice none 0 0] 147)):=HB1.out.trans (J3.out.mono (Nat.le_succ _))
      have hc8:(w1.alloc (.cells #[.pointer none,.slice none 0 0] 147)).cell? ⟨g0,ahX,none⟩=some (.string a):=(hbw.cell (p:=⟨g0,ahX,none⟩) hg0).trans hc0
      have h0J:(0:Int)<(n:Int):=hnI
      go_wp2_with fail
      clear hc8 hbw
      refine(write_any _ _ _ _ _ Bd.out (by show 0+a.size≤_;omega) (by simp;omega)).mono ?_
      rintro e w6 ⟨rfl,hB6,hb6⟩
      have HB0:Hid (lq (w.heap.size+1) (w.heap.size+1) BS w6):=by
       show lq _ _ _ _
       have h:=hB6
       rw[←WA.out]at h
       exact h
      have OG:=hid (J3.out.trans hb6)
      clear hB6 hb6 Bd J3 hc0
      go_wp2
      rw[←HN1.out]
      go_loopw [7,8,38] (fun _ _ vk wr=>∃k:Nat,k≤n2∧vk=.int .i64 (k:Int)∧Hid (lq (w.heap.size+1) (w.heap.size+1) (BS++jS (R.take k)) wr)∧Hid (Below (w.heap.size+1) w1 wr)∧Hid (oZ (R.take k)=true)) (fun _ _ vk _=>n2 - (intOf vk).toNat)
      case atStart=>exact⟨0,Nat.zero_le _,rfl,(by show lq _ _ _ _;rw[List.take_zero];show lq _ _ (BS++[]) _;rw[List.append_nil];exact HB0.out),OG.out,rfl⟩
      case round=>
       clear HB0 OG
       obtain⟨k,hk,rfl,HB,HBL,HF⟩:=hrel
       have hb1:=HB1.out
       have hsz:w.heap.size+1≤wr.heap.size:=by have:=HBL.out.size;rw[hs1]at this;exact this
       by_cases hlt:k<n2
       ·have hkl:k<R.length:=by rw[HN.out];exact hlt
        have hRr:=HRR.out.below (hb1.trans (HBL.out.mono (by omega)))
        obtain⟨g,off,eA,hg,hcell⟩:=hRr.spot (by omega)
        cases eA
        have hc:=hcell k (by rw[List.length_map];exact hkl)
        rw[List.getElem_map]at hc
        obtain⟨s,hs⟩:∃s,s=R[k]:=⟨_,rfl⟩
        rw[←hs]at hc
        obtain⟨D,hD⟩:∃D,D=fU.dec s.data.toList:=⟨_,rfl⟩
        have hDl:D.length≤s.size:=by rw[hD];have:=fU.ku s.data.toList;rwa[show s.data.toList.length=s.size from Array.length_toList]at this
        have HS:Hid (BS++jS (R.take (k+1))=(BS++jS (R.take k))++(92::D)):=by show _=_;rw[take_snoc R k hkl,La,←hs,hD,List.append_assoc]
        have hsum:=AV R k hkl
        have IY:=pK R (k+1)
        have hpk:=vN (R.take k)
        rw[fM,List.length_take,Nat.min_eq_left (by omega)]at hpk
        have hpl:=vW.out
        have hll:=Ci.out
        rw[←hs]at hsum
        have hss:s.size≤899999:=by omega
        have Y6:Hid (∀w:World,Calls Tryz.prog 72 #[.string s] w fun e w'=>∃v,e=.returned v∧w'.ownsRow w.heap.size 5 1 v D.length (ah D)∧Below w.heap.size w w'):=fun w=>by rw[hD];exact fU.decode_any s w (by omega)
        obtain⟨q,hq⟩:∃q,q=brk D:=⟨_,rfl⟩
        have HCT:Hid (∀w:World,Calls Tryz.prog 200 #[.string (strOf D),.string ⟨#[92,47]⟩] w fun e w'=>e=.returned (.bool q)∧Below w.heap.size w w'):=fun w=>by rw[hq];exact PthM.sZ (strOf D) w (by rw[size_strOf];omega)
        have a1:∀w:World,(Op.stringOp .add ⟨#[92]⟩ (strOf D)).run Tryz.prog w=.ok (.string (strOf (92::D))) w:=fun w=>dL ⟨#[92]⟩ (strOf D) w (by rw[size_strOf];show 1+D.length≤_;omega)
        have HLEN:Hid ((BS++jS (R.take k)).length+(1+D.length)≤140737488355328):=by show _≤_;rw[List.length_append];have:=Tt.out;omega
        have hqf:q=true→V=([],2):=fun h=>HVN.out (Qn k hkl (by rw[←hs,←hD,←hq];exact h))
        have hqn:q=false→oZ (R.take (k+1))=true:=fun h=>by rw[Gz R k hkl,HF.out,←hs,←hD,←hq,h];rfl
        have HQF:=hid hqf
        have HQN:=hid hqn
        clear hs hD hq hsum IY hpk hpl hll hRr hcell hkl hqf hqn hDl
        go_wp2_with fail
        refine(Y6.out _).mono ?_
        rintro e w3 ⟨v3,rfl,hown,hb3⟩
        obtain⟨A3,c3,rfl,hc3,hm3,hr3⟩:=aJ hown
        have hst:=aF 45 9 5 Tryz.underlying45 Tryz.underlying5 Tryz.underlying9 _ c3 hr3
        have adM:=fun k=>aF 45 9 5 Tryz.underlying45 Tryz.underlying5 Tryz.underlying9 _ c3 (Eu hr3 k)
        have HB3:=hid (gZ HB.out hb3)
        have mP:Hid (Below (w.heap.size+1) w1 w3):=HBL.out.trans (hb3.mono hsz)
        clear hown hb3 hr3 hm3 hc3
        go_wp2_with fail
        refine(HCT.out _).mono ?_
        rintro e w4 ⟨rfl,hb4⟩
        have hsz3:w.heap.size+1≤w3.heap.size:=by have:=mP.out.size;rw[hs1]at this;exact this
        have HB4:=hid (gZ HB3.out hb4)
        have F5:Hid (Below (w.heap.size+1) w1 w4):=mP.out.trans (hb4.mono hsz3)
        clear hst adM hb4
        cases q with
        |true=>
         have J4:Hid (V=([],2)):=HQF.out rfl
         go_wp2
         go_ret2
         exact⟨by rw[J4.out];first|done|rfl,hb1.trans (F5.out.mono (by omega))⟩
        |false=>
         have HFN:=hid (HQN.out rfl)
         have Ae:w.heap.size+1≤w4.heap.size:=by have:=F5.out.size;rw[hs1]at this;exact this
         go_wp2_with fail
         refine(write_any _ _ _ _ _ HB4.out (by rw[size_strOf];have:=HLEN.out;simp at this⊢;omega) Ae).mono ?_
         rintro e w5 ⟨rfl,hB5,hb5⟩
         have iG:Hid (lq (w.heap.size+1) (w.heap.size+1) (BS++jS (R.take (k+1))) w5):=by show lq _ _ _ _;rw[HS.out];exact hB5
         have xZ:=hid (F5.out.trans hb5)
         clear hB5 hb5
         go_wp2
         go_roundw
         case rel=>exact⟨k+1,by omega,by go_num,iG,xZ,HFN⟩
         case measure=>simp[intOf];omega
       ·obtain rfl:k=n2:=by omega
        have hT:R.take k=R:=List.take_of_length_le (by rw[HN.out];exact Nat.le_refl _)
        rw[hT]at HB HF
        have hol:(BS++jS R).length≤900000:=by have h1:=vN R;have h2:=Ci.out;have h3:=Tt.out;rw[List.length_append];omega
        obtain⟨O,hO⟩:∃O,O=BS++jS R:=⟨_,rfl⟩
        rw[←hO]at HB hol
        obtain⟨f,hf⟩:∃f,f=sK O:=⟨_,rfl⟩
        have WC:Hid (∀w:World,Env w→Calls Tryz.prog 44 #[.string (strOf O)] w fun e w'=>e=.returned (.bool f)∧Below w.heap.size w w'):=fun w h=>by rw[hf];exact Gp.oW (strOf O) w (by rw[size_strOf];omega) h
        have HVF:Hid (V=if f=true then(O,0)else([],2)):=by show _=_;rw[HVE.out HF.out,←hO,←hf]
        clear hT hO hf hol
        go_wp2_with fail
        refine(iZ _ _ _ _ (QB HB.out) hsz).mono ?_
        rintro e w3 ⟨rfl,hBS,hb3⟩
        have HBS:=hid hBS
        clear hBS
        have mP:=hid (HBL.out.trans hb3)
        have NU:Hid (Below w.heap.size w w3):=hb1.trans (mP.out.mono (by omega))
        go_wp2_with fail
        refine(WC.out _ (HE.out.below NU.out)).mono ?_
        rintro e w4 ⟨rfl,hb4⟩
        have H9:=hid (bel NU.out hb4)
        cases f with
        |false=>
         have J4:Hid (V=([],2)):=by show _=_;rw[HVF.out];rfl
         clear hb3 hb4 HBS
         go_wp2
         go_ret2
         exact⟨by rw[J4.out];first|done|rfl,H9.out⟩
        |true=>
         have J4:Hid (V=(O,0)):=by show _=_;rw[HVF.out];rfl
         have HB4:Hid (IsF (w.heap.size+1) (w.heap.size+1) O w4):=yL HBS.out hb4
         have Ae:w.heap.size+1≤w4.heap.size:=by have h1:=mP.out.size;have h2:=hb4.size;rw[hs1]at h1;omega
         clear hb4
         go_wp2_with fail
         refine(iZ _ _ _ _ HB4.out Ae).mono ?_
         rintro e w5 ⟨rfl,_,hb5⟩
         have WB:Hid (Below w.heap.size w w5):=H9.out.trans (hb5.mono (by omega))
         clear hb5
         go_wp2
         go_ret2
         exact⟨by rw[J4.out];first|done|rfl,WB.out⟩
    ·obtain rfl:n=0:=by omega
     have hnI:¬(0:Int)<((0:Nat):Int):=by decide
     have hl0:l=[]:=List.eq_nil_of_length_eq_zero hn
     obtain⟨n2,hn2⟩:∃n2,n2=0:=⟨_,rfl⟩
     have hBa:BS=[]:=by rw[hBS,hl0];unfold headW;rw[if_neg (fun h=>h e3)];rfl
     have hRe:R=[]:=by rw[BR,hl0];rfl
     have HN:Hid (R.length=n2):=by show _=_;rw[hRe,hn2];rfl
     obtain⟨A2,hA2⟩:∃A2:Option Addr,A2=A:=⟨_,rfl⟩
     have HRR:Hid (aY w A2 n2 (R.map Value.string)):=by show aY _ _ _ _;rw[hRe,hn2];exact aY.nil _
     have vW:=hid (fM R)
     have Ci:Hid ((aO R).length+BS.length≤800002):=by show _≤_;rw[hRe,hBa];decide
     have Tt:Hid (BS.length≤800002):=by show _≤_;rw[hBa];decide
     have WA:=hid hBa
     rw[←hn2,←hA2]
     have HN1:=hid hn2
     have hnI2:¬(0:Int)<(n2:Int):=by omega
     clear hn hpl hR hl hV e0 hE h3l hBS hRR BR hBa hRe hn2 hA2 e3 hl0 hn1 hnI
     go_enter Tryz.func95,Tryz.ntmps95
     go_wp2
     generalize hw1:w.alloc _=w1
     have HB1:Hid (Below w.heap.size w w1):=by show Below _ _ _;rw[←hw1];exact(Below.refl _ _).alloc (Nat.le_refl _) _
     have hs1:w1.heap.size=w.heap.size+1:=by rw[←hw1];simp
     clear hw1
     have Bd:Hid (lq (w.heap.size+1) (w.heap.size+1) [] (w1.alloc (.cells #[.pointer none,.slice none 0 0] 147))):=by
      have h:=Lib.fresh_isBuilder 147 5 w1
      rw[hs1]at h
      exact h
     have J3:Hid (Below (w.heap.size+1) w1 (w1.alloc (.cells #[.pointer none,.slice none 0 0] 147))):=(Below.refl _ _).alloc (by rw[hs1];exact Nat.le_refl _) _
     have HB0:Hid (lq (w.heap.size+1) (w.heap.size+1) BS (w1.alloc (.cells #[.pointer none,.slice none 0 0] 147))):=by show lq _ _ _ _;rw[WA.out];exact Bd.out
     have OG:=J3
     clear Bd J3
     go_loopw [7,8,38] (fun _ _ vk wr=>∃k:Nat,k≤n2∧vk=.int .i64 (k:Int)∧Hid (lq (w.heap.size+1) (w.heap.size+1) (BS++jS (R.take k)) wr)∧Hid (Below (w.heap.size+1) w1 wr)∧Hid (oZ (R.take k)=true)) (fun _ _ vk _=>n2 - (intOf vk).toNat)
     case atStart=>exact⟨0,Nat.zero_le _,rfl,(by show lq _ _ _ _;rw[List.take_zero];show lq _ _ (BS++[]) _;rw[List.append_nil];exact HB0.out),OG.out,rfl⟩
     case round=>
      clear HB0 OG
      obtain⟨k,hk,rfl,HB,HBL,HF⟩:=hrel
      have hb1:=HB1.out
      have hsz:w.heap.size+1≤wr.heap.size:=by have:=HBL.out.size;rw[hs1]at this;exact this
      by_cases hlt:k<n2
      ·have hkl:k<R.length:=by rw[HN.out];exact hlt
       have hRr:=HRR.out.below (hb1.trans (HBL.out.mono (by omega)))
       obtain⟨g,off,eA,hg,hcell⟩:=hRr.spot (by omega)
       cases eA
       have hc:=hcell k (by rw[List.length_map];exact hkl)
       rw[List.getElem_map]at hc
       obtain⟨s,hs⟩:∃s,s=R[k]:=⟨_,rfl⟩
       rw[←hs]at hc
       obtain⟨D,hD⟩:∃D,D=fU.dec s.data.toList:=⟨_,rfl⟩
       have hDl:D.length≤s.size:=by rw[hD];have:=fU.ku s.data.toList;rwa[show s.data.toList.length=s.size from Array.length_toList]at this
       have HS:Hid (BS++jS (R.take (k+1))=(BS++jS (R.take k))++(92::D)):=by show _=_;rw[take_snoc R k hkl,La,←hs,hD,List.append_assoc]
       have hsum:=AV R k hkl
       have IY:=pK R (k+1)
       have hpk:=vN (R.take k)
       rw[fM,List.length_take,Nat.min_eq_left (by omega)]at hpk
       have hpl:=vW.out
       have hll:=Ci.out
       rw[←hs]at hsum
       have hss:s.size≤899999:=by omega
       have Y6:Hid (∀w:World,Calls Tryz.prog 72 #[.string s] w fun e w'=>∃v,e=.returned v∧w'.ownsRow w.heap.size 5 1 v D.length (ah D)∧Below w.heap.size w w'):=fun w=>by rw[hD];exact fU.decode_any s w (by omega)
       obtain⟨q,hq⟩:∃q,q=brk D:=⟨_,rfl⟩
       have HCT:Hid (∀w:World,Calls Tryz.prog 200 #[.string (strOf D),.string ⟨#[92,47]⟩] w fun e w'=>e=.returned (.bool q)∧Below w.heap.size w w'):=fun w=>by rw[hq];exact PthM.sZ (strOf D) w (by rw[size_strOf];omega)
       have a1:∀w:World,(Op.stringOp .add ⟨#[92]⟩ (strOf D)).run Tryz.prog w=.ok (.string (strOf (92::D))) w:=fun w=>dL ⟨#[92]⟩ (strOf D) w (by rw[size_strOf];show 1+D.length≤_;omega)
       have HLEN:Hid ((BS++jS (R.take k)).length+(1+D.length)≤140737488355328):=by show _≤_;rw[List.length_append];have:=Tt.out;omega
       have hqf:q=true→V=([],2):=fun h=>HVN.out (Qn k hkl (by rw[←hs,←hD,←hq];exact h))
       have hqn:q=false→oZ (R.take (k+1))=true:=fun h=>by rw[Gz R k hkl,HF.out,←hs,←hD,←hq,h];rfl
       have HQF:=hid hqf
       have HQN:=hid hqn
       clear hs hD hq hsum IY hpk hpl hll hRr hcell hkl hqf hqn hDl
       go_wp2_with fail
       refine(Y6.out _).mono ?_
       rintro e w3 ⟨v3,rfl,hown,hb3⟩
       obtain⟨A3,c3,rfl,hc3,hm3,hr3⟩:=aJ hown
       have hst:=aF 45 9 5 Tryz.underlying45 Tryz.underlying5 Tryz.underlying9 _ c3 hr3
       have adM:=fun k=>aF 45 9 5 Tryz.underlying45 Tryz.underlying5 Tryz.underlying9 _ c3 (Eu hr3 k)
       have HB3:=hid (gZ HB.out hb3)
       have mP:Hid (Below (w.heap.size+1) w1 w3):=HBL.out.trans (hb3.mono hsz)
       clear hown hb3 hr3 hm3 hc3
       go_wp2_with fail
       refine(HCT.out _).mono ?_
       rintro e w4 ⟨rfl,hb4⟩
       have hsz3:w.heap.size+1≤w3.heap.size:=by have:=mP.out.size;rw[hs1]at this;exact this
       have HB4:=hid (gZ HB3.out hb4)
       have F5:Hid (Below (w.heap.size+1) w1 w4):=mP.out.trans (hb4.mono hsz3)
       clear hst adM hb4
       cases q with
       |true=>
        have J4:Hid (V=([],2)):=HQF.out rfl
        go_wp2
        go_ret2
        exact⟨by rw[J4.out];first|done|rfl,hb1.trans (F5.out.mono (by omega))⟩
       |false=>
        have HFN:=hid (HQN.out rfl)
        have Ae:w.heap.size+1≤w4.heap.size:=by have:=F5.out.size;rw[hs1]at this;exact this
        go_wp2_with fail
        refine(write_any _ _ _ _ _ HB4.out (by rw[size_strOf];have:=HLEN.out;simp at this⊢;omega) Ae).mono ?_
        rintro e w5 ⟨rfl,hB5,hb5⟩
        have iG:Hid (lq (w.heap.size+1) (w.heap.size+1) (BS++jS (R.take (k+1))) w5):=by show lq _ _ _ _;rw[HS.out];exact hB5
        have xZ:=hid (F5.out.trans hb5)
        clear hB5 hb5
        go_wp2
        go_roundw
        case rel=>exact⟨k+1,by omega,by go_num,iG,xZ,HFN⟩
        case measure=>simp[intOf];omega
      ·obtain rfl:k=n2:=by omega
       have hT:R.take k=R:=List.take_of_length_le (by rw[HN.out];exact Nat.le_refl _)
       rw[hT]at HB HF
       have hol:(BS++jS R).length≤900000:=by have h1:=vN R;have h2:=Ci.out;have h3:=Tt.out;rw[List.length_append];omega
       obtain⟨O,hO⟩:∃O,O=BS++jS R:=⟨_,rfl⟩
       rw[←hO]at HB hol
       obtain⟨f,hf⟩:∃f,f=sK O:=⟨_,rfl⟩
       have WC:Hid (∀w:World,Env w→Calls Tryz.prog 44 #[.string (strOf O)] w fun e w'=>e=.returned (.bool f)∧Below w.heap.size w w'):=fun w h=>by rw[hf];exact Gp.oW (strOf O) w (by rw[size_strOf];omega) h
       have HVF:Hid (V=if f=true then(O,0)else([],2)):=by show _=_;rw[HVE.out HF.out,←hO,←hf]
       clear hT hO hf hol
       go_wp2_with fail
       refine(iZ _ _ _ _ (QB HB.out) hsz).mono ?_
       rintro e w3 ⟨rfl,hBS,hb3⟩
       have HBS:=hid hBS
       clear hBS
       have mP:=hid (HBL.out.trans hb3)
       have NU:Hid (Below w.heap.size w w3):=hb1.trans (mP.out.mono (by omega))
       go_wp2_with fail
       refine(WC.out _ (HE.out.below NU.out)).mono ?_
       rintro e w4 ⟨rfl,hb4⟩
       have H9:=hid (bel NU.out hb4)
       cases f with
       |false=>
        have J4:Hid (V=([],2)):=by show _=_;rw[HVF.out];rfl
        clear hb3 hb4 HBS
        go_wp2
        go_ret2
        exact⟨by rw[J4.out];first|done|rfl,H9.out⟩
       |true=>
        have J4:Hid (V=(O,0)):=by show _=_;rw[HVF.out];rfl
        have HB4:Hid (IsF (w.heap.size+1) (w.heap.size+1) O w4):=yL HBS.out hb4
        have Ae:w.heap.size+1≤w4.heap.size:=by have h1:=mP.out.size;have h2:=hb4.size;rw[hs1]at h1;omega
        clear hb4
        go_wp2_with fail
        refine(iZ _ _ _ _ HB4.out Ae).mono ?_
        rintro e w5 ⟨rfl,_,hb5⟩
        have WB:Hid (Below w.heap.size w w5):=H9.out.trans (hb5.mono (by omega))
        clear hb5
        go_wp2
        go_ret2
        exact⟨by rw[J4.out];first|done|rfl,WB.out⟩
   ·have q3:(s3.toList==[])=false:=by rw[tl,beq_eq_false_iff_ne];exact e3
    have q3':s3.toList.isEmpty=false:=by rw[tl];simpa using e3
    have BR:R=l:=by rw[hRR];unfold zh;rw[if_pos e3]
    have hBa:BS=92::92::s3.data.toList:=by rw[hBS];unfold headW;rw[if_pos e3]
    have a0:∀w:World,(Op.stringOp .add ⟨#[92,92]⟩ s3).run Tryz.prog w=.ok (.string (strOf BS)) w:=fun w=>by
     have h:=dL (P:=Tryz.prog) ⟨#[92,92]⟩ s3 w (by show 2+s3.size≤_;omega)
     rw[h,hBa]
     rfl
    obtain⟨n2,hn2⟩:∃n2,n2=n:=⟨_,rfl⟩
    obtain⟨c2,hc2⟩:∃c2,c2=cap:=⟨_,rfl⟩
    obtain⟨A2,hA2⟩:∃A2:Option Addr,A2=A:=⟨_,rfl⟩
    have HN:Hid (R.length=n2):=by show _=_;rw[BR,hn2,hn]
    have HRR:Hid (aY w A2 n2 (R.map Value.string)):=by show aY _ _ _ _;rw[hA2,hn2,BR];exact hR
    have vW:=hid (fM R)
    have hbl:BS.length=s3.size+2:=by rw[hBa];simp[h3l]
    have Ci:Hid ((aO R).length+BS.length≤800002):=by show _≤_;rw[BR,hbl];omega
    have Tt:Hid (BS.length≤800002):=by show _≤_;omega
    rw[←hn2,←hc2,←hA2]
    have hnc2:n2≤c2:=by omega
    have hcm2:c2≤9223372036854775807:=by omega
    have hw3:s3.size≤800000:=by omega
    clear hn hpl hR hl hV e0 hE h3l hBS hRR BR hBa hn2 hc2 hA2 e3 hnc hcm hbl
    go_enter Tryz.func95,Tryz.ntmps95
    go_wp2_with fail
    generalize hw1:w.alloc _=w1
    have HB1:Hid (Below w.heap.size w w1):=by show Below _ _ _;rw[←hw1];exact(Below.refl _ _).alloc (Nat.le_refl _) _
    have hs1:w1.heap.size=w.heap.size+1:=by rw[←hw1];simp
    clear hw1
    have Bd:Hid (lq (w.heap.size+1) (w.heap.size+1) [] (w1.alloc (.cells #[.pointer none,.slice none 0 0] 147))):=by
     have h:=Lib.fresh_isBuilder 147 5 w1
     rw[hs1]at h
     exact h
    have J3:Hid (Below (w.heap.size+1) w1 (w1.alloc (.cells #[.pointer none,.slice none 0 0] 147))):=(Below.refl _ _).alloc (by rw[hs1];exact Nat.le_refl _) _
    refine(write_any _ _ _ _ _ Bd.out (by rw[size_strOf];have:=Tt.out;simp;omega) (by simp;omega)).mono ?_
    rintro e w6 ⟨rfl,hB6,hb6⟩
    have HB0:Hid (lq (w.heap.size+1) (w.heap.size+1) BS w6):=hB6
    have OG:=hid (J3.out.trans hb6)
    clear hB6 hb6 Bd J3 a0
    go_wp2
    go_loopw [7,8,38] (fun _ _ vk wr=>∃k:Nat,k≤n2∧vk=.int .i64 (k:Int)∧Hid (lq (w.heap.size+1) (w.heap.size+1) (BS++jS (R.take k)) wr)∧Hid (Below (w.heap.size+1) w1 wr)∧Hid (oZ (R.take k)=true)) (fun _ _ vk _=>n2 - (intOf vk).toNat)
    case atStart=>exact⟨0,Nat.zero_le _,rfl,(by show lq _ _ _ _;rw[List.take_zero];show lq _ _ (BS++[]) _;rw[List.append_nil];exact HB0.out),OG.out,rfl⟩
    case round=>
     clear HB0 OG
     obtain⟨k,hk,rfl,HB,HBL,HF⟩:=hrel
     have hb1:=HB1.out
     have hsz:w.heap.size+1≤wr.heap.size:=by have:=HBL.out.size;rw[hs1]at this;exact this
     by_cases hlt:k<n2
     ·have hkl:k<R.length:=by rw[HN.out];exact hlt
      have hRr:=HRR.out.below (hb1.trans (HBL.out.mono (by omega)))
      obtain⟨g,off,eA,hg,hcell⟩:=hRr.spot (by omega)
      cases eA
      have hc:=hcell k (by rw[List.length_map];exact hkl)
      rw[List.getElem_map]at hc
      obtain⟨s,hs⟩:∃s,s=R[k]:=⟨_,rfl⟩
      rw[←hs]at hc
      obtain⟨D,hD⟩:∃D,D=fU.dec s.data.toList:=⟨_,rfl⟩
      have hDl:D.length≤s.size:=by rw[hD];have:=fU.ku s.data.toList;rwa[show s.data.toList.length=s.size from Array.length_toList]at this
      have HS:Hid (BS++jS (R.take (k+1))=(BS++jS (R.take k))++(92::D)):=by show _=_;rw[take_snoc R k hkl,La,←hs,hD,List.append_assoc]
      have hsum:=AV R k hkl
      have IY:=pK R (k+1)
      have hpk:=vN (R.take k)
      rw[fM,List.length_take,Nat.min_eq_left (by omega)]at hpk
      have hpl:=vW.out
      have hll:=Ci.out
      rw[←hs]at hsum
      have hss:s.size≤899999:=by omega
      have Y6:Hid (∀w:World,Calls Tryz.prog 72 #[.string s] w fun e w'=>∃v,e=.returned v∧w'.ownsRow w.heap.size 5 1 v D.length (ah D)∧Below w.heap.size w w'):=fun w=>by rw[hD];exact fU.decode_any s w (by omega)
      obtain⟨q,hq⟩:∃q,q=brk D:=⟨_,rfl⟩
      have HCT:Hid (∀w:World,Calls Tryz.prog 200 #[.string (strOf D),.string ⟨#[92,47]⟩] w fun e w'=>e=.returned (.bool q)∧Below w.heap.size w w'):=fun w=>by rw[hq];exact PthM.sZ (strOf D) w (by rw[size_strOf];omega)
      have a1:∀w:World,(Op.stringOp .add ⟨#[92]⟩ (strOf D)).run Tryz.prog w=.ok (.string (strOf (92::D))) w:=fun w=>dL ⟨#[92]⟩ (strOf D) w (by rw[size_strOf];show 1+D.length≤_;omega)
      have HLEN:Hid ((BS++jS (R.take k)).length+(1+D.length)≤140737488355328):=by show _≤_;rw[List.length_append];have:=Tt.out;omega
      have hqf:q=true→V=([],2):=fun h=>HVN.out (Qn k hkl (by rw[←hs,←hD,←hq];exact h))
      have hqn:q=false→oZ (R.take (k+1))=true:=fun h=>by rw[Gz R k hkl,HF.out,←hs,←hD,←hq,h];rfl
      have HQF:=hid hqf
      have HQN:=hid hqn
      clear hs hD hq hsum IY hpk hpl hll hRr hcell hkl hqf hqn hDl
      go_wp2_with fail
      refine(Y6.out _).mono ?_
      rintro e w3 ⟨v3,rfl,hown,hb3⟩
      obtain⟨A3,c3,rfl,hc3,hm3,hr3⟩:=aJ hown
      have hst:=aF 45 9 5 Tryz.underlying45 Tryz.underlying5 Tryz.underlying9 _ c3 hr3
      have adM:=fun k=>aF 45 9 5 Tryz.underlying45 Tryz.underlying5 Tryz.underlying9 _ c3 (Eu hr3 k)
      have HB3:=hid (gZ HB.out hb3)
      have mP:Hid (Below (w.heap.size+1) w1 w3):=HBL.out.trans (hb3.mono hsz)
      clear hown hb3 hr3 hm3 hc3
      go_wp2_with fail
      refine(HCT.out _).mono ?_
      rintro e w4 ⟨rfl,hb4⟩
      have hsz3:w.heap.size+1≤w3.heap.size:=by have:=mP.out.size;rw[hs1]at this;exact this
      have HB4:=hid (gZ HB3.out hb4)
      have F5:Hid (Below (w.heap.size+1) w1 w4):=mP.out.trans (hb4.mono hsz3)
      clear hst adM hb4
      cases q with
      |true=>
       have J4:Hid (V=([],2)):=HQF.out rfl
       go_wp2
       go_ret2
       exact⟨by rw[J4.out];first|done|rfl,hb1.trans (F5.out.mono (by omega))⟩
      |false=>
       have HFN:=hid (HQN.out rfl)
       have Ae:w.heap.size+1≤w4.heap.size:=by have:=F5.out.size;rw[hs1]at this;exact this
       go_wp2_with fail
       refine(write_any _ _ _ _ _ HB4.out (by rw[size_strOf];have:=HLEN.out;simp at this⊢;omega) Ae).mono ?_
       rintro e w5 ⟨rfl,hB5,hb5⟩
       have iG:Hid (lq (w.heap.size+1) (w.heap.size+1) (BS++jS (R.take (k+1))) w5):=by show lq _ _ _ _;rw[HS.out];exact hB5
       have xZ:=hid (F5.out.trans hb5)
       clear hB5 hb5
       go_wp2
       go_roundw
       case rel=>exact⟨k+1,by omega,by go_num,iG,xZ,HFN⟩
       case measure=>simp[intOf];omega
     ·obtain rfl:k=n2:=by omega
      have hT:R.take k=R:=List.take_of_length_le (by rw[HN.out];exact Nat.le_refl _)
      rw[hT]at HB HF
      have hol:(BS++jS R).length≤900000:=by have h1:=vN R;have h2:=Ci.out;have h3:=Tt.out;rw[List.length_append];omega
      obtain⟨O,hO⟩:∃O,O=BS++jS R:=⟨_,rfl⟩
      rw[←hO]at HB hol
      obtain⟨f,hf⟩:∃f,f=sK O:=⟨_,rfl⟩
      have WC:Hid (∀w:World,Env w→Calls Tryz.prog 44 #[.string (strOf O)] w fun e w'=>e=.returned (.bool f)∧Below w.heap.size w w'):=fun w h=>by rw[hf];exact Gp.oW (strOf O) w (by rw[size_strOf];omega) h
      have HVF:Hid (V=if f=true then(O,0)else([],2)):=by show _=_;rw[HVE.out HF.out,←hO,←hf]
      clear hT hO hf hol
      go_wp2_with fail
      refine(iZ _ _ _ _ (QB HB.out) hsz).mono ?_
      rintro e w3 ⟨rfl,hBS,hb3⟩
      have HBS:=hid hBS
      clear hBS
      have mP:=hid (HBL.out.trans hb3)
      have NU:Hid (Below w.heap.size w w3):=hb1.trans (mP.out.mono (by omega))
      go_wp2_with fail
      refine(WC.out _ (HE.out.below NU.out)).mono ?_
      rintro e w4 ⟨rfl,hb4⟩
      have H9:=hid (bel NU.out hb4)
      cases f with
      |false=>
       have J4:Hid (V=([],2)):=by show _=_;rw[HVF.out];rfl
       clear hb3 hb4 HBS
       go_wp2
       go_ret2
       exact⟨by rw[J4.out];first|done|rfl,H9.out⟩
      |true=>
       have J4:Hid (V=(O,0)):=by show _=_;rw[HVF.out];rfl
       have HB4:Hid (IsF (w.heap.size+1) (w.heap.size+1) O w4):=yL HBS.out hb4
       have Ae:w.heap.size+1≤w4.heap.size:=by have h1:=mP.out.size;have h2:=hb4.size;rw[hs1]at h1;omega
       clear hb4
       go_wp2_with fail
       refine(iZ _ _ _ _ HB4.out Ae).mono ?_
       rintro e w5 ⟨rfl,_,hb5⟩
       have WB:Hid (Below w.heap.size w w5):=H9.out.trans (hb5.mono (by omega))
       clear hb5
       go_wp2
       go_ret2
       exact⟨by rw[J4.out];first|done|rfl,WB.out⟩
 ·have q0:(s0.toList==[102,105,108,101])=false:=by rw[tl,beq_eq_false_iff_ne];exact e0
  have HV:Hid (V=([],2)):=by show _=_;rw[hV];unfold BU;rw[if_pos (.inl e0)]
  clear hn hpl hR hl hV e0 hE h3l
  go_enter Tryz.func95,Tryz.ntmps95
  go_wp2
  go_ret2
  exact⟨by rw[HV.out];first|done|rfl,(Below.refl _ _).alloc (Nat.le_refl _) _⟩
end Go.Proofs.YtmpeaoacaecgpaaGreatDoor.TM
namespace Go.Proofs.YtmpeaoacaecgpaaGreatDoor.WinZ
open Go.RowKit Base sW PthP PrsP Ph
open Go.Proofs.YtmpeaoacaecgpaaGreatDoor.pR (seg tX)
open Go.Proofs.YtmpeaoacaecgpaaGreatDoor.oP (W3 iM YK iT og SX FY Ug BAR who uo LOC sK near far bs amT sJ)
open Go.Proofs.YtmpeaoacaecgpaaGreatDoor.Xa (pre)
open Go.Proofs.YtmpeaoacaecgpaaGreatDoor.TM (BU JL headW zh jS oZ brk)
theorem VH (l:List (List UInt8)):jS ((l.map seg).map strOf)=glue 92 l:=by
 unfold jS glue
 rw[List.map_map,List.flatMap_map]
 congr 1
 funext x
 show 92::fU.dec (seg x)=92::x
 rw[tX]
theorem brk_no {x:List UInt8} (h1:∀c ∈ x,c≠47) (h2:∀c ∈ x,c≠92):TM.brk x=false:=by
 unfold TM.brk
 rw[List.any_eq_false]
 intro c hc
 simp[h1 c hc,h2 c hc]
theorem Qo {l:List (List UInt8)} (h1:∀x ∈ l,∀c ∈ x,c≠47) (h2:∀x ∈ l,∀c ∈ x,c≠92):oZ ((l.map seg).map strOf)=true:=by
 unfold oZ
 rw[List.all_eq_true]
 intro s hs
 obtain⟨y,hy,rfl⟩:=List.mem_map.1 hs
 obtain⟨x,hx,rfl⟩:=List.mem_map.1 hy
 show(!TM.brk (fU.dec (seg x)))=true
 rw[tX,brk_no (h1 x hx) (h2 x hx)]
 rfl
theorem who_ne {h:List UInt8} (e:who h=true):h≠[]:=by
 rintro rfl
 exact absurd e (by decide+kernel)
theorem an6 {L:List UInt8} {v:W3} (e:iM L=some v):BU (nZ v).au (nZ v).hst (nZ v).opq (nZ v).aO=(L.map bs,0):=by
 have hfine:sK (L.map bs)=true:=by
  unfold sK
  rw[amT]
  show sK L=true
  rw[←sJ,e]
  rfl
 have hg:glue 92 (iT L)=92::L.map bs:=yJ 92 (L.map bs)
 have ho:∀x ∈ iT L,∀c ∈ x,c≠92:=fun x hx c hc=>(OC 92 _ x hx c hc).2
 have hw:YK (iT L)=some v:=e
 clear e
 generalize iT L=l at hg ho hw
 have hgl:∀(a:List UInt8) (r:List (List UInt8)),glue 92 (a::r)=92::(a++glue 92 r):=fun a r=>rfl
 suffices hs:∀(h:List UInt8) (p:List ByteArray),oZ (zh h p)=true→headW h p++jS (zh h p)=L.map bs→BU FILE h false p=(L.map bs,0)by
  rcases WinE.kinds l with⟨hf,_,k2⟩|⟨hn,_,_,k3,k4⟩|⟨_,_,k3⟩
  ·rw [k2] at hw
   injection hw with hw
   subst hw
   rw[Gp.KE]at hf
   simp only[Bool.and_eq_true,decide_eq_true_eq]at hf
   obtain⟨⟨⟨⟨⟨h1,h2⟩,h3⟩,h4⟩,_⟩,h6⟩:=hf
   have hm:=row_mem h6
   have hne:=who_ne h4
   have hl:l=[]::[]::l.getD 2 []::l.drop 3:=by
    match l,h1,h2,h3 with
    |a::b::c::x::r,_,h2,h3=>
     have h2:a=[]:=h2
     have h3:b=[]:=h3
     subst h2 h3
     rfl
   have hp:(nZ ([],l.getD 2 [],l.drop 3)).aO=((l.drop 3).map seg).map strOf:=rfl
   show BU FILE (l.getD 2 []) false (nZ ([],l.getD 2 [],l.drop 3)).aO=_
   rw[hp]
   refine hs _ _ ?_ ?_
   ·unfold zh
    rw[if_pos hne]
    exact Qo (fun x hx=>(hm x hx).1) (fun x hx=>ho x (List.mem_of_mem_drop hx))
   unfold zh headW
   rw[if_pos hne,if_pos hne,VH]
   rw[hl,hgl,hgl,hgl]at hg
   injection hg with _ hg
  ·rw[k3]at hw
   injection hw with hw
   subst hw
   rw[Gp.Ag]at hn
   simp only[Bool.and_eq_true,decide_eq_true_eq]at hn
   obtain⟨⟨h1,h2⟩,h3⟩:=hn
   have hm:=row_mem h3
   have hl:l=l.getD 0 []::l.drop 1:=by
    match l,h1 with
    |a::r,_=>rfl
   have hp:(nZ (l.getD 0 [],[],l.drop 1)).aO=strOf (l.getD 0 [])::((l.drop 1).map seg).map strOf:=by
    show(pre (l.getD 0 [])++(l.drop 1).map seg).map strOf=_
    unfold pre
    rw[if_neg k4]
    rfl
   show BU FILE [] false (nZ (l.getD 0 [],[],l.drop 1)).aO=_
   rw[hp]
   refine hs _ _ ?_ ?_
   ·unfold zh
    rw[if_neg (fun h=>h rfl)]
    exact Qo (fun x hx=>(hm x hx).1) (fun x hx=>ho x (List.mem_of_mem_drop hx))
   unfold zh headW
   rw[if_neg (fun h=>h rfl),if_neg (fun h=>h rfl)]
   show l.getD 0 []++jS (((l.drop 1).map seg).map strOf)=_
   rw[VH]
   rw[hl,hgl]at hg
   injection hg with _ hg
  rw[k3]at hw
  cases hw
 intro h p h1 h2
 unfold BU JL
 rw[if_neg (by rintro(e|e);exact e rfl;cases e),h2,h1,hfine,if_pos ⟨rfl,rfl⟩]
 rfl
end Go.Proofs.YtmpeaoacaecgpaaGreatDoor.WinZ
namespace Go.Proofs.YtmpeaoacaecgpaaGreatDoor.UG
open Go.RowKit Base Base2 cO UrlA Pg sU PrsP mW tK yx jQ pO vZ WQ oN wo
structure Env (w:World):Prop where
 pow:Tab.Pow w
 lad:oI w
 max:Max w
 Hq:rD w
theorem Env.below {w w':World} (h:Env w) (hb:Below w.heap.size w w'):Env w':=⟨bY h.pow hb,h.lad.below hb,h.max.below hb,h.Hq.below hb⟩
structure Pt (w:World) (u:U) (A:Option Addr) (n c:Nat):Prop where
 aO:dR w u A n c
theorem Pt.below {w w':World} {u:U} {A:Option Addr} {n c:Nat} (h:Pt w u A n c) (hb:Below w.heap.size w w'):Pt w' u A n c:=⟨mW.dR.below h.aO hb⟩
theorem dl (s:ByteArray):s.data.toList.length=s.size:=Array.length_toList
theorem jB {T:ByteArray} {u:U} (ho:PrsP.url T.data.toList none=some u) (hs:T.size≤65536) (w:World) (E:Env w):Calls Tryz.prog 16 #[.string T,.pointer none] w fun e w'=>∃A' n' c',e=.returned (.tuple #[.agg #[.string (strOf u.au),.string (strOf u.usr),.string (strOf u.pwd),.string (strOf u.hst),.bool u.hh,.int .i64 u.port,.bool u.opq,.string (strOf u.txt),.slice A' n' c',.bool u.hq,.bool u.hf,.string (strOf u.dY),.string (strOf u.fB)],.int .i64 0])∧Pt w' u A' n' c'∧Below w.heap.size w w':=by
 have h:=GY T.data.toList w (by rw[dl];exact hs) E.lad E.pow E.max E.Hq
 rw[aG,ho]at h
 exact h.mono fun e w' ⟨h1,A,n,c,h2,h3⟩=>⟨A,n,c,h2,⟨h3.aO⟩,h1⟩
theorem Lp {u:U} {N:Nat} (h:Fit u N):(fQ u).length≤N+60:=by
 have h1:=h.all
 have hl:=h.lo
 have hh:=h.hi
 have hp:(aZ.kK u.port).length≤21:=Rf u.port (by omega) (by omega)
 have hc:(aZ.lD (strOf u.usr) (strOf u.pwd)).length≤u.usr.length+u.pwd.length+2:=by
  unfold aZ.lD
  have e1:(strOf u.usr).data.toList=u.usr:=rfl
  have e2:(strOf u.pwd).data.toList=u.pwd:=rfl
  rw[e1,e2]
  split
  ·split
   ·simp
   simp only[List.length_append,List.length_cons,List.length_nil];omega
  simp only[List.length_append,List.length_cons,List.length_nil];omega
 have hm:(KU u).length≤u.usr.length+u.pwd.length+u.hst.length+25:=by
  unfold KU aZ.ug
  have e1:(strOf u.hst).data.toList=u.hst:=rfl
  rw[e1]
  split
  ·simp only[List.length_append,List.length_cons,List.length_nil];omega
  split
  ·simp only[List.length_cons,List.length_nil];omega
  simp
 have hpl:(aZ.pF u.opq (strOf u.txt) u.aO).length≤u.txt.length+oN.pl u.aO:=by
  unfold aZ.pF oN.pl
  have e1:(strOf u.txt).data.toList=u.txt:=rfl
  rw[e1]
  split<;>omega
 have hq:(if u.hq=true then(63:UInt8)::u.dY else[]).length≤u.dY.length+1:=by split<;>simp
 have hf:(if u.hf=true then(35:UInt8)::u.fB else[]).length≤u.fB.length+1:=by split<;>simp
 rw[Ll,yD]
 simp only[List.length_append,List.length_cons,List.length_nil]
 omega
end Go.Proofs.YtmpeaoacaecgpaaGreatDoor.UG
namespace Go.Proofs.YtmpeaoacaecgpaaGreatDoor.Laws
open Go.RowKit Base Base2 sW yu oP TM Ph WinZ akD PrsP oN wo mW UG
open Go.Proofs.YtmpeaoacaecgpaaGreatDoor.pR (seg)
open Go.Proofs.YtmpeaoacaecgpaaGreatDoor.Xa (pre SQ)
open Go.Proofs.YtmpeaoacaecgpaaGreatDoor.jQ (oI)
open Go.Proofs.YtmpeaoacaecgpaaGreatDoor.pO (Max)
open Go.Proofs.YtmpeaoacaecgpaaGreatDoor.vZ (rD)
theorem pathB_u (u:U) (A:Option Addr) (n c:Nat) (w:World) (hP:Pt w u A n c) (hl:(aZ.aO u.aO).length+u.hst.length≤800000) (E:Env w):Calls Tryz.prog 95 #[.agg #[.string (strOf u.au),.string (strOf u.usr),.string (strOf u.pwd),.string (strOf u.hst),.bool u.hh,.int .i64 u.port,.bool u.opq,.string (strOf u.txt),.slice A n c,.bool u.hq,.bool u.hf,.string (strOf u.dY),.string (strOf u.fB)]] w fun e w'=>e=.returned (.tuple #[.string (strOf (BU u.au u.hst u.opq u.aO).1),.int .i64 (BU u.au u.hst u.opq u.aO).2])∧Below w.heap.size w w':=
 DU (strOf u.au) (strOf u.usr) (strOf u.pwd) (strOf u.hst) u.hh u.port u.opq (strOf u.txt) A n c u.aO u.hq u.hf (strOf u.dY) (strOf u.fB) w hP.aO.1 hP.aO.2.1 hP.aO.2.2 (by rw[size_strOf];exact hl) ⟨E.pow,E.lad,E.max⟩
theorem UU:∀l:List (List UInt8),(aZ.aO ((l.map seg).map strOf)).length≤3*(glue 92 l).length
 |[]=>Nat.zero_le _
 |x::l=>by
  have ih:=UU l
  have h2:=pR.EY x
  have e1:aZ.aO (((x::l).map seg).map strOf)=(47::seg x)++aZ.aO ((l.map seg).map strOf):=rfl
  have e2:glue 92 (x::l)=(92::x)++glue 92 l:=rfl
  rw[e1,e2,List.length_append,List.length_append,List.length_cons,List.length_cons]
  omega
theorem KI:∀(k:Nat) (l:List (List UInt8)),(glue 92 (l.drop k)).length≤(glue 92 l).length
 |0,_=>Nat.le_refl _
 |k+1,[]=>Nat.le_refl _
 |k+1,x::l=>by
  have ih:=KI k l
  have e2:glue 92 (x::l)=(92::x)++glue 92 l:=rfl
  rw[List.drop_succ_cons,e2,List.length_append]
  omega
theorem an7 {L:List UInt8} {v:W3} (e:iM L=some v):v.1.length≤L.length∧v.2.1.length≤L.length∧(glue 92 v.2.2).length≤L.length+1:=by
 have hg:(glue 92 (iT L)).length=L.length+1:=by
  have h:glue 92 (iT L)=92::L.map bs:=yJ 92 (L.map bs)
  rw[h,List.length_cons,List.length_map]
 have h3:∀k,((iT L).getD k []).length≤L.length:=fun k=>by
  rw[List.getD_eq_getElem?_getD]
  cases e:(iT L)[k]? with
  |none=>exact Nat.zero_le _
  |some y=>
   have:=AO 92 _ y (List.mem_of_getElem? e)
   rw[List.length_map]at this
   exact this
 have d1:=KI 1 (iT L)
 have d3:=KI 3 (iT L)
 unfold iM YK at e
 split at e
 ·injection e with e
  rw[←e]
  unfold three
  split
  ·exact⟨h3 0,Nat.zero_le _,by show(glue 92 ((iT L).drop 1)).length≤_;omega⟩
  exact⟨Nat.zero_le _,h3 2,by show(glue 92 ((iT L).drop 3)).length≤_;omega⟩
 cases e
end Go.Proofs.YtmpeaoacaecgpaaGreatDoor.Laws
namespace Go.Proofs.YtmpeaoacaecgpaaGreatDoor.acn
open Go.RowKit Base Base2 O1 ES PrsP oN wo mW UG
theorem VG:gG.all (·.oneCell')=true:=by simp[gG,Value.oneCell']
theorem Md {L:List UInt8} {v:oP.W3} (e:oP.iM L=some v):v.2.1.length≤L.length∧(aZ.aO ((acV.anz v).map strOf)).length≤10*L.length+10:=by
 obtain⟨g1,g2,g3⟩:=Laws.an7 e
 have hcl:=Laws.UU v.2.2
 refine⟨g2,?_⟩
 show(aZ.aO ((Xa.pre v.1++v.2.2.map pR.seg).map strOf)).length≤_
 unfold Xa.pre
 split
 ·show(aZ.aO ((v.2.2.map pR.seg).map strOf)).length≤_
  omega
 show((47::v.1)++aZ.aO ((v.2.2.map pR.seg).map strOf)).length≤_
 rw[List.length_append,List.length_cons]
 omega
theorem an5 {L:List UInt8} {v:oP.W3} (e:oP.iM L=some v) (hl:L.length≤1000):(aZ.aO (Ph.nZ v).aO).length+(Ph.nZ v).hst.length≤800000:=by
 have h:=Md e
 show(aZ.aO ((acV.anz v).map strOf)).length+v.2.1.length≤_
 omega
theorem an4 {L:List UInt8} {v:oP.W3} (e:oP.iM L=some v):(fQ (Ph.nZ v)).length≤11*L.length+100:=by
 have h:=Md e
 have hfit:Fit (Ph.nZ v) (11*L.length+20):=by
  refine⟨?_,by show(-1:Int)≤-1;decide,by show(-1:Int)≤65535;decide⟩
  show 4+0+0+v.2.1.length+0+0+0+(aZ.aO ((acV.anz v).map strOf)).length≤_
  omega
 have:=Lp hfit
 omega
theorem abP {T:ByteArray} (ho:oP.iM T.data.toList=none) (hs:T.size≤900000) (w:World) (E:Env w):Calls Tryz.prog 38 #[.int .i64 1,.string T] w fun e w'=>e=.returned (.tuple #[.string ⟨#[]⟩,.int .i64 2])∧Below w.heap.size w w':=by
 have HU:Hid (∀w:World,Env w→Calls Tryz.prog 94 #[.string T] w fun e w'=>e=.returned (.tuple #[.agg #[.string ⟨#[]⟩,.string ⟨#[]⟩,.string ⟨#[]⟩,.string ⟨#[]⟩,.bool false,.int .i64 0,.bool false,.string ⟨#[]⟩,.slice none 0 0,.bool false,.bool false,.string ⟨#[]⟩,.string ⟨#[]⟩],.int .i64 2])∧Below w.heap.size w w'):=fun w E=>acV.SI ho hs w ⟨E.pow,E.lad,E.max⟩
 have HE:=hid E
 clear E hs ho
 go_enter Tryz.func38,Tryz.ntmps38
 go_upto_region 2 with(fail)
 generalize bI:World.alloc w _=v1
 have h1_:Bx v1 w.heap.size gG∧Below w.heap.size w v1:=by
  subst bI
  exact laid w _ _
 clear bI
 have Tj:=hid h1_.1
 have HB1:=hid h1_.2
 clear h1_
 go_wp2_with fail
 refine(HU.out _ (HE.out.below HB1.out)).mono ?_
 rintro e v2 ⟨rfl,hb2⟩
 have XU2:=hid (Tj.out.below hb2)
 have HB2:=hid (bel HB1.out hb2)
 have sQ:Hid (w.heap.size<v1.heap.size):=Tj.out.lt
 clear Tj HB1 hb2
 go_upto_region 7 with(refine pJ XU2.out gG rfl rfl VG (.tmp 6) (.tmp 22) rfl rfl rfl rfl ?_)
 have hx:=XU2.out.row gG
 have hb:=below_setRow HB2.out (Nat.le_refl _) gG
 generalize World.setRow v2 _ _=v3 at hx hb⊢
 have ZG:=hid hx
 have HB3:=hid hb
 clear hx hb XU2 HB2
 go_wp2
 go_ret2
 exact⟨rfl,HB3.out⟩
theorem abQ {T:ByteArray} {v:oP.W3} (ho:oP.iM T.data.toList=some v) (hs:T.size≤900000) (hl:T.size≤10000) (w:World) (E:Env w):Calls Tryz.prog 38 #[.int .i64 1,.string T] w fun e w'=>e=.returned (.tuple #[.string (strOf (fQ (Ph.nZ v))),.int .i64 0])∧Below w.heap.size w w':=by
 obtain⟨l,hll⟩:∃l,l=acV.anz v:=⟨_,rfl⟩
 obtain⟨h,hh⟩:∃h,h=v.2.1:=⟨_,rfl⟩
 obtain⟨P,Qr⟩:∃P,P=strOf (fQ (Ph.nZ v)):=⟨_,rfl⟩
 have UA:Hid (P=strOf (O4.DZ h l)):=by show _=_;rw[Qr,hh,hll];rfl
 have hlen:=Md ho
 rw[UG.dl]at hlen
 have HHL:Hid (h.length≤1000000):=by show _≤_;rw[hh];omega
 have Ci:Hid ((aZ.aO (l.map strOf)).length≤1073741824):=by show _≤_;rw[hll];omega
 have HU:Hid (∀w:World,Env w→Calls Tryz.prog 94 #[.string T] w fun e w'=>∃A n c,e=.returned (.tuple #[.agg #[.string ⟨#[102,105,108,101]⟩,.string ⟨#[]⟩,.string ⟨#[]⟩,.string (strOf h),.bool true,.int .i64 (-1),.bool false,.string ⟨#[]⟩,.slice A n c,.bool false,.bool false,.string ⟨#[]⟩,.string ⟨#[]⟩],.int .i64 0])∧w'.ownsRow w.heap.size 9 1 (.slice A n c) n ((l.map strOf).map Value.string)∧Below w.heap.size w w'):=fun w E=>by rw[hh,hll];exact(Xa.xA T w hs ⟨E.pow,E.lad,E.max⟩).mono fun e w' h=>(by rw[ho]at h;obtain⟨hb,A,n,c,h1,h2⟩:=h;exact⟨A,n,c,h1,h2,hb⟩)
 rw[←Qr]
 have HE:=hid E
 clear E hs ho hlen hl hll hh Qr
 go_enter Tryz.func38,Tryz.ntmps38
 go_upto_region 2 with(fail)
 generalize bI:World.alloc w _=v1
 have h1_:Bx v1 w.heap.size gG∧Below w.heap.size w v1:=by
  subst bI
  exact laid w _ _
 clear bI
 have Tj:=hid h1_.1
 have HB1:=hid h1_.2
 clear h1_
 go_wp2_with fail
 refine(HU.out _ (HE.out.below HB1.out)).mono ?_
 rintro e v2 ⟨A,n,c,rfl,hpt,hb2⟩
 have HP2:=hid hpt
 clear hpt
 have XU2:=hid (Tj.out.below hb2)
 have HB2:=hid (bel HB1.out hb2)
 have sQ:Hid (w.heap.size<v1.heap.size):=Tj.out.lt
 clear Tj HB1 hb2
 go_upto_region 7 with(refine pJ XU2.out (gy h (.slice A n c)) rfl rfl (aaU _ _ _ _) (.tmp 6) (.tmp 22) rfl rfl rfl rfl ?_)
 have hx:=XU2.out.row (gy h (.slice A n c))
 have hb:=below_setRow HB2.out (Nat.le_refl _) (gy h (.slice A n c))
 have hp:O4.Pt (World.setRow v2 w.heap.size (gy h (.slice A n c))) l A n c:=O4.Pt.of (DT HP2.out sQ.out _)
 generalize World.setRow v2 _ _=v3 at hx hb hp⊢
 have ZG:=hid hx
 have HB3:=hid hb
 have Zb:=hid hp
 have Fg:=hid (hx.load rfl)
 clear hx hb hp XU2 HB2 HP2
 go_wp2_with (refine fJ Fg.out (.tmp 6) rfl rfl rfl ?_)
 refine(O4.Yd h HHL.out l A n c _ Zb.out Ci.out ⟨(HE.out.below HB3.out).pow,(HE.out.below HB3.out).max⟩).mono ?_
 rintro e v4 ⟨rfl,hb4⟩
 rw[←UA.out]
 have HB4:=hid (bel HB3.out hb4)
 clear hb4 ZG Zb HB3 Fg
 go_wp2
 go_ret2
 exact⟨rfl,HB4.out⟩
theorem acH {T:ByteArray} {u:U} (ho:PrsP.url T.data.toList none=some u) (hs:T.size≤65536) (hl:(aZ.aO u.aO).length+u.hst.length≤800000) (w:World) (E:Env w):Calls Tryz.prog 39 #[.int .i64 1,.string T] w fun e w'=>e=.returned (.tuple #[.string (strOf (TM.BU u.au u.hst u.opq u.aO).1),.int .i64 (TM.BU u.au u.hst u.opq u.aO).2])∧Below w.heap.size w w':=by
 obtain⟨V,hV⟩:∃V,(TM.BU u.au u.hst u.opq u.aO)=V:=⟨_,rfl⟩
 have TB:Hid (∀(A:Option Addr) (n c:Nat) (w:World),Pt w u A n c→Env w→Calls Tryz.prog 95 #[.agg #[.string (strOf u.au),.string (strOf u.usr),.string (strOf u.pwd),.string (strOf u.hst),.bool u.hh,.int .i64 u.port,.bool u.opq,.string (strOf u.txt),.slice A n c,.bool u.hq,.bool u.hf,.string (strOf u.dY),.string (strOf u.fB)]] w fun e w'=>e=.returned (.tuple #[.string (strOf V.1),.int .i64 V.2])∧Below w.heap.size w w'):=fun A n c w hP E=>by rw[←hV];exact Laws.pathB_u u A n c w hP hl E
 have yc:Hid (∀w,Env w→Calls Tryz.prog 16 #[.string T,.pointer none] w fun e w'=>∃A' n' c',e=.returned (.tuple #[.agg #[.string (strOf u.au),.string (strOf u.usr),.string (strOf u.pwd),.string (strOf u.hst),.bool u.hh,.int .i64 u.port,.bool u.opq,.string (strOf u.txt),.slice A' n' c',.bool u.hq,.bool u.hf,.string (strOf u.dY),.string (strOf u.fB)],.int .i64 0])∧Pt w' u A' n' c'∧Below w.heap.size w w'):=fun w E=>jB ho hs w E
 have HE:=hid E
 rw[hV]
 clear ho hs hl E hV
 go_enter Tryz.func39,Tryz.ntmps39
 go_wp2_with fail
 refine(yc.out _ HE.out).mono ?_
 rintro e w1 ⟨A1,n1,c1,rfl,hpt,hb⟩
 have HB1:=hid hb
 have sO:=hid (HE.out.below hb)
 clear hb
 have T1:=hid (hpt)
 clear hpt
 go_upto_region 4 with(fail)
 generalize bI:World.alloc _ _=v2
 have hxa:UB v2 (w1.heap.size) u (.slice A1 n1 c1):=by rw[←bI];exact heap_alloc_new _ _
 have hb:Below w1.heap.size w1 v2:=by rw[←bI];exact(Below.refl _ _).alloc (Nat.le_refl _) _
 have X1:=hid hxa
 clear bI hxa
 have HB2:=hid (bel HB1.out hb)
 have xY:=hid (sO.out.below hb)
 have WY:=hid (T1.out.below hb)
 clear hb
 obtain⟨TU,ka1,TV,TW,TY,Ua,Ub,Uc,ka8,Ud,xK,xM,xO⟩:=X1.out.facts
 go_wp2_with fail
 clear TU ka1 TV TW TY Ua Ub Uc ka8 Ud xK xM xO
 refine(TB.out _ _ _ _ WY.out xY.out).mono ?_
 rintro e w3 ⟨rfl,hb⟩
 have HB3:=hid (bel HB2.out hb)
 have vV:=hid (xY.out.below hb)
 have zJ:=hid (WY.out.below hb)
 have acW:=hid (X1.out.below hb)
 clear hb
 go_wp2
 go_ret2
 exact⟨rfl,HB3.out⟩
end Go.Proofs.YtmpeaoacaecgpaaGreatDoor.acn
namespace Go.Proofs.YtmpeaoacaecgpaaGreatDoor.Shs
open Go.RowKit Base
variable {H:Type} {enc:TypeId×Value→H}
theorem wrap {a:Assume} {C:Checked} {os:Os} {f:FuncId} {fn:Func} {s:ChangeSpec} {conds:List PathCond} {apart fresh handsOn again:Bool} {X:World→Array Value→Prop}
  (hX:∀(w w':World) (args:Array Value),w.heap=w'.heap→X w args→X w' args)
  (own:ownKnob C.prog.godebug=none) (started:os.Started) (noInit:C.prog.inits.idxOf? f=none) (hfn:C.prog.funcs[f]?=some fn)
  (witness:∃(w:World) (tape:Tape) (i:Input),w.os=os∧(w.forCall tape i).Shaped C.prog∧i.vars=[]∧Input.okWide C.prog (w.forCall tape i) .any w.heap.size f i∧
   ((s.pre enc C.prog fn conds apart (w.forCall tape i).memory i.args∧X (w.forCall tape i).memory i.args)∧sizedMet enc C.prog fn (OpenSpec.ofChange s) apart (w.forCall tape i).memory i.args)∧a.holds C.prog (lone (Frame.enter C.prog f i.args .normal) [] (w.forCall tape i)))
  (contract:∀(W:World) (base:Nat) (args:Array Value) (ds gs:List (DataW H)) (before:List MemPlace),
   (∀(j:Nat) t v,fn.params[j]?=some t→args[j]?=some v→Value.okWide C.prog W .any base t v)→
   DataW.Whole enc C.prog fn.params.toList s.vars apart W args.toList ds gs before→
   conds.all (PathCond.test C.prog ⟨fn.params.toList,ds,s.plain.varTypes C.prog,gs⟩)=true→
   (DataW.weightsEach C.prog (fn.params.toList++s.plain.varTypes C.prog) (ds++gs)).all (·≤reachBytes)=true→X W args→W.ShapedOpen C.prog→
   a.holds C.prog (lone (Frame.enter C.prog f args .normal) [] W)→
   Calls C.prog f args W fun e W'=>∃v,e=.returned v∧s.post enc C.prog fn apart fresh handsOn again W args v W'):
  ReturnsInHanded a C os f .any (fun w args=>(s.pre enc C.prog fn conds apart w args∧X w args)∧sizedMet enc C.prog fn (OpenSpec.ofChange s) apart w args) (s.post enc C.prog fn apart fresh handsOn again):=by
 refine returnsInHanded_of_calls own started noInit witness ?_
 intro w tape i _ hsh _ hok hpre hholds
 obtain⟨_,_,_,fn',hfn',_,_,_,_,hval⟩:=hok
 have e:fn'=fn:=Option.some.inj (hfn'.symm.trans hfn)
 subst e
 obtain⟨⟨⟨ds,gs,before,hw,hc⟩,hx⟩,hz⟩:=hpre
 have hw':=DataW.Whole.of_heap (w':=w.forCall tape i) (by rfl) hw
 refine(contract (w.forCall tape i) w.heap.size i.args ds gs before hval hw' hc (hz.weights hw) (hX _ _ _ (by rfl) hx) hsh hholds).mono fun e W' ⟨v,he,hp⟩=>?_
 subst he
 exact ChangeSpec.post_blind hp
theorem max_of {w:World} (h:w.ShapedOpen Tryz.prog):pO.Max w:=Go.Proofs.cell_of_shapedOpen_int (zero:=#[.int .i64 0]) (t:=3) h (of_decide_eq_true (by kernel_rfl)) (by kernel_rfl) rfl (by kernel_rfl) (by kernel_rfl) Tryz.underlying3
end Go.Proofs.YtmpeaoacaecgpaaGreatDoor.Shs
namespace Go.Proofs.YtmpeaoacaecgpaaGreatDoor.rD
open Go.RowKit Go.Lib
theorem utab_of {W:World} {l:List (String×DataW Unit)} (h:laidMet Tryz.prog l W) (h1:("unicode/utf8.first",firstData) ∈ l) (h2:("unicode/utf8.acceptRanges",acceptData) ∈ l):vZ.rD W:=
 utf8Tabs_of_reads (ρ:=Tryz.l237_ren) {Tryz.l237 with} ⟨by kernel_rfl,by kernel_rfl,by kernel_rfl,by kernel_rfl,by kernel_rfl,by kernel_rfl,by kernel_rfl⟩ (Lib.laidMet.reads h h1) (Lib.laidMet.reads h h2)
end Go.Proofs.YtmpeaoacaecgpaaGreatDoor.rD
namespace Go.Proofs.YtmpeaoacaecgpaaGreatDoor.aj2
open Go.ChangeShapes Go.WideShapes Go.ChangeAt Go.RowKit Base
variable {P:Program} {w:World} {H:Type} {enc:TypeId×Value→H} {base:Nat} {held:Bool}
theorem PW {t e:TypeId} {k:IntKind} {fuel:Nat} {a:Option Addr} {len cap:Nat} {x:DataW H×List MemPlace} (ht:P.underlying t=some (.slice e)) (he:P.underlying e=some (.int k)) (hc:P.cellsOf e=1)
  (h:DataW.trod enc P w base (fun _=>true) held fuel t (Value.slice a len cap).cells.toList=some x):
  cap=0∨∃es sp,x.1=.slice es sp∧es.length+sp.length=cap:=by
 rcases open_ints ht he hc h with⟨hcs,_⟩|⟨_,l,c,zs,hcs,_,hl,hm,hz,rfl,_,_⟩
 ·simp[Value.cells]at hcs
  exact .inl hcs.2.2
 ·simp[Value.cells]at hcs
  obtain⟨rfl,rfl,rfl⟩:=hcs
  have hz':zs.length=cap:=by simpa using hz
  refine .inr ⟨_,_,rfl,?_⟩
  simp only[lits,List.length_map,List.length_take,List.length_drop]
  omega
theorem reach {ts:List TypeId} {ds:List (DataW H)} (hsz:(DataW.weightsEach P ts ds).all (·≤reachBytes)=true) {j:Nat} {t e:TypeId} {k:IntKind} {b fuel:Nat} {a:Option Addr} {len cap:Nat} {x:DataW H×List MemPlace}
  (htj:ts[j]?=some t) (hdj:ds[j]?=some x.1) (ht:P.underlying t=some (.slice e)) (he:P.underlying e=some (.int k)) (hc:P.cellsOf e=1) (hb:P.bytesOf e=b)
  (h:DataW.trod enc P w base (fun _=>true) held fuel t (Value.slice a len cap).cells.toList=some x):cap*b≤140737488351232:=by
 rcases PW ht he hc h with rfl|⟨es,sp,e1,hl⟩
 ·simp
 ·have:=sized_slice hsz htj (hdj.trans (congrArg some e1)) ht
  rw[hl,hb]at this
  exact this
theorem aar {ts:List TypeId} {ds:List (DataW H)} (hsz:(DataW.weightsEach P ts ds).all (·≤reachBytes)=true) {i:Nat} {t:TypeId} {fs:Array Field} {parts:List (DataW H)} (hti:ts[i]?=some t) (hdi:ds[i]?=some (.agg parts)) (hu:P.underlying t=some (.struct fs))
  {j:Nat} {ft:TypeId} {bytes:List UInt8} (hf:(fs.toList.map (·.type))[j]?=some ft) (hp:parts[j]?=some (.lit (.string bytes))):bytes.length≤reachBytes:=by
 have:=List.all_eq_true.1 hsz _ (DataW.weights_mem_each hti hdi bytes.length (by
  simp only[DataW.weights,hu]
  exact DataW.weights_mem_each hf hp _ (by simp[DataW.weights])))
 simpa using this
end Go.Proofs.YtmpeaoacaecgpaaGreatDoor.aj2
