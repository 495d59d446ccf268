/- Texts that belong together: HstE, WinB, WinR, Gp. -/
import Derived.Test.YtmpeaoacaecgpaaGreatDoorYAM
import Derived.Test.YtmpeaoacaecgpaaGreatDoorYAG
import Derived.Test.YtmpeaoacaecgpaaGreatDoorYAP
import Derived.Test.YtmpeaoacaecgpaaGreatDoorYAT
import Derived.Test.YtmpeaoacaecgpaaGreatDoorShelf4
import Derived.Test.YtmpeaoacaecgpaaGreatDoorYAD
import Derived.Lib.Replace
import Derived.Lib.IndexLaws
import Derived.Test.YtmpeaoacaecgpaaGreatDoorYAH
import Derived.Test.YtmpeaoacaecgpaaGreatDoorYAK
set_option linter.unusedSimpArgs false
set_option linter.unusedVariables false
set_option maxRecDepth 100000
set_option maxHeartbeats 64000000
namespace Go.Proofs.YtmpeaoacaecgpaaGreatDoor.HstE
open Go.RowKit Base Base2 cO oO wu O5 gU jQ WU nP HstP Zo WJ sU
theorem str_nil {s:ByteArray} (h:s.size=0):s.toList=[]:=by
 rw[Lib.toList_data]
 exact List.eq_nil_of_length_eq_zero (by rw[Array.length_toList];exact h)
theorem adA (s:ByteArray) (h:0<s.size) (hh:¬s.data.toList.head?=some 91):(s.toList==[])=false∧s.toList.isEmpty=false∧¬s.toList=[]∧∃x:UInt8,s[0]=x∧((x.toNat:Int)==91)=false∧¬(x.toNat:Int)=91:=by
 have hl:s.data.toList.length=s.size:=Array.length_toList
 obtain⟨a,r,hM⟩:∃a r,s.data.toList=a::r:=by
  cases e:s.data.toList with
  |nil=>rw[e]at hl;simp at hl;omega
  |cons a r=>exact⟨a,r,rfl⟩
 have hs0:s[0]=a:=by
  have:s.data.toList[0]'(by omega)=s[0]:=rfl
  rw[←this]
  simp only[hM,List.getElem_cons_zero]
 have ha:a≠91:=by
  intro e
  rw[hM,e]at hh
  exact hh rfl
 have hn:¬(a.toNat:Int)=91:=fun e=>ha (UInt8.toNat_inj.1 (by show _=91;omega))
 rw[Lib.toList_data,hM]
 exact⟨rfl,rfl,by simp,a,hs0,by rw[beq_eq_false_iff_ne];exact hn,hn⟩
theorem amQ (s : ByteArray) (w : World) (hs : s.size ≤ 900000) (hh : ¬ s.data.toList.head? = some 91) : Calls Tryz.prog 280 #[.string s, .bool true] w fun e w' => e = .returned (HV (hst s.data.toList true)) ∧ Below w.heap.size w w' := by
 have hl:s.data.toList.length=s.size:=Array.length_toList
 have pY:=hid hl
 obtain⟨H,hH⟩:∃H,H=HV (hst s.data.toList true):=⟨_,rfl⟩
 rw[←hH]
 have Zh:=hid hs
 clear hl
 have hH2:H=HV (if oks true (lower (fU.dec s.data.toList))=true then XB (lower (fU.dec s.data.toList))else none):=by
  rw[hH]
  unfold hst
  rw[if_neg hh,if_pos rfl]
  unfold SL
  rw[VF]
 obtain⟨D,hD⟩:∃D:ByteArray,D=strOf (fU.dec s.data.toList):=⟨_,rfl⟩
 obtain⟨M,hM⟩:∃M:ByteArray,M=strOf (lower D.data.toList):=⟨_,rfl⟩
 have hDd:fU.dec s.data.toList=D.data.toList:=by rw[hD];rfl
 have XJ:lower D.data.toList=M.data.toList:=by rw[hM];rfl
 have hDs:D.size≤900000:=by
  rw[hD,size_strOf]
  have:=fU.ku s.data.toList
  rw[pY.out]at this
  omega
 have hMs:M.size≤900000:=by
  rw[hM,size_strOf,Vz]
  have:D.data.toList.length=D.size:=Array.length_toList
  omega
 have Y6:Hid (∀w,Calls Tryz.prog 78 #[.string s] w fun e w'=>e=.returned (.string D)∧Below w.heap.size w w'):=by
  show ∀w,_
  rw[hD]
  exact fun w=>EscF.adk s w (by omega)
 have Tf:Hid (∀w,Calls Tryz.prog 79 #[.string D] w fun e w'=>e=.returned (.string M)∧Below w.heap.size w w'):=by
  show ∀w,_
  rw[hM]
  exact fun w=>jK.gI D w (by omega)
 rw[hDd,XJ]at hH2
 have HH:=hid hH2
 have hlm:M.data.toList.length=M.size:=Array.length_toList
 have HLM:=hid hlm
 have HM9:=hid hMs
 clear hH hH2 hD hM hDd XJ hDs hMs hlm
 rcases Nat.eq_zero_or_pos s.size with h0|h0
 ·have hq:s.toList=[]:=str_nil h0
  have hq2:(s.toList==[])=true:=by rw[hq];rfl
  clear hh h0 hs hq
  go_enter Tryz.func280,Tryz.ntmps280
  go_wp2_with fail
  refine(Y6.out _).mono ?_
  rintro e w1 ⟨rfl,hb1⟩
  have HB1:=hid hb1
  clear hb1
  go_wp2_with fail
  refine(Tf.out _).mono ?_
  rintro e wm ⟨rfl,hb2⟩
  have HB2:=hid (bel HB1.out hb2)
  clear hb2
  go_wp2
  go_loopw [8,50] (fun _ vk wr=>∃k:Nat,k≤M.size∧vk=.int .i64 (k:Int)∧wr=wm∧Hid (oks true (M.data.toList.take k)=true)) (fun _ vk _=>M.size - (intOf vk).toNat)
  case atStart=>exact⟨0,Nat.zero_le _,rfl,rfl,rfl⟩
  case round=>
   obtain⟨k,hk,rfl,rfl,HO⟩:=hrel
   have hmz:M.size≤900000:=HM9.out
   by_cases hlt:k<M.size
   ·obtain ⟨c,hc⟩:∃c,M[k]=c:=⟨_,rfl⟩
    have hkl:k<M.data.toList.length:=by rw[HLM.out];exact hlt
    have hcl:M.data.toList[k]=c:=hc
    cases hf:JU true c with
    |true=>
     have HE:Hid (H=.tuple #[.string (strOf []),.bool false]):=by
      show _=_
      rw[HH.out,if_neg (by rw[GU true _ k hkl (by rw[hcl,vM,hf];rfl)];exact Bool.false_ne_true)]
      rfl
     have hfc:=fun w=>je c true w
     rw[hf]at hfc
     have HF:=hid hfc
     clear hkl hcl hf hfc
     go_wp2_with fail
     refine(HF.out _).mono ?_
     rintro e w2 ⟨rfl,rfl⟩
     go_wp2
     go_ret2
     exact⟨by rw[HE.out];rfl,HB2.out⟩
    | false=>
     by_cases h126:(126:Int)<(c.toNat:Int)
     ·have HE:Hid (H=.tuple #[.string (strOf []),.bool false]):=by
       show _=_
       rw[HH.out,if_neg]
       ·rfl
       rw[GU true _ k hkl (by rw[hcl,vM,decide_eq_false (by omega),Bool.and_false])]
       exact Bool.false_ne_true
      have hfc:=fun w=>je c true w
      rw[hf]at hfc
      have HF:=hid hfc
      clear hkl hcl hf hfc
      go_wp2_with fail
      refine(HF.out _).mono ?_
      rintro e w2 ⟨rfl,rfl⟩
      go_wp2
      go_ret2
      exact⟨by rw[HE.out];rfl,HB2.out⟩
     have hc126:¬(126:Int)<(c.toNat:Int):=h126
     have HN:Hid (oks true (M.data.toList.take (k+1))=true):=by
      show _=_
      rw[qX true _ k hkl,HO.out,hcl]
      unfold okb
      rw[hf]
      rw[decide_eq_true (by omega)];rfl
     have hfc:=fun w=>je c true w
     rw[hf]at hfc
     have HF:=hid hfc
     clear hkl hcl hf hfc
     go_wp2_with fail
     refine(HF.out _).mono ?_
     rintro e w2 ⟨rfl,rfl⟩
     go_wp2
     go_roundw
     case rel=>exact⟨k+1,by omega,by go_num,by first|rfl|trivial,HN.out⟩
     case measure=>simp[intOf];omega
   have hO:oks true M.data.toList=true:=by
    have:=HO.out
    rw[List.take_of_length_le (by rw[HLM.out];omega)]at this
    exact this
   have hH3:H=HV (XB M.data.toList):=by rw[HH.out,if_pos hO]
   have hend:=fun w=>acO.Nc M w HM9.out
   clear hO HO HH
   by_cases hM0:M.data.toList=[]
   ·have HE:Hid (H=.tuple #[.string (strOf []),.bool false]):=by show _=_;rw[hH3,hM0];rfl
    have hq:M.toList=[]:=by rw[Lib.toList_data];exact hM0
    have hq2:(M.toList==[])=true:=by rw[hq];rfl
    clear hend hM0 hH3 hq
    go_wp2
    go_ret2
    exact⟨by rw[HE.out];rfl,HB2.out⟩
   have hq:(M.toList==[])=false:=by
    rw[Lib.toList_data,beq_eq_false_iff_ne]
    exact hM0
   have hq2:M.toList.isEmpty=false:=by rw[Lib.toList_data];simpa using hM0
   have hq3:¬M.toList=[]:=by rw[Lib.toList_data];exact hM0
   cases he:ends M.data.toList with
   |false=>
    rw[he]at hend
    have F6:=hid hend
    have HE:Hid (H=.tuple #[.string M,.bool true]):=by
     show _=_
     rw[hH3]
     unfold XB
     rw[if_neg hM0,he,if_neg (by simp)]
     show Value.tuple #[.string (strOf M.data.toList),.bool true]=_
     rw[aG]
    clear hend he hM0 hH3
    go_wp2_with fail
    refine(F6.out _).mono ?_
    rintro e w3 ⟨rfl,hb3⟩
    have HB3:=hid (bel HB2.out hb3)
    clear hb3
    go_wp2
    go_ret2
    exact⟨by rw[HE.out];rfl,HB3.out⟩
   | true=>
    rw[he]at hend
    have F6:=hid hend
    have hH4:H=HV ((NR M.data.toList).map Gl.pr):=by rw[hH3];unfold XB;rw[if_neg hM0,he,if_pos rfl]
    have hpa:=fun w=>QudF.Jq M w HM9.out
    clear hend he hM0 hH3
    cases hp:NR M.data.toList with
    |none=>
     rw[hp]at hpa hH4
     have HE:Hid (H=.tuple #[.string (strOf []),.bool false]):=by show _=_;rw[hH4];rfl
     have uQ:Hid (BH.oN none=.tuple #[.int .u32 0,.bool false]):=BH.dh _ rfl
     rw[uQ.out]at hpa
     have HP:=hid hpa
     clear hpa hH4 hp
     go_wp2_with fail
     refine(F6.out _).mono ?_
     rintro e w3 ⟨rfl,hb3⟩
     have HB3:=hid (bel HB2.out hb3)
     clear hb3
     go_wp2_with fail
     refine(HP.out _).mono ?_
     rintro e w4 ⟨rfl,hb4⟩
     have HB4:=hid (bel HB3.out hb4)
     clear hb4
     go_wp2
     go_ret2
     exact⟨by rw[HE.out];rfl,HB4.out⟩
    |some n=>
     have hn:=Ri hp
     rw[hp]at hpa hH4
     obtain⟨R,hR⟩:∃R:ByteArray,R=strOf (Gl.pr n):=⟨_,rfl⟩
     have HE:Hid (H=.tuple #[.string R,.bool true]):=by show _=_;rw[hH4,hR];rfl
     have uQ:Hid (BH.oN (some n)=.tuple #[.int .u32 (n:Int),.bool true]):=BH.yX _ n rfl
     rw[uQ.out]at hpa
     have HP:=hid hpa
     have UA:Hid (∀w,Calls Tryz.prog 320 #[.int .u32 (n:Int)] w fun e w'=>e=.returned (.string R)∧Below w.heap.size w w'):=by
      show ∀w,_
      rw[hR]
      exact fun w=>QudH.Js n hn w
     clear hpa hH4 hp hn hR
     go_wp2_with fail
     refine(F6.out _).mono ?_
     rintro e w3 ⟨rfl,hb3⟩
     have HB3:=hid (bel HB2.out hb3)
     clear hb3
     go_wp2_with fail
     refine(HP.out _).mono ?_
     rintro e w4 ⟨rfl,hb4⟩
     have HB4:=hid (bel HB3.out hb4)
     clear hb4
     go_wp2_with fail
     refine(UA.out _).mono ?_
     rintro e w5 ⟨rfl,hb5⟩
     have iG:=hid (bel HB4.out hb5)
     clear hb5
     go_wp2
     go_ret2
     exact⟨by rw[HE.out];rfl,iG.out⟩
 obtain⟨hq,hq2,hq3,x,hx0,hx,hxn⟩:=adA s h0 hh
 have h0i:(0:Int)<(s.size:Int):=by omega
 clear hh hs
 go_enter Tryz.func280,Tryz.ntmps280
 go_wp2_with fail
 refine(Y6.out _).mono ?_
 rintro e w1 ⟨rfl,hb1⟩
 have HB1:=hid hb1
 clear hb1
 go_wp2_with fail
 refine(Tf.out _).mono ?_
 rintro e wm ⟨rfl,hb2⟩
 have HB2:=hid (bel HB1.out hb2)
 clear hb2
 go_wp2
 go_loopw [8,50] (fun _ vk wr=>∃k:Nat,k≤M.size∧vk=.int .i64 (k:Int)∧wr=wm∧Hid (oks true (M.data.toList.take k)=true)) (fun _ vk _=>M.size - (intOf vk).toNat)
 case atStart=>exact⟨0,Nat.zero_le _,rfl,rfl,rfl⟩
 case round=>
  obtain⟨k,hk,rfl,rfl,HO⟩:=hrel
  have hmz:M.size≤900000:=HM9.out
  by_cases hlt:k<M.size
  ·obtain ⟨c,hc⟩:∃c,M[k]=c:=⟨_,rfl⟩
   have hkl:k<M.data.toList.length:=by rw[HLM.out];exact hlt
   have hcl:M.data.toList[k]=c:=hc
   cases hf:JU true c with
   |true=>
    have HE:Hid (H=.tuple #[.string (strOf []),.bool false]):=by
     show _=_
     rw[HH.out,if_neg (by rw[GU true _ k hkl (by rw[hcl,vM,hf];rfl)];exact Bool.false_ne_true)]
     rfl
    have hfc:=fun w=>je c true w
    rw[hf]at hfc
    have HF:=hid hfc
    clear hkl hcl hf hfc
    go_wp2_with fail
    refine(HF.out _).mono ?_
    rintro e w2 ⟨rfl,rfl⟩
    go_wp2
    go_ret2
    exact⟨by rw[HE.out];rfl,HB2.out⟩
   | false=>
    by_cases h126:(126:Int)<(c.toNat:Int)
    ·have HE:Hid (H=.tuple #[.string (strOf []),.bool false]):=by
      show _=_
      rw[HH.out,if_neg]
      ·rfl
      rw[GU true _ k hkl (by rw[hcl,vM,decide_eq_false (by omega),Bool.and_false])]
      exact Bool.false_ne_true
     have hfc:=fun w=>je c true w
     rw[hf]at hfc
     have HF:=hid hfc
     clear hkl hcl hf hfc
     go_wp2_with fail
     refine(HF.out _).mono ?_
     rintro e w2 ⟨rfl,rfl⟩
     go_wp2
     go_ret2
     exact⟨by rw[HE.out];rfl,HB2.out⟩
    have hc126:¬(126:Int)<(c.toNat:Int):=h126
    have HN:Hid (oks true (M.data.toList.take (k+1))=true):=by
     show _=_
     rw[qX true _ k hkl,HO.out,hcl]
     unfold okb
     rw[hf]
     rw[decide_eq_true (by omega)];rfl
    have hfc:=fun w=>je c true w
    rw[hf]at hfc
    have HF:=hid hfc
    clear hkl hcl hf hfc
    go_wp2_with fail
    refine(HF.out _).mono ?_
    rintro e w2 ⟨rfl,rfl⟩
    go_wp2
    go_roundw
    case rel=>exact⟨k+1,by omega,by go_num,by first|rfl|trivial,HN.out⟩
    case measure=>simp[intOf];omega
  have hO:oks true M.data.toList=true:=by
   have:=HO.out
   rw[List.take_of_length_le (by rw[HLM.out];omega)]at this
   exact this
  have hH3:H=HV (XB M.data.toList):=by rw[HH.out,if_pos hO]
  have hend:=fun w=>acO.Nc M w HM9.out
  clear hO HO HH
  by_cases hM0:M.data.toList=[]
  ·have HE:Hid (H=.tuple #[.string (strOf []),.bool false]):=by show _=_;rw[hH3,hM0];rfl
   have hq:M.toList=[]:=by rw[Lib.toList_data];exact hM0
   have hq2:(M.toList==[])=true:=by rw[hq];rfl
   clear hend hM0 hH3 hq
   go_wp2
   go_ret2
   exact⟨by rw[HE.out];rfl,HB2.out⟩
  have hq:(M.toList==[])=false:=by
   rw[Lib.toList_data,beq_eq_false_iff_ne]
   exact hM0
  have hq2:M.toList.isEmpty=false:=by rw[Lib.toList_data];simpa using hM0
  have hq3:¬M.toList=[]:=by rw[Lib.toList_data];exact hM0
  cases he:ends M.data.toList with
  |false=>
   rw[he]at hend
   have F6:=hid hend
   have HE:Hid (H=.tuple #[.string M,.bool true]):=by
    show _=_
    rw[hH3]
    unfold XB
    rw[if_neg hM0,he,if_neg (by simp)]
    show Value.tuple #[.string (strOf M.data.toList),.bool true]=_
    rw[aG]
   clear hend he hM0 hH3
   go_wp2_with fail
   refine(F6.out _).mono ?_
   rintro e w3 ⟨rfl,hb3⟩
   have HB3:=hid (bel HB2.out hb3)
   clear hb3
   go_wp2
   go_ret2
   exact⟨by rw[HE.out];rfl,HB3.out⟩
  | true=>
   rw[he]at hend
   have F6:=hid hend
   have hH4:H=HV ((NR M.data.toList).map Gl.pr):=by rw[hH3];unfold XB;rw[if_neg hM0,he,if_pos rfl]
   have hpa:=fun w=>QudF.Jq M w HM9.out
   clear hend he hM0 hH3
   cases hp:NR M.data.toList with
   |none=>
    rw[hp]at hpa hH4
    have HE:Hid (H=.tuple #[.string (strOf []),.bool false]):=by show _=_;rw[hH4];rfl
    have uQ:Hid (BH.oN none=.tuple #[.int .u32 0,.bool false]):=BH.dh _ rfl
    rw[uQ.out]at hpa
    have HP:=hid hpa
    clear hpa hH4 hp
    go_wp2_with fail
    refine(F6.out _).mono ?_
    rintro e w3 ⟨rfl,hb3⟩
    have HB3:=hid (bel HB2.out hb3)
    clear hb3
    go_wp2_with fail
    refine(HP.out _).mono ?_
    rintro e w4 ⟨rfl,hb4⟩
    have HB4:=hid (bel HB3.out hb4)
    clear hb4
    go_wp2
    go_ret2
    exact⟨by rw[HE.out];rfl,HB4.out⟩
   |some n=>
    have hn:=Ri hp
    rw[hp]at hpa hH4
    obtain⟨R,hR⟩:∃R:ByteArray,R=strOf (Gl.pr n):=⟨_,rfl⟩
    have HE:Hid (H=.tuple #[.string R,.bool true]):=by show _=_;rw[hH4,hR];rfl
    have uQ:Hid (BH.oN (some n)=.tuple #[.int .u32 (n:Int),.bool true]):=BH.yX _ n rfl
    rw[uQ.out]at hpa
    have HP:=hid hpa
    have UA:Hid (∀w,Calls Tryz.prog 320 #[.int .u32 (n:Int)] w fun e w'=>e=.returned (.string R)∧Below w.heap.size w w'):=by
     show ∀w,_
     rw[hR]
     exact fun w=>QudH.Js n hn w
    clear hpa hH4 hp hn hR
    go_wp2_with fail
    refine(F6.out _).mono ?_
    rintro e w3 ⟨rfl,hb3⟩
    have HB3:=hid (bel HB2.out hb3)
    clear hb3
    go_wp2_with fail
    refine(HP.out _).mono ?_
    rintro e w4 ⟨rfl,hb4⟩
    have HB4:=hid (bel HB3.out hb4)
    clear hb4
    go_wp2_with fail
    refine(UA.out _).mono ?_
    rintro e w5 ⟨rfl,hb5⟩
    have iG:=hid (bel HB4.out hb5)
    clear hb5
    go_wp2
    go_ret2
    exact⟨by rw[HE.out];rfl,iG.out⟩
end Go.Proofs.YtmpeaoacaecgpaaGreatDoor.HstE
namespace Go.Proofs.YtmpeaoacaecgpaaGreatDoor.WinB
open Go.RowKit Base Base2 sW Sls NI oP ag1 dI
open Go.Proofs.YtmpeaoacaecgpaaGreatDoor.HstP (hst HV)
open Go.Proofs.YtmpeaoacaecgpaaGreatDoor.jQ (oI)
open Go.Proofs.YtmpeaoacaecgpaaGreatDoor.pO (Max)
theorem alZ (s : ByteArray) (w : World) (hs : s.size ≤ 900000) (hL : oI w) (hT : Tab.Pow w) (hM : Max w) :
  Calls Tryz.prog 213 #[.string s] w fun e w'=>e=.returned (.bool (who s.data.toList))∧Below w.heap.size w w':=by
 have hl:s.data.toList.length=s.size:=Array.length_toList
 obtain⟨b,hb⟩:∃b,b=who s.data.toList:=⟨_,rfl⟩
 rw[←hb]
 obtain⟨E,hE⟩:∃E,E=s.data.toList.all uo:=⟨_,rfl⟩
 obtain⟨H,hH⟩:∃H,H=hst s.data.toList true:=⟨_,rfl⟩
 have WA:Hid (b=(E&&decide (H=some s.data.toList)&&decide (s.data.toList≠LOC))):=by show _=_;rw[hb,hE,hH];rfl
 have HPH:Hid (Calls Tryz.prog 230 #[.string s,.bool true] w fun e w'=>e=.returned (HV H)∧Below w.heap.size w w'):=by rw[hH];exact sU.parse_any s true w hs hL hT hM
 have sQ:Hid (∀(c:UInt8) (w:World),Calls Tryz.prog 215 #[.int .u8 (c.toNat:Int)] w fun e w'=>e=.returned (.bool (letter c.toNat))∧w=w'):=fun c w=>dI.dN _ w
 have Tv:Hid (∀(c:UInt8) (w:World),Calls Tryz.prog 216 #[.int .u8 (c.toNat:Int)] w fun e w'=>e=.returned (.bool (digit c.toNat))∧w=w'):=fun c w=>dI.fE _ w
 have HL:=hid hl
 have Zh:=hid hs
 have Uw:Hid (E=(s.data.toList.drop 0).all uo):=hE
 clear hb hE hH hl hs hL hT hM
 go_enter Tryz.func213,Tryz.ntmps213
 go_wp2
 go_loopw [3] (fun vk wr=>∃k:Nat,k≤s.size∧vk=.int .i64 (k:Int)∧wr=w∧Hid (E=(s.data.toList.drop k).all uo)) (fun vk _=>s.size - (intOf vk).toNat)
 case atStart=>exact⟨0,Nat.zero_le _,rfl,rfl,Uw⟩
 case round=>
  clear Uw
  have hss:=Zh.out
  obtain⟨k,hk,rfl,rfl,HE⟩:=hrel
  by_cases hlt:k<s.size
  ·obtain ⟨c,hc⟩:∃c,s[k]=c:=⟨_,rfl⟩
   have hkl:k<s.data.toList.length:=by rw[HL.out];exact hlt
   have hcl:s.data.toList[k]=c:=hc
   have hok:=Ie (p:=uo) s.data.toList k hkl
   rw[hcl]at hok
   obtain⟨a1,ha1⟩:∃a,a=letter c.toNat:=⟨_,rfl⟩
   obtain⟨a2,ha2⟩:∃a,a=digit c.toNat:=⟨_,rfl⟩
   have NW:Hid (∀w:World,Calls Tryz.prog 215 #[.int .u8 (c.toNat:Int)] w fun e w'=>e=.returned (.bool a1)∧w=w'):=fun w=>by rw[ha1];exact sQ.out c w
   have HD1:Hid (∀w:World,Calls Tryz.prog 216 #[.int .u8 (c.toNat:Int)] w fun e w'=>e=.returned (.bool a2)∧w=w'):=fun w=>by rw[ha2];exact Tv.out c w
   have hwc:uo c=(a1||a2||decide (c=45)||decide (c=46)):=by unfold uo;rw[ha1,ha2]
   rw[hwc]at hok
   clear ha1 ha2 hwc
   cases a1 with
   |true=>
    have HE2:Hid (E=(s.data.toList.drop (k+1)).all uo):=by show _=_;rw[HE.out,hok];rfl
    clear hok hkl hcl
    go_wp2_with fail
    refine(NW.out _).mono ?_
    rintro e w2 ⟨rfl,hw2⟩
    subst hw2
    go_wp2
    go_roundw
    case rel=>exact⟨k+1,by omega,by go_num,by first|rfl|trivial,HE2⟩
    case measure=>simp[intOf];omega
   | false=>
    cases a2 with
    |true=>
     have HE2:Hid (E=(s.data.toList.drop (k+1)).all uo):=by show _=_;rw[HE.out,hok];rfl
     clear hok hkl hcl
     go_wp2_with fail
     refine(NW.out _).mono ?_
     rintro e w2 ⟨rfl,hw2⟩
     subst hw2
     go_wp2_with fail
     refine(HD1.out _).mono ?_
     rintro e w2 ⟨rfl,hw2⟩
     subst hw2
     go_wp2
     go_roundw
     case rel=>exact⟨k+1,by omega,by go_num,by first|rfl|trivial,HE2⟩
     case measure=>simp[intOf];omega
    | false=>
     by_cases h5:c=45
     ·have HE2:Hid (E=(s.data.toList.drop (k+1)).all uo):=by show _=_;rw[HE.out,hok,decide_eq_true h5];rfl
      have q5:((c.toNat:Int) !=45)=false:=by rw[h5];rfl
      clear hok hkl hcl h5
      go_wp2_with fail
      refine(NW.out _).mono ?_
      rintro e w2 ⟨rfl,hw2⟩
      subst hw2
      go_wp2_with fail
      refine(HD1.out _).mono ?_
      rintro e w2 ⟨rfl,hw2⟩
      subst hw2
      go_wp2
      go_roundw
      case rel=>exact⟨k+1,by omega,by go_num,by first|rfl|trivial,HE2⟩
      case measure=>simp[intOf];omega
     ·have q5:((c.toNat:Int) !=45)=true:=by have h:=yO (d:=45) h5;unfold bne;rw[show((c.toNat:Int)==45)=false from h];rfl
      by_cases h6:c=46
      ·have HE2:Hid (E=(s.data.toList.drop (k+1)).all uo):=by show _=_;rw[HE.out,hok,decide_eq_true h6];simp
       have q6:((c.toNat:Int) !=46)=false:=by rw[h6];rfl
       clear hok hkl hcl h5 h6
       go_wp2_with fail
       refine(NW.out _).mono ?_
       rintro e w2 ⟨rfl,hw2⟩
       subst hw2
       go_wp2_with fail
       refine(HD1.out _).mono ?_
       rintro e w2 ⟨rfl,hw2⟩
       subst hw2
       go_wp2
       go_roundw
       case rel=>exact⟨k+1,by omega,by go_num,by first|rfl|trivial,HE2⟩
       case measure=>simp[intOf];omega
      ·have q6:((c.toNat:Int) !=46)=true:=by have h:=yO (d:=46) h6;unfold bne;rw[show((c.toNat:Int)==46)=false from h];rfl
       have HF:Hid (b=false):=by show _=_;rw[WA.out,HE.out,hok,decide_eq_false h5,decide_eq_false h6];rfl
       clear hok hkl hcl h5 h6
       go_wp2_with fail
       refine(NW.out _).mono ?_
       rintro e w2 ⟨rfl,hw2⟩
       subst hw2
       go_wp2_with fail
       refine(HD1.out _).mono ?_
       rintro e w2 ⟨rfl,hw2⟩
       subst hw2
       go_wp2
       go_ret
       exact⟨by rw[HF.out];first|done|rfl,Below.refl _ _⟩
  ·obtain rfl:k=s.size:=by omega
   have HE2:Hid (E=true):=by show _=_;rw[HE.out,List.drop_eq_nil_of_le (by rw[HL.out];exact Nat.le_refl _)];rfl
   cases H with
   |none=>
    have HF:Hid (b=false):=by show _=_;rw[WA.out,HE2.out];rfl
    have HP2:Hid (Calls Tryz.prog 230 #[.string s,.bool true] wr fun e w'=>e=.returned (.tuple #[.string (strOf []),.bool false])∧Below wr.heap.size wr w'):=HPH.out
    clear HPH
    go_wp2_with fail
    refine HP2.out.mono ?_
    rintro e w2 ⟨rfl,hb2⟩
    have HB2:=hid hb2
    clear hb2
    go_wp2
    go_ret
    exact⟨by rw[HF.out];first|done|rfl,HB2.out⟩
   | some L=>
    have HP2:Hid (Calls Tryz.prog 230 #[.string s,.bool true] wr fun e w'=>e=.returned (.tuple #[.string (strOf L),.bool true])∧Below wr.heap.size wr w'):=HPH.out
    clear HPH
    by_cases hL:L=s.data.toList
    ·have q7:((strOf L).toList==s.toList)=true:=by rw[tl,tl,hL];simp[strOf]
     have q7':(strOf L).toList=s.toList:=by rw[tl,tl,hL];rfl
     by_cases h8:s.data.toList=LOC
     ·have q8:(s.toList==[108,111,99,97,108,104,111,115,116])=true:=by rw[tl,h8];rfl
      have q8':s.toList=[108,111,99,97,108,104,111,115,116]:=by rw[tl,h8];rfl
      have HF:Hid (b=false):=by show _=_;rw[WA.out,decide_eq_false (p:=s.data.toList≠LOC) (fun h=>h h8)];simp
      clear hL h8
      go_wp2_with fail
      refine HP2.out.mono ?_
      rintro e w2 ⟨rfl,hb2⟩
      have HB2:=hid hb2
      clear hb2
      go_wp2
      go_ret
      exact⟨by rw[HF.out];first|done|rfl,HB2.out⟩
     ·have q8:(s.toList==[108,111,99,97,108,104,111,115,116])=false:=by rw[tl,beq_eq_false_iff_ne];exact h8
      have q8':¬s.toList=[108,111,99,97,108,104,111,115,116]:=by rw[tl];exact h8
      have HF:Hid (b=true):=by show _=_;rw[WA.out,HE2.out,hL];simp[h8]
      clear hL h8
      go_wp2_with fail
      refine HP2.out.mono ?_
      rintro e w2 ⟨rfl,hb2⟩
      have HB2:=hid hb2
      clear hb2
      go_wp2
      go_ret
      exact⟨by rw[HF.out];first|done|rfl,HB2.out⟩
    ·have q7:((strOf L).toList==s.toList)=false:=by rw[tl,tl,beq_eq_false_iff_ne];exact hL
     have HF:Hid (b=false):=by show _=_;rw[WA.out,decide_eq_false (p:=some L=some s.data.toList) (fun h=>hL (Option.some.inj h))];simp
     clear hL
     go_wp2_with fail
     refine HP2.out.mono ?_
     rintro e w2 ⟨rfl,hb2⟩
     have HB2:=hid hb2
     clear hb2
     go_wp2
     go_ret
     exact⟨by rw[HF.out];first|done|rfl,HB2.out⟩
theorem an3 (s : ByteArray) (w : World) (hs : s.size ≤ 900000) :
  Calls Tryz.prog 207 #[.string s] w fun e w'=>e=.returned (.bool (who s.data.toList))∧Below w.heap.size w w':=by
 have hl:s.data.toList.length=s.size:=Array.length_toList
 obtain⟨b,hb⟩:∃b,b=who s.data.toList:=⟨_,rfl⟩
 rw[←hb]
 obtain⟨E,hE⟩:∃E,E=s.data.toList.all uo:=⟨_,rfl⟩
 obtain⟨H,hH⟩:∃H,H=hst s.data.toList true:=⟨_,rfl⟩
 have WA:Hid (b=(E&&decide (H=some s.data.toList)&&decide (s.data.toList≠LOC))):=by show _=_;rw[hb,hE,hH];rfl
 have HPH:Hid (E=true→Calls Tryz.prog 280 #[.string s,.bool true] w fun e w'=>e=.returned (HV H)∧Below w.heap.size w w'):=by
  show _→_
  intro hE1
  rw[hH]
  refine HstE.amQ s w hs fun h9=>?_
  rw[hE]at hE1
  cases e9:s.data.toList with
  |nil=>rw[e9]at h9;cases h9
  |cons a r=>
   rw[e9]at h9 hE1
   rw[List.head?_cons,Option.some.injEq]at h9
   rw[List.all_cons,h9]at hE1
   exact absurd hE1 (by rw[show uo 91=false from by decide];simp)
 have sQ:Hid (∀(c:UInt8) (w:World),Calls Tryz.prog 123 #[.int .u8 (c.toNat:Int)] w fun e w'=>e=.returned (.bool (letter c.toNat))∧w=w'):=fun c w=>jK.dN _ w
 have Tv:Hid (∀(c:UInt8) (w:World),Calls Tryz.prog 234 #[.int .u8 (c.toNat:Int)] w fun e w'=>e=.returned (.bool (digit c.toNat))∧w=w'):=fun c w=>jK.fE _ w
 have HL:=hid hl
 have Zh:=hid hs
 have Uw:Hid (E=(s.data.toList.drop 0).all uo):=hE
 clear hb hE hH hl hs
 go_enter Tryz.func207,Tryz.ntmps207
 go_wp2
 go_loopw [3,8] (fun _ vk wr=>∃k:Nat,k≤s.size∧vk=.int .i64 (k:Int)∧wr=w∧Hid (E=(s.data.toList.drop k).all uo)) (fun _ vk _=>s.size - (intOf vk).toNat)
 case atStart=>exact⟨0,Nat.zero_le _,rfl,rfl,Uw⟩
 case round=>
  clear Uw
  have hss:=Zh.out
  obtain⟨k,hk,rfl,rfl,HE⟩:=hrel
  by_cases hlt:k<s.size
  ·obtain ⟨c,hc⟩:∃c,s[k]=c:=⟨_,rfl⟩
   have hkl:k<s.data.toList.length:=by rw[HL.out];exact hlt
   have hcl:s.data.toList[k]=c:=hc
   have hok:=Ie (p:=uo) s.data.toList k hkl
   rw[hcl]at hok
   obtain⟨a1,ha1⟩:∃a,a=letter c.toNat:=⟨_,rfl⟩
   obtain⟨a2,ha2⟩:∃a,a=digit c.toNat:=⟨_,rfl⟩
   have NW:Hid (∀w:World,Calls Tryz.prog 123 #[.int .u8 (c.toNat:Int)] w fun e w'=>e=.returned (.bool a1)∧w=w'):=fun w=>by rw[ha1];exact sQ.out c w
   have HD1:Hid (∀w:World,Calls Tryz.prog 234 #[.int .u8 (c.toNat:Int)] w fun e w'=>e=.returned (.bool a2)∧w=w'):=fun w=>by rw[ha2];exact Tv.out c w
   have hwc:uo c=(a1||a2||decide (c=45)||decide (c=46)):=by unfold uo;rw[ha1,ha2]
   rw[hwc]at hok
   clear ha1 ha2 hwc
   cases a1 with
   |true=>
    have HE2:Hid (E=(s.data.toList.drop (k+1)).all uo):=by show _=_;rw[HE.out,hok];rfl
    clear hok hkl hcl
    go_wp2_with fail
    refine(NW.out _).mono ?_
    rintro e w2 ⟨rfl,hw2⟩
    subst hw2
    go_wp2
    go_roundw
    case rel=>exact⟨k+1,by omega,by go_num,by first|rfl|trivial,HE2⟩
    case measure=>simp[intOf];omega
   | false=>
    cases a2 with
    |true=>
     have HE2:Hid (E=(s.data.toList.drop (k+1)).all uo):=by show _=_;rw[HE.out,hok];rfl
     clear hok hkl hcl
     go_wp2_with fail
     refine(NW.out _).mono ?_
     rintro e w2 ⟨rfl,hw2⟩
     subst hw2
     go_wp2_with fail
     refine(HD1.out _).mono ?_
     rintro e w2 ⟨rfl,hw2⟩
     subst hw2
     go_wp2
     go_roundw
     case rel=>exact⟨k+1,by omega,by go_num,by first|rfl|trivial,HE2⟩
     case measure=>simp[intOf];omega
    | false=>
     by_cases h5:c=45
     ·have HE2:Hid (E=(s.data.toList.drop (k+1)).all uo):=by show _=_;rw[HE.out,hok,decide_eq_true h5];rfl
      have q5:((c.toNat:Int) !=45)=false:=by rw[h5];rfl
      clear hok hkl hcl h5
      go_wp2_with fail
      refine(NW.out _).mono ?_
      rintro e w2 ⟨rfl,hw2⟩
      subst hw2
      go_wp2_with fail
      refine(HD1.out _).mono ?_
      rintro e w2 ⟨rfl,hw2⟩
      subst hw2
      go_wp2
      go_roundw
      case rel=>exact⟨k+1,by omega,by go_num,by first|rfl|trivial,HE2⟩
      case measure=>simp[intOf];omega
     ·have q5:((c.toNat:Int) !=45)=true:=by have h:=yO (d:=45) h5;unfold bne;rw[show((c.toNat:Int)==45)=false from h];rfl
      by_cases h6:c=46
      ·have HE2:Hid (E=(s.data.toList.drop (k+1)).all uo):=by show _=_;rw[HE.out,hok,decide_eq_true h6];simp
       have q6:((c.toNat:Int) !=46)=false:=by rw[h6];rfl
       clear hok hkl hcl h5 h6
       go_wp2_with fail
       refine(NW.out _).mono ?_
       rintro e w2 ⟨rfl,hw2⟩
       subst hw2
       go_wp2_with fail
       refine(HD1.out _).mono ?_
       rintro e w2 ⟨rfl,hw2⟩
       subst hw2
       go_wp2
       go_roundw
       case rel=>exact⟨k+1,by omega,by go_num,by first|rfl|trivial,HE2⟩
       case measure=>simp[intOf];omega
      ·have q6:((c.toNat:Int) !=46)=true:=by have h:=yO (d:=46) h6;unfold bne;rw[show((c.toNat:Int)==46)=false from h];rfl
       have HF:Hid (b=false):=by show _=_;rw[WA.out,HE.out,hok,decide_eq_false h5,decide_eq_false h6];rfl
       clear hok hkl hcl h5 h6
       go_wp2_with fail
       refine(NW.out _).mono ?_
       rintro e w2 ⟨rfl,hw2⟩
       subst hw2
       go_wp2_with fail
       refine(HD1.out _).mono ?_
       rintro e w2 ⟨rfl,hw2⟩
       subst hw2
       go_wp2
       go_ret
       exact⟨by rw[HF.out];first|done|rfl,Below.refl _ _⟩
  ·obtain rfl:k=s.size:=by omega
   have HE2:Hid (E=true):=by show _=_;rw[HE.out,List.drop_eq_nil_of_le (by rw[HL.out];exact Nat.le_refl _)];rfl
   cases H with
   |none=>
    have HF:Hid (b=false):=by show _=_;rw[WA.out,HE2.out];rfl
    have HP2:Hid (Calls Tryz.prog 280 #[.string s,.bool true] wr fun e w'=>e=.returned (.tuple #[.string (strOf []),.bool false])∧Below wr.heap.size wr w'):=HPH.out HE2.out
    clear HPH
    go_wp2_with fail
    refine HP2.out.mono ?_
    rintro e w2 ⟨rfl,hb2⟩
    have HB2:=hid hb2
    clear hb2
    go_wp2
    go_ret
    exact⟨by rw[HF.out];first|done|rfl,HB2.out⟩
   | some L=>
    have HP2:Hid (Calls Tryz.prog 280 #[.string s,.bool true] wr fun e w'=>e=.returned (.tuple #[.string (strOf L),.bool true])∧Below wr.heap.size wr w'):=HPH.out HE2.out
    clear HPH
    by_cases hL:L=s.data.toList
    ·have q7:((strOf L).toList==s.toList)=true:=by rw[tl,tl,hL];simp[strOf]
     have q7':(strOf L).toList=s.toList:=by rw[tl,tl,hL];rfl
     by_cases h8:s.data.toList=LOC
     ·have q8:(s.toList==[108,111,99,97,108,104,111,115,116])=true:=by rw[tl,h8];rfl
      have q8':s.toList=[108,111,99,97,108,104,111,115,116]:=by rw[tl,h8];rfl
      have HF:Hid (b=false):=by show _=_;rw[WA.out,decide_eq_false (p:=s.data.toList≠LOC) (fun h=>h h8)];simp
      clear hL h8
      go_wp2_with fail
      refine HP2.out.mono ?_
      rintro e w2 ⟨rfl,hb2⟩
      have HB2:=hid hb2
      clear hb2
      go_wp2
      go_ret
      exact⟨by rw[HF.out];first|done|rfl,HB2.out⟩
     ·have q8:(s.toList==[108,111,99,97,108,104,111,115,116])=false:=by rw[tl,beq_eq_false_iff_ne];exact h8
      have q8':¬s.toList=[108,111,99,97,108,104,111,115,116]:=by rw[tl];exact h8
      have HF:Hid (b=true):=by show _=_;rw[WA.out,HE2.out,hL];simp[h8]
      clear hL h8
      go_wp2_with fail
      refine HP2.out.mono ?_
      rintro e w2 ⟨rfl,hb2⟩
      have HB2:=hid hb2
      clear hb2
      go_wp2
      go_ret
      exact⟨by rw[HF.out];first|done|rfl,HB2.out⟩
    ·have q7:((strOf L).toList==s.toList)=false:=by rw[tl,tl,beq_eq_false_iff_ne];exact hL
     have HF:Hid (b=false):=by show _=_;rw[WA.out,decide_eq_false (p:=some L=some s.data.toList) (fun h=>hL (Option.some.inj h))];simp
     clear hL
     go_wp2_with fail
     refine HP2.out.mono ?_
     rintro e w2 ⟨rfl,hb2⟩
     have HB2:=hid hb2
     clear hb2
     go_wp2
     go_ret
     exact⟨by rw[HF.out];first|done|rfl,HB2.out⟩
end Go.Proofs.YtmpeaoacaecgpaaGreatDoor.WinB
namespace Go.Proofs.YtmpeaoacaecgpaaGreatDoor.WinR
open Go.RowKit Base Base2 oP pO
theorem agR {c:UInt8} (h:c≠47):bs c=c:=by unfold bs;rw[if_neg h]
theorem xk:∀(L:List UInt8) (k:Nat),L.count 47≤k→Lib.replaceK [47] [92] k L=L.map bs
 |[],0,_=>rfl
 |[],k+1,_=>rfl
 |a::l,0,h=>by
  have hb:a≠47:=by rintro rfl;simp at h
  have ih:=xk l 0 (by rw[List.count_cons_of_ne (by simpa using hb)]at h;exact h)
  rw[List.map_cons,←ih,agR hb]
  rfl
 | a :: l, k + 1, h => by
  by_cases hb:a=47
  ·subst hb
   have ih:=xk l k (by simp at h;omega)
   have e:Lib.index (47::l) [47]=0:=by rw[Lib.index,if_pos (by simp[List.isPrefixOf])]
   rw[Lib.replaceK,e,if_neg (by decide),List.map_cons]
   show[]++[92]++_=_
   rw[←ih]
   rfl
  ·have hc:l.count 47≤k+1:=by rw[List.count_cons_of_ne (by simpa using hb)]at h;exact h
   have ih:=xk l (k+1) hc
   have e:Lib.index (a::l) [47]=if Lib.index l [47]== -1 then -1 else Lib.index l [47]+1:=by rw[Lib.index,if_neg (by simp[List.isPrefixOf,Ne.symm hb])]
   rw[Lib.replaceK]at ih⊢
   rw[List.map_cons,agR hb,←ih,e]
   by_cases hm:Lib.index l [47]= -1
   ·rw[hm]
    rfl
   ·have hge:=Lib.index_ge l [47]
    obtain⟨j,hj⟩:∃j:Nat,Lib.index l [47]=j:=⟨(Lib.index l [47]).toNat,by omega⟩
    have h1:((j:Int)== -1)=false:=beq_eq_false_iff_ne.2 (by omega)
    have h2:((j:Int)+1== -1)=false:=beq_eq_false_iff_ne.2 (by omega)
    have h3:((j:Int)+1).toNat=j+1:=by omega
    simp only[hj,h1,Bool.false_eq_true,if_false,h2,h3]
    simp
theorem abn (s:ByteArray) (w:World) (hs:s.size≤1073741824) (hM:Max w):Calls Tryz.prog 210 #[.string s,.string ⟨#[47]⟩,.string ⟨#[92]⟩] w fun e w'=>e=.returned (.string (strOf (s.data.toList.map bs)))∧Below w.heap.size w w':=by
 obtain⟨m,hm⟩:=hM
 have hc:=Lib.countB_le ⟨#[47]⟩ (Nat.le_refl _) s.size s (Nat.le_refl _)
 refine(Tryz.strings_ReplaceAll s ⟨#[47]⟩ ⟨#[92]⟩ m w (by omega) hm (Nat.le_refl _) (by show s.size+Lib.countB s ⟨#[47]⟩*1≤_;omega)).mono ?_
 rintro e w' ⟨rfl,hb⟩
 refine⟨?_,hb⟩
 rw[show(⟨#[47]⟩:ByteArray).data.toList=[47]from rfl,show(⟨#[92]⟩:ByteArray).data.toList=[92]from rfl]
 unfold Lib.replaceAll Lib.replace Lib.replaceNum
 rw[if_neg (by decide),if_pos (.inl (by decide)),xk _ _ (by rw[←Lib.count_one];exact Nat.le_refl _)]
 rfl
end Go.Proofs.YtmpeaoacaecgpaaGreatDoor.WinR
namespace Go.Proofs.YtmpeaoacaecgpaaGreatDoor.Gp
open Go.RowKit Base Base2 sW yu Sls NI oP ag1 WinB WinR Regs
open Go.Proofs.YtmpeaoacaecgpaaGreatDoor.PthP (nrm)
open Go.Proofs.YtmpeaoacaecgpaaGreatDoor.jQ (oI)
open Go.Proofs.YtmpeaoacaecgpaaGreatDoor.pO (Max)
structure Env (w:World):Prop where
 pow:Tab.Pow w
 lad:oI w
 max:Max w
theorem Env.below {w w':World} (h:Env w) (hb:Below w.heap.size w w'):Env w':=⟨Tab.Pow.below h.pow hb,h.lad.below hb,h.max.below hb⟩
def PX (w:World) (g:Nat) (d h:ByteArray) (v:Value):Prop:=w.heap[g]?=some (.cells #[.string d,.string h,v] 127 (0,0))
section
variable {w w':World} {g:Nat} {d h:ByteArray} {v:Value}
theorem PX.lt (x:PX w g d h v):g<w.heap.size:=(Array.getElem?_eq_some_iff.1 x).1
theorem PX.below (x:PX w g d h v) (hb:Below w.heap.size w w'):PX w' g d h v:=(hb.block g x.lt).trans x
theorem PX.row (x:PX w g d h v) (d' h':ByteArray) (v':Value):PX (w.setRow g #[.string d',.string h',v']) g d' h' v':=setRow_heap w g _ _ _ (0,0) x
theorem PX.facts (x:PX w g d h v):w.cell? ⟨g,0,none⟩=some (.string d)∧w.cell? ⟨g,1,none⟩=some (.string h)∧w.cell? ⟨g,2,none⟩=some v:=⟨cell_of_row w g 0 _ _ _ x,cell_of_row w g 1 _ _ _ x,cell_of_row w g 2 _ _ _ x⟩
end
theorem Nk {w:World} {g:Nat} {d h:ByteArray} {v:Value} {fn:Func} {a b:Tmp} (hr:fn.results=#[.cell a 127,.tmp b]) (hU:PX w g d h v) (ok:Bool) (tmps:Array Value) (h2:tmps.getD a undef=.pointer (some ⟨g,0,none⟩)) (h3:tmps.getD b undef=.bool ok):
  (results fn tmps).run Tryz.prog w=.ok (.tuple #[.agg #[.string d,.string h,v],.bool ok]) w:=by
 have hp':tmps[a]?.getD undef=.pointer (some ⟨g,0,none⟩):=by simpa using h2
 have hq':tmps[b]?.getD undef=.bool ok:=by simpa using h3
 have hl:(loadVar 127 ⟨g,0,none⟩).run Tryz.prog w=.ok (.agg #[.string d,.string h,v]) w:=run_loadVar_row w g _ _ #[.string d,.string h,v] (0,0) _ hU Tryz.underlying127 rfl (by kernel_rfl)
 simp[results,hr,hp',hq',asAddr,hl]
theorem Ej {w:World} {g:Nat} {d h:ByteArray} {v:Value} {ops:Array Oper} {rest:List Oper} {o:Oper} {a:Act} {Q:Exit→Act→World→Prop} (hU:PX w g d h v) (d' h':ByteArray) (A:Option Addr) (n c:Nat) (x y:Operand) (ho:o.op=.store 127 x y) (hgd:o.guard=none)
  (hx:a.eval x=.pointer (some ⟨g,0,none⟩)) (hy:a.eval y=.agg #[.string d',.string h',.slice A n c])
  (hh:wpList Tryz.prog ops Q rest (a.put o.dst undef) (w.setRow g #[.string d',.string h',.slice A n c])):wpList Tryz.prog ops Q (o::rest) a w:=
 wpList_store_row hgd 127 x y ho g #[.string d',.string h',.slice A n c] hx hy 127 #[.string d,.string h,v] hU (by kernel_rfl) rfl (by simp[Value.oneCell']) hh
def ajs (w:World) (l:List (List UInt8)) (e:Ending) (w':World):Prop:=∃n c,e=.returned (.slice (some ⟨w.heap.size,0,none⟩) n c)∧l.length=n∧n≤c∧c≤maxLen∧aY w' (some ⟨w.heap.size,0,none⟩) n ((l.map strOf).map Value.string)∧Below w.heap.size w w'
theorem fresh92 (s:ByteArray) (w:World) (hs:s.size≤1073741824) (hM:Max w):Calls Tryz.prog 105 #[.string s,.string ⟨#[92]⟩] w (ajs w (spl 92 s.data.toList)):=by
 obtain⟨m,hm⟩:=hM
 refine(Tryz.strings_Split s ⟨#[92]⟩ m w (by omega) hm (Nat.le_refl _)).mono ?_
 rintro e w' ⟨rfl,rfl⟩
 have hd:=Lib.splitB_data ⟨#[92]⟩ 0 (Lib.countB s ⟨#[92]⟩) s
 rw[show(⟨#[92]⟩:ByteArray).data.toList=[92]from rfl,pO.qJ 92 (spl 92) rfl (RI 92) (JB 92) _ _ (by rw[←Lib.count_one];exact Nat.le_refl _)]at hd
 have hl:=Lib.splitB_all ⟨#[92]⟩ (Nat.le_refl _) 0 _ s rfl
 have hc:=Lib.countB_le ⟨#[92]⟩ (Nat.le_refl _) s.size s (Nat.le_refl _)
 generalize Lib.splitB ⟨#[92]⟩ 0 (Lib.countB s ⟨#[92]⟩) s=B at hd hl⊢
 have hB:B=(spl 92 s.data.toList).map strOf:=by
  rw[←hd,List.map_map]
  conv=>lhs;rw[←List.map_id B]
  exact List.map_congr_left fun x _=>(aG x).symm
 have hlen:(spl 92 s.data.toList).length=B.length:=by rw[hB,List.length_map]
 unfold ajs
 rw[←hB,hlen]
 refine⟨_,_,rfl,hl,Nat.le_refl _,by unfold maxLen;omega,?_,(Below.refl _ _).alloc (Nat.le_refl _) _⟩
 exact aY.jF (by rw[List.length_map,hl]) (by simp) (fun j hj=>by
  rw[Nat.zero_add,World.cell?_alloc_mark]
  simp)
theorem Jp {w:World} {b off n g:Nat} {xs:List Value} (h:aY w (some ⟨b,off,none⟩) n xs) (hg:b≠g) (c:Array Value):aY (w.setRow g c) (some ⟨b,off,none⟩) n xs:=by
 refine⟨h.1,fun j hj=>?_⟩
 obtain⟨b',off',e,hlt,hc⟩:=h.2 j hj
 injection e with e
 injection e with e1 e2
 subst e1 e2
 refine⟨b,off,rfl,Nat.lt_of_lt_of_le hlt (below_setRow (Below.refl g w) (Nat.le_refl _) c).size,?_⟩
 rw[←hc]
 unfold World.cell?
 rw[setRow_other w g b c hg]
structure Qi (w0:World) (g b n:Nat) (xs:List Value) (d h:ByteArray) (v:Value) (k:Nat) (L:Nat→Bool) (w:World):Prop where
 no:L k=false→PX w g ⟨#[]⟩ ⟨#[]⟩ (.slice none 0 0)
 yes:L k=true→PX w g d h v
 bel:Below w0.heap.size w0 w
 le:w0.heap.size≤g
 zB:aY w (some ⟨b,0,none⟩) n xs
 ne:b≠g
theorem qs {w0:World} {g b n:Nat} {xs:List Value} {d h:ByteArray} {v:Value} {k:Nat} {L:Nat→Bool} {w w':World} (i:Nat) (hi:(i==k)=false) (hb:Below w.heap.size w w') (hG:Qi w0 g b n xs d h v k L w):Qi w0 g b n xs d h v k (did L i) w':=by
 rw[beq_eq_false_iff_ne]at hi
 have e:=jM L (Ne.symm hi)
 exact⟨fun x=>(hG.no (e▸x)).below hb,fun x=>(hG.yes (e▸x)).below hb,hG.bel.trans (hb.mono hG.bel.size),hG.le,hG.zB.below hb,hG.ne⟩
theorem qk {w0:World} {g b n:Nat} {xs:List Value} {d h:ByteArray} {A:Option Addr} {m c:Nat} {k:Nat} {L:Nat→Bool} {w:World} (hL:L k=false) (hG:Qi w0 g b n xs d h (.slice A m c) k L w):Qi w0 g b n xs d h (.slice A m c) k (did L k) (w.setRow g #[.string d,.string h,.slice A m c]):=by
 have e:=oU L k
 exact⟨fun x=>by(rw[e]at x;cases x),fun _=>(hG.no hL).row _ _ _,below_setRow hG.bel hG.le _,hG.le,Jp hG.zB hG.ne _,hG.ne⟩
def agF (w:World) (o:Option W3) (e:Ending) (w':World):Prop:=Below w.heap.size w w'∧match o with
 |none=>∃d h A n c,e=.returned (.tuple #[.agg #[.string d,.string h,.slice A n c],.bool false])
 |some (d,h,l)=>∃A c,e=.returned (.tuple #[.agg #[.string (strOf d),.string (strOf h),.slice A l.length c],.bool true])∧l.length≤c∧c≤maxLen∧aY w' A l.length ((l.map strOf).map Value.string)
theorem Ag:∀l:List (List UInt8),near l=(decide (2≤l.length)&&nrm (l.getD 0 [])&&og (l.drop 1))
 |[]=>rfl
 |[a]=>by simp[near]
 |a::b::r=>by simp[near]
theorem KE:∀l:List (List UInt8),far l=(decide (4≤l.length)&&decide (l.getD 0 []=[])&&decide (l.getD 1 []=[])&&who (l.getD 2 [])&&decide (l.getD 3 []≠[])&&og (l.drop 3))
 |[]=>rfl
 |[a]=>rfl
 |[a,b]=>rfl
 |[a,b,c]=>rfl
 |a::b::c::x::r=>by simp[far]
theorem an0 (l:List (List UInt8)) (h1:2≤l.length) (h2:nrm (l.getD 0 [])=true):YK l=if og (l.drop 1)=true then some (l.getD 0 [],[],l.drop 1)else none:=by
 have hn:=Ag l
 rw[decide_eq_true h1,h2]at hn
 have hf:far l=false:=by
  rw[KE]
  have:l.getD 0 []≠[]:=by intro e;rw[e]at h2;exact absurd h2 (by decide)
  rw[decide_eq_false this]
  simp
 unfold YK three
 rw[hf,hn]
 cases og (l.drop 1)<;>rfl
theorem wap_far (l:List (List UInt8)) (h:¬(2≤l.length∧nrm (l.getD 0 [])=true)):YK l=if (4≤l.length∧l.getD 0 []=[]∧l.getD 1 []=[]∧who (l.getD 2 [])=true∧l.getD 3 []≠[]∧og (l.drop 3)=true)then some ([],l.getD 2 [],l.drop 3)else none:=by
 have hn:near l=false:=by
  rw[Ag]
  by_cases h1:2≤l.length
  ·have:nrm (l.getD 0 [])=false:=by
    cases e:nrm (l.getD 0 [])with
    |false=>rfl
    |true=>exact absurd ⟨h1,e⟩ h
   rw[this]
   simp
  rw[decide_eq_false h1];rfl
 have hf:=KE l
 unfold YK three
 rw[hn]
 by_cases c:4≤l.length∧l.getD 0 []=[]∧l.getD 1 []=[]∧who (l.getD 2 [])=true∧l.getD 3 []≠[]∧og (l.drop 3)=true
 ·obtain⟨c1,c2,c3,c4,c5,c6⟩:=c
  rw[decide_eq_true c1,decide_eq_true c2,decide_eq_true c3,c4,decide_eq_true c5,c6]at hf
  rw[if_pos (.inr hf),if_neg (by decide),if_pos ⟨c1,c2,c3,c4,c5,c6⟩]
 rw[if_neg c,if_neg]
 rintro(e|e)
 ·cases e
 rw[hf]at e
 simp only[Bool.and_eq_true,decide_eq_true_eq]at e
 exact c ⟨e.1.1.1.1.1,e.1.1.1.1.2,e.1.1.1.2,e.1.1.2,e.1.2,e.2⟩
theorem at_k {w:World} {g n:Nat} {l:List (List UInt8)} (h:aY w (some ⟨g,0,none⟩) n ((l.map strOf).map Value.string)) (k:Nat) (hk:k<n):w.cell? ⟨g,k,none⟩=some (.string (strOf (l.getD k []))):=by
 have hl:l.length=n:=by rw[←h.1,List.length_map,List.length_map]
 obtain⟨g',off,e,_,hc⟩:=zQ h k hk hl
 injection e with e
 injection e with e1 e2
 subst e1 e2
 rw[Nat.zero_add]at hc
 rw[hc,List.getD_eq_getElem?_getD,List.getElem?_eq_getElem (by omega)]
 rfl
theorem ae7 {w w':World} {O:Option W3} {W:Bool} {d h:List UInt8} {l:List (List UInt8)} {A:Option Addr} {n c:Nat} (hO:O=if W=true then some (d,h,l)else none) (hb:Below w.heap.size w w') (hn:l.length=n) (hc:n≤c) (hm:c≤maxLen) (hR:aY w' A n ((l.map strOf).map Value.string)):agF w O (.returned (.tuple #[.agg #[.string (strOf d),.string (strOf h),.slice A n c],.bool W])) w':=by
 subst hO
 refine⟨hb,?_⟩
 cases W with
 |true=>subst hn;exact⟨A,c,rfl,hc,hm,hR⟩
 |false=>exact⟨_,_,_,_,_,rfl⟩
theorem Ew {w w':World} {O:Option W3} {d h:ByteArray} {A:Option Addr} {n c:Nat} (hO:O=none) (hb:Below w.heap.size w w'):agF w O (.returned (.tuple #[.agg #[.string d,.string h,.slice A n c],.bool false])) w':=by
 subst hO
 exact⟨hb,_,_,_,_,_,rfl⟩
theorem qm (s:ByteArray) (w:World) (hs:s.size≤900000) (hE:Env w):Calls Tryz.prog 108 #[.string s] w (agF w (iM s.data.toList)):=by
 have hl:s.data.toList.length=s.size:=Array.length_toList
 obtain⟨O,hO⟩:∃O,O=iM s.data.toList:=⟨_,rfl⟩
 rw[←hO]
 obtain⟨l,hll⟩:∃l,l=iT s.data.toList:=⟨_,rfl⟩
 have hO2:O=YK l:=by rw[hO,hll];rfl
 have hne:l≠[]:=by rw[hll];exact Ee 92 _
 have hlen:l.length≤900001:=by rw[hll];have:=kD 92 (s.data.toList.map bs);rw[List.length_map,hl]at this;exact Nat.le_trans this (by omega)
 have hz:∀x ∈ l,x.length≤900000:=by
  intro x hx
  rw[hll]at hx
  have:=(AO 92 _ x hx)
  rw[List.length_map,hl]at this
  omega
 obtain⟨R,hR⟩:∃R,R=s.data.toList.map bs:=⟨_,rfl⟩
 have HRE:Hid (∀w:World,Max w→Calls Tryz.prog 210 #[.string s,.string ⟨#[47]⟩,.string ⟨#[92]⟩] w fun e w'=>e=.returned (.string (strOf R))∧Below w.heap.size w w'):=fun w h=>by rw[hR];exact abn s w (by omega) h
 have wC:Hid (∀w:World,Max w→Calls Tryz.prog 105 #[.string (strOf R),.string ⟨#[92]⟩] w (ajs w l)):=fun w h=>by
  have e:l=spl 92 (strOf R).data.toList:=by rw[hll,hR];rfl
  rw[e]
  exact fresh92 (strOf R) w (by rw[size_strOf,hR,List.length_map];omega) h
 have hon:=fun h1 h2=>an0 l h1 h2
 have hof:=fun h=>wap_far l h
 rw[←hO2]at hon hof
 have hz1:∀x ∈ l.drop 1,x.length≤900000:=fun x hx=>hz x (List.mem_of_mem_drop hx)
 have hz3:∀x ∈ l.drop 3,x.length≤900000:=fun x hx=>hz x (List.mem_of_mem_drop hx)
 have hz2:(l.getD 2 []).length≤900000:=by
  rw[List.getD_eq_getElem?_getD]
  cases e:l[2]? with
  |none=>exact Nat.zero_le _
  |some y=>exact hz y (List.mem_of_getElem? e)
 obtain⟨a,ha⟩:∃a,a=l.getD 0 []:=⟨_,rfl⟩
 obtain⟨b,hb⟩:∃b,b=l.getD 1 []:=⟨_,rfl⟩
 obtain⟨h,hh⟩:∃h,h=l.getD 2 []:=⟨_,rfl⟩
 obtain⟨x,hx⟩:∃x,x=l.getD 3 []:=⟨_,rfl⟩
 obtain⟨L1,hL1⟩:∃L,L=l.drop 1:=⟨_,rfl⟩
 obtain⟨L3,hL3⟩:∃L,L=l.drop 3:=⟨_,rfl⟩
 rw[←ha,←hL1]at hon
 rw[←ha,←hb,←hh,←hx,←hL3]at hof
 rw[←hL1]at hz1
 rw[←hL3]at hz3
 rw[←hh]at hz2
 obtain⟨nr,hnr⟩:∃nr,nr=nrm a:=⟨_,rfl⟩
 obtain⟨W1,hW1⟩:∃W,W=og L1:=⟨_,rfl⟩
 obtain⟨W3,hW3⟩:∃W,W=og L3:=⟨_,rfl⟩
 obtain⟨wh,hwh⟩:∃W,W=who h:=⟨_,rfl⟩
 rw[←hnr,←hW1]at hon
 rw[←hnr,←hW3,←hwh]at hof
 have YO:Hid (∀w:World,Calls Tryz.prog 211 #[.string (strOf a)] w fun e w'=>e=.returned (.bool nr)∧w=w'):=fun w=>by rw[hnr];exact Kr.Ah (strOf a) w
 have HWH:Hid (∀w:World,Env w→Calls Tryz.prog 213 #[.string (strOf h)] w fun e w'=>e=.returned (.bool wh)∧Below w.heap.size w w'):=fun w E=>by rw[hwh];exact alZ (strOf h) w (by rw[size_strOf];exact hz2) E.lad E.pow E.max
 have HF1:Hid (∀(A:Option Addr) (n cap:Nat) (w:World),aY w A n ((L1.map strOf).map Value.string)→n≤1073741824→Calls Tryz.prog 212 #[.slice A n cap] w fun e w'=>e=.returned (.bool W1)∧Below w.heap.size w w'):=fun A n cap w hR hn=>by rw[hW1];exact MG A n cap L1 w hR hn hz1
 have HF3:Hid (∀(A:Option Addr) (n cap:Nat) (w:World),aY w A n ((L3.map strOf).map Value.string)→n≤1073741824→Calls Tryz.prog 212 #[.slice A n cap] w fun e w'=>e=.returned (.bool W3)∧Below w.heap.size w w'):=fun A n cap w hR hn=>by rw[hW3];exact MG A n cap L3 w hR hn hz3
 obtain⟨n,hn⟩:∃n,l.length=n:=⟨_,rfl⟩
 rw[hn]at hon hof hlen
 have hn0:0<n:=by rw[←hn];exact List.length_pos_iff.2 hne
 have HC:Hid (∀(w:World) (g m:Nat),aY w (some ⟨g,0,none⟩) m ((l.map strOf).map Value.string)→m=n→w.cell? ⟨g,0,none⟩=some (.string (strOf a))∧(1<n→w.cell? ⟨g,1,none⟩=some (.string (strOf b)))∧(2<n→w.cell? ⟨g,2,none⟩=some (.string (strOf h)))∧(3<n→w.cell? ⟨g,3,none⟩=some (.string (strOf x)))):=fun w g m hR e=>by
  subst e
  exact⟨by rw[ha];exact at_k hR 0 hn0,fun k=>by rw[hb];exact at_k hR 1 k,fun k=>by rw[hh];exact at_k hR 2 k,fun k=>by rw[hx];exact at_k hR 3 k⟩
 have HD1:Hid (∀(w:World) (g:Nat),aY w (some ⟨g,0,none⟩) n ((l.map strOf).map Value.string)→aY w (some ⟨g,1,none⟩) (n - 1) ((L1.map strOf).map Value.string)):=fun w g hR=>by
  have:=hR.cut 1 (by omega)
  rw[hL1,List.map_drop,List.map_drop]
  exact this
 have HD3:Hid (3≤n→∀(w:World) (g:Nat),aY w (some ⟨g,0,none⟩) n ((l.map strOf).map Value.string)→aY w (some ⟨g,3,none⟩) (n - 3) ((L3.map strOf).map Value.string)):=fun hk w g hR=>by
  have:=hR.cut 3 hk
  rw[hL3,List.map_drop,List.map_drop]
  exact this
 have HON:=hid hon
 have HOF:=hid hof
 have HE:=hid hE
 have HN:=hid hn
 have pY:=hid hlen
 have HLL1:Hid (L1.length=n - 1):=by show _=_;rw[hL1,List.length_drop,hn]
 have HLL3:Hid (L3.length=n - 3):=by show _=_;rw[hL3,List.length_drop,hn]
 clear hl hO hll hO2 hne hlen hz hR hE hs hon hof hz1 hz2 hz3 ha hb hh hx hL1 hL3 hnr hW1 hW3 hwh hn
 go_enter Tryz.func108,Tryz.ntmps108
 go_upto_region 1 with(fail)
 generalize bI:World.alloc w _=v1
 have hxa:PX v1 w.heap.size ⟨#[]⟩ ⟨#[]⟩ (.slice none 0 0):=by rw[←bI];exact heap_alloc_new _ _
 have hb:Below w.heap.size w v1:=by rw[←bI];exact(Below.refl _ _).alloc (Nat.le_refl _) _
 have kP:=hid hxa
 have HB1:=hid hb
 have E1:=hid (HE.out.below hb)
 clear bI hxa hb
 go_wp2_with fail
 refine(HRE.out _ E1.out.max).mono ?_
 rintro e w2 ⟨rfl,hb⟩
 have HB2:=hid (bel HB1.out hb)
 have gY:=hid (kP.out.below hb)
 have E2:=hid (E1.out.below hb)
 clear hb
 go_wp2_with fail
 refine(wC.out _ E2.out.max).mono ?_
 rintro e w3 ⟨n3,c3,rfl,hn3,hnc,hcm,hR,hb⟩
 have HB3:=hid (bel HB2.out hb)
 have jI:=hid (gY.out.below hb)
 have E3:=hid (E2.out.below hb)
 obtain rfl:n3=n:=by rw[←hn3];exact HN.out
 have HR3:=hid hR
 have HNB:Hid (w2.heap.size≠w.heap.size):=by show _≠_;have:=gY.out.lt;omega
 have Tf:Hid (w.heap.size≤w2.heap.size):=HB2.out.size
 have HC3:=hid (HC.out w3 _ _ hR rfl)
 clear hb hR hn3
 obtain⟨hc0,hc1,hc2,hc3⟩:=HC3.out
 have hl9:=pY.out
 unfold maxLen at hcm
 by_cases h2:2≤n3
 ·have hnI:(1:Int)<(n3:Int):=by omega
  replace hc1:=hc1 (by omega)
  cases nr with
  |true=>
   go_wp2_with fail
   refine(YO.out _).mono ?_
   rintro e w4 ⟨rfl,hw4⟩
   subst hw4
   go_upto_region 4 with(fail)
   refine bC (by kernel_rfl) 7 [is (.slice (some ⟨w2.heap.size,0,none⟩) n3 c3),is (.pointer (some ⟨w2.heap.size,0,none⟩)),is (.string (strOf a)),is (.slice (some ⟨w2.heap.size,1,none⟩) (n3 - 1) (c3 - 1)),is (.agg #[.string (strOf a),.string ⟨#[]⟩,.slice (some ⟨w2.heap.size,1,none⟩) (n3 - 1) (c3 - 1)]),is (.slice (some ⟨w2.heap.size,1,none⟩) (n3 - 1) (c3 - 1)),is (.bool W1)] [[],[0],[0,1],[],[0,1,2,3],[],[5],[0,1,2,3,4,5,6]] (by kernel_rfl) ?_ ?_
   ·refine⟨?_,?_,?_,?_,?_,?_,?_,trivial⟩
    all_goals(intro t wq hbq hh K hK;simp only[filled,aj,upd,Have,is,any,row,pick,Act.put,List.setIfInBounds_toArray,List.set_cons_zero,List.set_cons_succ,Nat.reduceAdd,Nat.reduceEqDiff,reduceIte,List.tail_cons,List.headD_cons]at hh hK⊢;(try simp only[hh]at hK⊢);try clear hh)
    iterate 2 · go_simp;exact hK _ _ (Below.refl _ _) rfl
    ·obtain⟨hd0,hd1,hd2,hd3⟩:=HC.out wq _ _ (HR3.out.below hbq) rfl;go_simp;exact hK _ _ (Below.refl _ _) rfl
    iterate 3 · go_simp;exact hK _ _ (Below.refl _ _) rfl
    go_simp;refine(HF1.out _ _ _ _ (HD1.out _ _ (HR3.out.below hbq)) (by omega)).mono ?_;rintro e w9 ⟨rfl,mG⟩;exact hK _ _ mG rfl
   intro t wq hbq hh
   have f4:=aB hh 4 (by decide)
   simp only[pick]at f4
   replace f4:t 4=(.agg #[.string (strOf a),.string ⟨#[]⟩,.slice (some ⟨w2.heap.size,1,none⟩) (n3 - 1) (c3 - 1)]):=f4
   have f6:=aB hh 6 (by decide)
   simp only[pick]at f6
   replace f6:t 6=(.bool W1):=f6
   clear hh
   simp only[filled,aj,upd,Have,is,any,row,pick,Act.put,List.setIfInBounds_toArray,List.set_cons_zero,List.set_cons_succ,Nat.reduceAdd,Nat.reduceEqDiff,reduceIte]
   simp only[f4,f6]
   have Et:=hid (bel HB3.out hbq)
   have HXq:=hid (jI.out.below hbq)
   have HRq:=hid (HR3.out.below hbq)
   clear hbq
   refine Ej HXq.out (strOf a) ⟨#[]⟩ _ _ _ (.tmp 2) (.tmp 26) rfl rfl rfl rfl ?_
   go_wp2
   try simp only[Exit.inBlock,Exit.then]
   exact bodyPost_ret (w:=World.setRow wq w.heap.size #[.string (strOf a),.string ⟨#[]⟩,.slice (some ⟨w2.heap.size,1,none⟩) (n3 - 1) (c3 - 1)]) (Nk rfl (HXq.out.row _ _ _) W1 _ rfl rfl) rfl (ae7 (h:=[]) (HON.out h2 (by trivial)) (below_setRow Et.out (Nat.le_refl _) _) HLL1.out (by omega) (by unfold maxLen;omega) (HD1.out _ _ (Jp HRq.out HNB.out _)))
  | false =>
   by_cases h4:4≤n3
   ·have h4I:(3:Int)<(n3:Int):=by omega
    replace hc2:=hc2 (by omega)
    replace hc3:=hc3 (by omega)
    have h0J:(0:Int)<(n3:Int):=by omega
    have h2J:(2:Int)<(n3:Int):=by omega
    have h3J:0<n3 - 3:=by omega
    by_cases ha:a=[]
    ·have q0 : (strOf a).toList = [] := by rw [tl]; exact ha
     have q0':((strOf a).toList==[])=true:=by rw[q0];rfl
     by_cases hb:b=[]
     ·have q1:(strOf b).toList=[]:=by rw[tl];exact hb
      have q1':((strOf b).toList==[])=true:=by rw[q1];rfl
      cases wh with
      |false=>
       have CG:Hid (O=none):=by show _=_;rw[HOF.out (by rintro⟨_,e⟩;cases e),if_neg];rintro⟨_,_,_,e,_⟩;cases e
       clear ha hb
       go_wp2_with fail
       refine(YO.out _).mono ?_
       rintro e w4 ⟨rfl,hw4⟩
       subst hw4
       go_upto_region 7 with(fail)
       refine jc (by kernel_rfl) (fun L _ wq=>Qi w w.heap.size w2.heap.size n3 ((l.map strOf).map Value.string) ⟨#[]⟩ (strOf h) (.slice (some ⟨w2.heap.size,3,none⟩) (n3 - 3) (c3 - 3)) 19 L wq) [is (.slice (some ⟨w2.heap.size,0,none⟩) n3 c3),is (.pointer (some ⟨w2.heap.size,2,none⟩)),is (.string (strOf h)),is (.slice (some ⟨w2.heap.size,3,none⟩) (n3 - 3) (c3 - 3)),is (.agg #[.string ⟨#[]⟩,.string (strOf h),.slice (some ⟨w2.heap.size,3,none⟩) (n3 - 3) (c3 - 3)]),is (.slice (some ⟨w2.heap.size,0,none⟩) n3 c3),is (.pointer (some ⟨w2.heap.size,2,none⟩)),is (.string (strOf h)),is (.bool false),is (.bool false),any,any,any,any,is (.bool false),is (.bool false),any,any,is (.bool false),any,is (.bool false)] [[],[0],[1],[],[2,3],[],[5],[6],[7],[8],[9],[9,10],[9,11],[9,12],[9,13],[14],[15],[15,16],[15,17],[4,17],[18]] (by kernel_rfl) (by repeat (first|exact rP|refine wO _ ?_|refine nD ?_)) ?_ ?_ ?_
       ·exact fun t=>⟨fun _=>jI.out,fun e=>(by cases e),HB3.out.drew,Nat.le_refl _,HR3.out,HNB.out⟩
       ·refine⟨?_,?_,?_,?_,?_,?_,?_,?_,?_,?_,?_,?_,?_,?_,?_,?_,?_,?_,?_,?_,?_,trivial⟩
        all_goals(intro L t wq hG hL hC hN hh K hK;simp only[filled,upd,Have,is,any,row,pick,Act.put,List.setIfInBounds_toArray,List.set_cons_zero,List.set_cons_succ,Nat.reduceAdd,Nat.reduceEqDiff,reduceIte,List.tail_cons,List.headD_cons]at hh hK⊢;(try simp only[hh]at hK⊢);try clear hh)
        ·go_simp;exact hK _ _ rfl (qs 0 (by decide) (Below.refl _ _) hG)
        ·go_simp;exact hK _ _ rfl (qs 1 (by decide) (Below.refl _ _) hG)
        ·obtain⟨hd0,hd1,hd2,hd3⟩:=HC.out wq _ _ hG.zB rfl;replace hd1:=hd1 (by omega);replace hd2:=hd2 (by omega);replace hd3:=hd3 (by omega);go_simp;exact hK _ _ rfl (qs 2 (by decide) (Below.refl _ _) hG)
        ·go_simp;exact hK _ _ rfl (qs 3 (by decide) (Below.refl _ _) hG)
        ·go_simp;exact hK _ _ rfl (qs 4 (by decide) (Below.refl _ _) hG)
        ·go_simp;exact hK _ _ rfl (qs 5 (by decide) (Below.refl _ _) hG)
        ·go_simp;exact hK _ _ rfl (qs 6 (by decide) (Below.refl _ _) hG)
        ·obtain⟨hd0,hd1,hd2,hd3⟩:=HC.out wq _ _ hG.zB rfl;replace hd1:=hd1 (by omega);replace hd2:=hd2 (by omega);replace hd3:=hd3 (by omega);go_simp;exact hK _ _ rfl (qs 7 (by decide) (Below.refl _ _) hG)
        ·go_simp;refine(HWH.out _ (HE.out.below hG.bel)).mono ?_;rintro e w9 ⟨rfl,mG⟩;exact hK _ _ rfl (qs 8 (by decide) mG hG)
        ·go_simp;exact hK _ _ rfl (qs 9 (by decide) (Below.refl _ _) hG)
        ·go_simp;first|exact hK _ _ trivial (qs 10 (by decide) (Below.refl _ _) hG)|exact hK _ _ rfl (qs 10 (by decide) (Below.refl _ _) hG)
        ·go_simp;first|exact hK _ _ trivial (qs 11 (by decide) (Below.refl _ _) hG)|exact hK _ _ rfl (qs 11 (by decide) (Below.refl _ _) hG)
        ·go_simp;first|exact hK _ _ trivial (qs 12 (by decide) (Below.refl _ _) hG)|exact hK _ _ rfl (qs 12 (by decide) (Below.refl _ _) hG)
        ·go_simp;first|exact hK _ _ trivial (qs 13 (by decide) (Below.refl _ _) hG)|exact hK _ _ rfl (qs 13 (by decide) (Below.refl _ _) hG)
        ·go_simp;exact hK _ _ rfl (qs 14 (by decide) (Below.refl _ _) hG)
        ·go_simp;exact hK _ _ rfl (qs 15 (by decide) (Below.refl _ _) hG)
        ·go_simp;first|exact hK _ _ trivial (qs 16 (by decide) (Below.refl _ _) hG)|exact hK _ _ rfl (qs 16 (by decide) (Below.refl _ _) hG)
        ·go_simp;first|exact hK _ _ trivial (qs 17 (by decide) (Below.refl _ _) hG)|exact hK _ _ rfl (qs 17 (by decide) (Below.refl _ _) hG)
        ·go_simp;exact hK _ _ rfl (qs 18 (by decide) (Below.refl _ _) hG)
        ·refine wp_store_row 127 (.tmp 2) (.tmp 51) rfl w.heap.size #[.string ⟨#[]⟩,.string (strOf h),.slice (some ⟨w2.heap.size,3,none⟩) (n3 - 3) (c3 - 3)] rfl rfl 127 _ (hG.no hL) (by kernel_rfl) rfl (by simp[Value.oneCell']) ?_;exact hK undef _ trivial (qk hL hG)
        go_simp;exact hK _ _ rfl (qs 20 (by decide) (Below.refl _ _) hG)
       intro Lz t wq hG hall hh
       have f20:=aB hh 20 (by decide)
       simp only[pick]at f20
       replace f20:t 20=(.bool false):=f20
       clear hh
       simp only[filled,upd,Have,is,any,row,pick,Act.put,List.setIfInBounds_toArray,List.set_cons_zero,List.set_cons_succ,Nat.reduceAdd,Nat.reduceEqDiff,reduceIte]
       simp only[f20]
       have HXq:=hid (hG.yes (hall 19 (by decide)))
       have Et:=hid hG.bel
       have HRq:=hid hG.zB
       clear hG hall
       go_wp2
       try simp only[Exit.inBlock,Exit.then]
       exact bodyPost_ret (w:=wq) (Nk rfl HXq.out false _ rfl rfl) rfl (Ew CG.out Et.out)
      | true=>
       by_cases hx:x=[]
       ·have q3:(strOf x).toList=[]:=by rw[tl];exact hx
        have q3':((strOf x).toList==[])=true:=by rw[q3];rfl
        have CG:Hid (O=none):=by show _=_;rw[HOF.out (by rintro⟨_,e⟩;cases e),if_neg];rintro⟨_,_,_,_,e,_⟩;exact e hx
        clear ha hb hx
        go_wp2_with fail
        refine(YO.out _).mono ?_
        rintro e w4 ⟨rfl,hw4⟩
        subst hw4
        go_upto_region 7 with(fail)
        refine jc (by kernel_rfl) (fun L _ wq=>Qi w w.heap.size w2.heap.size n3 ((l.map strOf).map Value.string) ⟨#[]⟩ (strOf h) (.slice (some ⟨w2.heap.size,3,none⟩) (n3 - 3) (c3 - 3)) 19 L wq) [is (.slice (some ⟨w2.heap.size,0,none⟩) n3 c3),is (.pointer (some ⟨w2.heap.size,2,none⟩)),is (.string (strOf h)),is (.slice (some ⟨w2.heap.size,3,none⟩) (n3 - 3) (c3 - 3)),is (.agg #[.string ⟨#[]⟩,.string (strOf h),.slice (some ⟨w2.heap.size,3,none⟩) (n3 - 3) (c3 - 3)]),is (.slice (some ⟨w2.heap.size,0,none⟩) n3 c3),is (.pointer (some ⟨w2.heap.size,2,none⟩)),is (.string (strOf h)),is (.bool true),is (.bool true),is (.slice (some ⟨w2.heap.size,3,none⟩) (n3 - 3) (c3 - 3)),is (.pointer (some ⟨w2.heap.size,3,none⟩)),is (.string (strOf x)),is (.bool false),is (.bool false),is (.bool false),any,any,is (.bool false),any,is (.bool false)] [[],[0],[1],[],[2,3],[],[5],[6],[7],[8],[9],[9,10],[9,11],[9,12],[9,13],[14],[15],[15,16],[15,17],[4,17],[18]] (by kernel_rfl) (by repeat (first|exact rP|refine wO _ ?_|refine nD ?_)) ?_ ?_ ?_
        ·exact fun t=>⟨fun _=>jI.out,fun e=>(by cases e),HB3.out.drew,Nat.le_refl _,HR3.out,HNB.out⟩
        ·refine⟨?_,?_,?_,?_,?_,?_,?_,?_,?_,?_,?_,?_,?_,?_,?_,?_,?_,?_,?_,?_,?_,trivial⟩
         all_goals(intro L t wq hG hL hC hN hh K hK;simp only[filled,upd,Have,is,any,row,pick,Act.put,List.setIfInBounds_toArray,List.set_cons_zero,List.set_cons_succ,Nat.reduceAdd,Nat.reduceEqDiff,reduceIte,List.tail_cons,List.headD_cons]at hh hK⊢;(try simp only[hh]at hK⊢);try clear hh)
         ·go_simp;exact hK _ _ rfl (qs 0 (by decide) (Below.refl _ _) hG)
         ·go_simp;exact hK _ _ rfl (qs 1 (by decide) (Below.refl _ _) hG)
         ·obtain⟨hd0,hd1,hd2,hd3⟩:=HC.out wq _ _ hG.zB rfl;replace hd1:=hd1 (by omega);replace hd2:=hd2 (by omega);replace hd3:=hd3 (by omega);go_simp;exact hK _ _ rfl (qs 2 (by decide) (Below.refl _ _) hG)
         ·go_simp;exact hK _ _ rfl (qs 3 (by decide) (Below.refl _ _) hG)
         ·go_simp;exact hK _ _ rfl (qs 4 (by decide) (Below.refl _ _) hG)
         ·go_simp;exact hK _ _ rfl (qs 5 (by decide) (Below.refl _ _) hG)
         ·go_simp;exact hK _ _ rfl (qs 6 (by decide) (Below.refl _ _) hG)
         ·obtain⟨hd0,hd1,hd2,hd3⟩:=HC.out wq _ _ hG.zB rfl;replace hd1:=hd1 (by omega);replace hd2:=hd2 (by omega);replace hd3:=hd3 (by omega);go_simp;exact hK _ _ rfl (qs 7 (by decide) (Below.refl _ _) hG)
         ·go_simp;refine(HWH.out _ (HE.out.below hG.bel)).mono ?_;rintro e w9 ⟨rfl,mG⟩;exact hK _ _ rfl (qs 8 (by decide) mG hG)
         ·go_simp;exact hK _ _ rfl (qs 9 (by decide) (Below.refl _ _) hG)
         ·go_simp;exact hK _ _ rfl (qs 10 (by decide) (Below.refl _ _) hG)
         ·go_simp;exact hK _ _ rfl (qs 11 (by decide) (Below.refl _ _) hG)
         ·obtain⟨hd0,hd1,hd2,hd3⟩:=HC.out wq _ _ hG.zB rfl;replace hd1:=hd1 (by omega);replace hd2:=hd2 (by omega);replace hd3:=hd3 (by omega);go_simp;exact hK _ _ rfl (qs 12 (by decide) (Below.refl _ _) hG)
         ·go_simp;exact hK _ _ rfl (qs 13 (by decide) (Below.refl _ _) hG)
         ·go_simp;exact hK _ _ rfl (qs 14 (by decide) (Below.refl _ _) hG)
         ·go_simp;exact hK _ _ rfl (qs 15 (by decide) (Below.refl _ _) hG)
         ·go_simp;first|exact hK _ _ trivial (qs 16 (by decide) (Below.refl _ _) hG)|exact hK _ _ rfl (qs 16 (by decide) (Below.refl _ _) hG)
         ·go_simp;first|exact hK _ _ trivial (qs 17 (by decide) (Below.refl _ _) hG)|exact hK _ _ rfl (qs 17 (by decide) (Below.refl _ _) hG)
         ·go_simp;exact hK _ _ rfl (qs 18 (by decide) (Below.refl _ _) hG)
         ·refine wp_store_row 127 (.tmp 2) (.tmp 51) rfl w.heap.size #[.string ⟨#[]⟩,.string (strOf h),.slice (some ⟨w2.heap.size,3,none⟩) (n3 - 3) (c3 - 3)] rfl rfl 127 _ (hG.no hL) (by kernel_rfl) rfl (by simp[Value.oneCell']) ?_;exact hK undef _ trivial (qk hL hG)
         go_simp;exact hK _ _ rfl (qs 20 (by decide) (Below.refl _ _) hG)
        intro Lz t wq hG hall hh
        have f20:=aB hh 20 (by decide)
        simp only[pick]at f20
        replace f20:t 20=(.bool false):=f20
        clear hh
        simp only[filled,upd,Have,is,any,row,pick,Act.put,List.setIfInBounds_toArray,List.set_cons_zero,List.set_cons_succ,Nat.reduceAdd,Nat.reduceEqDiff,reduceIte]
        simp only[f20]
        have HXq:=hid (hG.yes (hall 19 (by decide)))
        have Et:=hid hG.bel
        have HRq:=hid hG.zB
        clear hG hall
        go_wp2
        try simp only[Exit.inBlock,Exit.then]
        exact bodyPost_ret (w:=wq) (Nk rfl HXq.out false _ rfl rfl) rfl (Ew CG.out Et.out)
       have q3:((strOf x).toList==[])=false:=by rw[tl,beq_eq_false_iff_ne];exact hx
       have q3':(strOf x).toList.isEmpty=false:=by rw[tl];simpa[strOf]using hx
       have q3'':¬(strOf x).toList=[]:=by rw[tl];exact hx
       have CG:Hid (O=if W3=true then some ([],h,L3)else none):=by
        show _=_
        rw[HOF.out (by rintro⟨_,e⟩;cases e)]
        cases W3 with
        |true=>rw[if_pos ⟨h4,ha,hb,rfl,hx,rfl⟩,if_pos rfl]
        |false=>rw[if_neg (by rintro⟨_,_,_,_,_,e⟩;cases e),if_neg (by decide)]
       clear ha hb hx
       go_wp2_with fail
       refine(YO.out _).mono ?_
       rintro e w4 ⟨rfl,hw4⟩
       subst hw4
       go_upto_region 7 with(fail)
       refine jc (by kernel_rfl) (fun L _ wq=>Qi w w.heap.size w2.heap.size n3 ((l.map strOf).map Value.string) ⟨#[]⟩ (strOf h) (.slice (some ⟨w2.heap.size,3,none⟩) (n3 - 3) (c3 - 3)) 19 L wq) [is (.slice (some ⟨w2.heap.size,0,none⟩) n3 c3),is (.pointer (some ⟨w2.heap.size,2,none⟩)),is (.string (strOf h)),is (.slice (some ⟨w2.heap.size,3,none⟩) (n3 - 3) (c3 - 3)),is (.agg #[.string ⟨#[]⟩,.string (strOf h),.slice (some ⟨w2.heap.size,3,none⟩) (n3 - 3) (c3 - 3)]),is (.slice (some ⟨w2.heap.size,0,none⟩) n3 c3),is (.pointer (some ⟨w2.heap.size,2,none⟩)),is (.string (strOf h)),is (.bool true),is (.bool true),is (.slice (some ⟨w2.heap.size,3,none⟩) (n3 - 3) (c3 - 3)),is (.pointer (some ⟨w2.heap.size,3,none⟩)),is (.string (strOf x)),is (.bool true),is (.bool true),is (.bool true),is (.slice (some ⟨w2.heap.size,3,none⟩) (n3 - 3) (c3 - 3)),is (.bool W3),is (.bool W3),any,is (.bool W3)] [[],[0],[1],[],[2,3],[],[5],[6],[7],[8],[9],[9,10],[9,11],[9,12],[9,13],[14],[15],[15,16],[15,17],[4,17],[18]] (by kernel_rfl) (by repeat (first|exact rP|refine wO _ ?_|refine nD ?_)) ?_ ?_ ?_
       ·exact fun t=>⟨fun _=>jI.out,fun e=>(by cases e),HB3.out.drew,Nat.le_refl _,HR3.out,HNB.out⟩
       ·refine⟨?_,?_,?_,?_,?_,?_,?_,?_,?_,?_,?_,?_,?_,?_,?_,?_,?_,?_,?_,?_,?_,trivial⟩
        all_goals(intro L t wq hG hL hC hN hh K hK;simp only[filled,upd,Have,is,any,row,pick,Act.put,List.setIfInBounds_toArray,List.set_cons_zero,List.set_cons_succ,Nat.reduceAdd,Nat.reduceEqDiff,reduceIte,List.tail_cons,List.headD_cons]at hh hK⊢;(try simp only[hh]at hK⊢);try clear hh)
        ·go_simp;exact hK _ _ rfl (qs 0 (by decide) (Below.refl _ _) hG)
        ·go_simp;exact hK _ _ rfl (qs 1 (by decide) (Below.refl _ _) hG)
        ·obtain⟨hd0,hd1,hd2,hd3⟩:=HC.out wq _ _ hG.zB rfl;replace hd1:=hd1 (by omega);replace hd2:=hd2 (by omega);replace hd3:=hd3 (by omega);go_simp;exact hK _ _ rfl (qs 2 (by decide) (Below.refl _ _) hG)
        ·go_simp;exact hK _ _ rfl (qs 3 (by decide) (Below.refl _ _) hG)
        ·go_simp;exact hK _ _ rfl (qs 4 (by decide) (Below.refl _ _) hG)
        ·go_simp;exact hK _ _ rfl (qs 5 (by decide) (Below.refl _ _) hG)
        ·go_simp;exact hK _ _ rfl (qs 6 (by decide) (Below.refl _ _) hG)
        ·obtain⟨hd0,hd1,hd2,hd3⟩:=HC.out wq _ _ hG.zB rfl;replace hd1:=hd1 (by omega);replace hd2:=hd2 (by omega);replace hd3:=hd3 (by omega);go_simp;exact hK _ _ rfl (qs 7 (by decide) (Below.refl _ _) hG)
        ·go_simp;refine(HWH.out _ (HE.out.below hG.bel)).mono ?_;rintro e w9 ⟨rfl,mG⟩;exact hK _ _ rfl (qs 8 (by decide) mG hG)
        ·go_simp;exact hK _ _ rfl (qs 9 (by decide) (Below.refl _ _) hG)
        ·go_simp;exact hK _ _ rfl (qs 10 (by decide) (Below.refl _ _) hG)
        ·go_simp;exact hK _ _ rfl (qs 11 (by decide) (Below.refl _ _) hG)
        ·obtain⟨hd0,hd1,hd2,hd3⟩:=HC.out wq _ _ hG.zB rfl;replace hd1:=hd1 (by omega);replace hd2:=hd2 (by omega);replace hd3:=hd3 (by omega);go_simp;exact hK _ _ rfl (qs 12 (by decide) (Below.refl _ _) hG)
        ·go_simp;exact hK _ _ rfl (qs 13 (by decide) (Below.refl _ _) hG)
        ·go_simp;exact hK _ _ rfl (qs 14 (by decide) (Below.refl _ _) hG)
        ·go_simp;exact hK _ _ rfl (qs 15 (by decide) (Below.refl _ _) hG)
        ·go_simp;exact hK _ _ rfl (qs 16 (by decide) (Below.refl _ _) hG)
        ·go_simp;refine(HF3.out _ _ _ _ (HD3.out (by omega) _ _ hG.zB) (by omega)).mono ?_;rintro e w9 ⟨rfl,mG⟩;exact hK _ _ rfl (qs 17 (by decide) mG hG)
        ·go_simp;exact hK _ _ rfl (qs 18 (by decide) (Below.refl _ _) hG)
        ·refine wp_store_row 127 (.tmp 2) (.tmp 51) rfl w.heap.size #[.string ⟨#[]⟩,.string (strOf h),.slice (some ⟨w2.heap.size,3,none⟩) (n3 - 3) (c3 - 3)] rfl rfl 127 _ (hG.no hL) (by kernel_rfl) rfl (by simp[Value.oneCell']) ?_;exact hK undef _ trivial (qk hL hG)
        go_simp;exact hK _ _ rfl (qs 20 (by decide) (Below.refl _ _) hG)
       intro Lz t wq hG hall hh
       have f20:=aB hh 20 (by decide)
       simp only[pick]at f20
       replace f20:t 20=(.bool W3):=f20
       clear hh
       simp only[filled,upd,Have,is,any,row,pick,Act.put,List.setIfInBounds_toArray,List.set_cons_zero,List.set_cons_succ,Nat.reduceAdd,Nat.reduceEqDiff,reduceIte]
       simp only[f20]
       have HXq:=hid (hG.yes (hall 19 (by decide)))
       have Et:=hid hG.bel
       have HRq:=hid hG.zB
       clear hG hall
       go_wp2
       try simp only[Exit.inBlock,Exit.then]
       exact bodyPost_ret (w:=wq) (Nk rfl HXq.out W3 _ rfl rfl) rfl (ae7 (d:=[]) CG.out Et.out HLL3.out (by omega) (by unfold maxLen;omega) (HD3.out (by omega) _ _ HRq.out))
     have q1:((strOf b).toList==[])=false:=by rw[tl,beq_eq_false_iff_ne];exact hb
     have q1':(strOf b).toList.isEmpty=false:=by rw[tl];simpa[strOf]using hb
     have CG:Hid (O=none):=by show _=_;rw[HOF.out (by rintro⟨_,e⟩;cases e),if_neg];rintro⟨_,_,e,_⟩;exact hb e
     clear ha hb
     go_wp2_with fail
     refine(YO.out _).mono ?_
     rintro e w4 ⟨rfl,hw4⟩
     subst hw4
     go_wp2_with (refine Ej jI.out ⟨#[]⟩ ⟨#[]⟩ none 0 0 (.tmp 2) (.tmp 66) rfl rfl rfl rfl ?_)
     try simp only[Exit.inBlock,Exit.then]
     exact bodyPost_ret (w:=World.setRow w3 w.heap.size #[.string ⟨#[]⟩,.string ⟨#[]⟩,.slice none 0 0]) (Nk rfl (jI.out.row _ _ _) false _ rfl rfl) rfl (Ew CG.out (below_setRow HB3.out (Nat.le_refl _) _))
    have q0:((strOf a).toList==[])=false:=by rw[tl,beq_eq_false_iff_ne];exact ha
    have q0':(strOf a).toList.isEmpty=false:=by rw[tl];simpa[strOf]using ha
    have CG:Hid (O=none):=by show _=_;rw[HOF.out (by rintro⟨_,e⟩;cases e),if_neg];rintro⟨_,e,_⟩;exact ha e
    clear ha
    go_wp2_with fail
    refine(YO.out _).mono ?_
    rintro e w4 ⟨rfl,hw4⟩
    subst hw4
    go_wp2_with (refine Ej jI.out ⟨#[]⟩ ⟨#[]⟩ none 0 0 (.tmp 2) (.tmp 66) rfl rfl rfl rfl ?_)
    try simp only[Exit.inBlock,Exit.then]
    exact bodyPost_ret (w:=World.setRow w3 w.heap.size #[.string ⟨#[]⟩,.string ⟨#[]⟩,.slice none 0 0]) (Nk rfl (jI.out.row _ _ _) false _ rfl rfl) rfl (Ew CG.out (below_setRow HB3.out (Nat.le_refl _) _))
   have h4I:¬(3:Int)<(n3:Int):=by omega
   have CG:Hid (O=none):=by show _=_;rw[HOF.out (by rintro⟨_,e⟩;cases e),if_neg];rintro⟨e,_⟩;exact h4 e
   go_wp2_with fail
   refine(YO.out _).mono ?_
   rintro e w4 ⟨rfl,hw4⟩
   subst hw4
   go_wp2_with (refine Ej jI.out ⟨#[]⟩ ⟨#[]⟩ none 0 0 (.tmp 2) (.tmp 66) rfl rfl rfl rfl ?_)
   try simp only[Exit.inBlock,Exit.then]
   exact bodyPost_ret (w:=World.setRow w3 w.heap.size #[.string ⟨#[]⟩,.string ⟨#[]⟩,.slice none 0 0]) (Nk rfl (jI.out.row _ _ _) false _ rfl rfl) rfl (Ew CG.out (below_setRow HB3.out (Nat.le_refl _) _))
 have hnI:¬(1:Int)<(n3:Int):=by omega
 have h4I:¬(3:Int)<(n3:Int):=by omega
 have CG:Hid (O=none):=by show _=_;rw[HOF.out (by rintro⟨e,_⟩;exact h2 e),if_neg];rintro⟨e,_⟩;omega
 go_wp2_with (refine Ej jI.out ⟨#[]⟩ ⟨#[]⟩ none 0 0 (.tmp 2) (.tmp 66) rfl rfl rfl rfl ?_)
 try simp only[Exit.inBlock,Exit.then]
 exact bodyPost_ret (w:=World.setRow w3 w.heap.size #[.string ⟨#[]⟩,.string ⟨#[]⟩,.slice none 0 0]) (Nk rfl (jI.out.row _ _ _) false _ rfl rfl) rfl (Ew CG.out (below_setRow HB3.out (Nat.le_refl _) _))
theorem oW (s:ByteArray) (w:World) (hs:s.size≤900000) (hE:Env w):Calls Tryz.prog 44 #[.string s] w fun e w'=>e=.returned (.bool (sK s.data.toList))∧Below w.heap.size w w':=by
 obtain⟨O,hO⟩:∃O,O=iM s.data.toList:=⟨_,rfl⟩
 have HAP:Hid (Calls Tryz.prog 108 #[.string s] w (agF w O)):=by rw[hO];exact qm s w hs hE
 rw[←sJ,←hO]
 clear hO hE
 go_enter Tryz.func44,Tryz.ntmps44
 go_wp2_with fail
 refine HAP.out.mono ?_
 rintro e w2 ⟨hb,hA⟩
 have HB:=hid hb
 clear hb
 cases O with
 |none=>
  obtain⟨d,h,A,n,c,rfl⟩:=hA
  go_wp2
  go_ret
  exact⟨rfl,HB.out.alloc HB.out.size _⟩
 |some v=>
  obtain⟨d,h,l⟩:=v
  obtain⟨A,c,rfl,hc,hm,hR⟩:=hA
  clear hR
  go_wp2
  go_ret
  exact⟨rfl,HB.out.alloc HB.out.size _⟩
end Go.Proofs.YtmpeaoacaecgpaaGreatDoor.Gp
