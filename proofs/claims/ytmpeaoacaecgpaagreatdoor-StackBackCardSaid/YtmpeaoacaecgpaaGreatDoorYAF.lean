/- Texts that belong together: Zx, QudB, acN, acO. -/
import Derived.Test.YtmpeaoacaecgpaaGreatDoorYAB
import Derived.Test.YtmpeaoacaecgpaaGreatDoorYAE
import Derived.Test.YtmpeaoacaecgpaaGreatDoorYAA
import Derived.Test.YtmpeaoacaecgpaaGreatDoorShelf
import Derived.Test.YtmpeaoacaecgpaaGreatDoorShelf3
set_option linter.unusedSimpArgs false
set_option linter.unusedVariables false
set_option maxRecDepth 100000
set_option maxHeartbeats 64000000
namespace Go.Proofs.YtmpeaoacaecgpaaGreatDoor.Zx
open Go.RowKit Base Base2 dI oO
theorem take_snoc {α:Type} (l:List α) (k:Nat) (h:k<l.length):l.take (k+1)=l.take k++[l[k]]:=List.take_succ_eq_append_getElem h
theorem Iu (b:Nat) (L:List UInt8) (h:eu b L=true) (k:Nat) (hk:k<L.length):lH b L[k]=true:=List.all_eq_true.1 h _ (List.getElem_mem _)
theorem tq (b:Nat) (c:UInt8) (h:lH b c=true):hex c.toNat=(dv c:Int):=by
 unfold lH at h
 rw[Bool.and_eq_true]at h
 have:=of_decide_eq_true h.1
 unfold dv
 omega
theorem qA (s:ByteArray) (b:Nat) (w:World) (hs:s.size≤1073741824):Calls Tryz.prog 353 #[.string s,.int .i64 (b:Int)] w fun e w'=>e=.returned (.bool (eu b s.data.toList))∧w=w':=by
 have hl:s.data.toList.length=s.size:=Array.length_toList
 have HL:=hid hl
 clear hl
 go_enter Tryz.func353,Tryz.ntmps353
 go_wp2
 go_loopw [5,6] (fun vk _ wr=>∃k:Nat,k≤s.size∧vk=.int .i64 (k:Int)∧wr=w∧Hid (eu b (s.data.toList.take k)=true)) (fun vk _ _=>s.size - (intOf vk).toNat)
 case atStart=>exact⟨0,Nat.zero_le _,rfl,rfl,rfl⟩
 case round =>
  obtain⟨k,hk,rfl,rfl,HT⟩:=hrel
  by_cases hlt:k<s.size
  ·obtain ⟨c,hc⟩:∃c,s[k]=c:=⟨_,rfl⟩
   have hkl:k<s.data.toList.length:=by rw[HL.out];exact hlt
   have hcl:s.data.toList[k]=c:=hc
   have HS:Hid (s.data.toList.take (k+1)=s.data.toList.take k++[c]):=by rw[←hcl];exact take_snoc _ k hkl
   have HM:Hid (c ∈ s.data.toList):=by show _ ∈ _;rw[←hcl];exact List.getElem_mem _
   have h0:0≤(c.toNat:Int):=by omega
   have h1:(c.toNat:Int)≤255:=by have:=c.toNat_lt;omega
   have hD:lH b c=(decide (0≤hex c.toNat)&&decide (hex c.toNat<b)):=rfl
   have HD:=hid hD
   obtain⟨x,hx⟩:∃x,x=hex c.toNat:=⟨_,rfl⟩
   rw[←hx]at HD
   have HX:=hid hx
   clear hcl hkl hD hx
   by_cases hx0:0≤x
   ·by_cases hxb:x<b
    ·have HOK:Hid (lH b c=true):=by show _=_;rw[HD.out,decide_eq_true hx0,decide_eq_true hxb];rfl
     go_wp2_with fail
     refine(dI.dV _ _ h0 h1).mono ?_
     rintro e w2 ⟨rfl,hw2⟩
     subst hw2
     rw[←HX.out]
     go_wp2
     go_roundw
     case rel=>exact⟨k+1,by omega,by go_num,by first|rfl|trivial,by show _=_;rw[HS.out];unfold eu at HT⊢;rw[List.all_append,HT.out,List.all_cons,HOK.out];rfl⟩
     case measure=>simp[intOf];omega
    have HE:Hid (eu b s.data.toList=false):=by
     show _=_
     refine List.all_eq_false.2 ⟨c,HM.out,?_⟩
     rw[HD.out,decide_eq_false hxb];simp
    go_wp2_with fail
    refine(dI.dV _ _ h0 h1).mono ?_
    rintro e w2 ⟨rfl,hw2⟩
    subst hw2
    rw[←HX.out]
    go_wp2
    go_ret
    exact⟨ak HE.out.symm,rfl⟩
   have HE:Hid (eu b s.data.toList=false):=by
    show _=_
    refine List.all_eq_false.2 ⟨c,HM.out,?_⟩
    rw[HD.out,decide_eq_false hx0];simp
   go_wp2_with fail
   refine(dI.dV _ _ h0 h1).mono ?_
   rintro e w2 ⟨rfl,hw2⟩
   subst hw2
   rw[←HX.out]
   go_wp2
   go_ret
   exact⟨ak HE.out.symm,rfl⟩
  obtain rfl:k=s.size:=by omega
  have HE:Hid (eu b s.data.toList=true):=by
   show _=_
   have h:=HT.out
   rwa[List.take_of_length_le (by rw[HL.out];exact Nat.le_refl _)]at h
  go_wp2
  go_ret
  exact⟨ak HE.out.symm,rfl⟩
theorem ext2 (s:ByteArray) (k:Nat) (h:k≤s.size):(s.extract k s.size).data.toList=s.data.toList.drop k:=by rw[Regs.ext_drop s k s.size rfl];rfl
theorem agn (a x:UInt8) (r:List UInt8) (ha:a=48) (hx:x=120∨x=88):Ht (a::x::r)=(16,r):=by unfold Ht;simp only;rw[if_pos ha,if_pos hx]
theorem agm (a x:UInt8) (r:List UInt8) (ha:a=48) (hx:¬(x=120∨x=88)):Ht (a::x::r)=(8,x::r):=by unfold Ht;simp only;rw[if_pos ha,if_neg hx]
theorem Yv (a x:UInt8) (r:List UInt8) (ha:a≠48):Ht (a::x::r)=(10,a::x::r):=by unfold Ht;simp only;rw[if_neg ha]
theorem pre2 (a x p q:UInt8) (r:List UInt8):Lib.hasPrefix (a::x::r) [p,q]=(decide (a=p)&&decide (x=q)):=by
 unfold Lib.hasPrefix
 simp[List.isPrefixOf,Bool.beq_eq_decide_eq,eq_comm]
theorem pre1 (a p q:UInt8):Lib.hasPrefix [a] [p,q]=false:=by simp[Lib.hasPrefix,List.isPrefixOf]
theorem yO {c d:UInt8} (h:c≠d):((c.toNat:Int)==(d.toNat:Int))=false:=by
 have:c.toNat≠d.toNat:=fun e=>h (UInt8.toNat_inj.1 e)
 simp;omega
def CS (L:List UInt8):Value:=match num L with
 |some v=>.tuple #[.int .u64 (sat v),.bool true]
 |none=>.tuple #[.int .u64 0,.bool false]
theorem Ja (L:List UInt8) (hne:L≠[]) (b:Nat) (r:List UInt8) (h:Ht L=(b,r)) (hd:eu b r=true):CS L=.tuple #[.int .u64 (sat (val b r)),.bool true]:=by
 unfold CS num;rw[if_neg hne,h];simp only;rw[if_pos hd]
theorem Oh (L:List UInt8) (hne:L≠[]) (b:Nat) (r:List UInt8) (h:Ht L=(b,r)) (hd:eu b r=false):CS L=.tuple #[.int .u64 0,.bool false]:=by
 unfold CS num;rw[if_neg hne,h];simp only;rw[hd,if_neg (by decide)]
def CU (L:List UInt8):Int:=if (num L).isSome then(big (Ht L).1 (Ht L).2:Int)else -1
theorem Jb (L:List UInt8) (hne:L≠[]) (b:Nat) (r:List UInt8) (h:Ht L=(b,r)) (hd:eu b r=true):CU L=big b r:=by
 unfold CU num;rw[if_neg hne,h];simp only;rw[if_pos hd];rfl
theorem Oi (L:List UInt8) (hne:L≠[]) (b:Nat) (r:List UInt8) (h:Ht L=(b,r)) (hd:eu b r=false):CU L= -1:=by
 unfold CU num;rw[if_neg hne,h];simp only;rw[hd];rfl
theorem bf (s:ByteArray) (w:World) (hs:s.size≤1073741824):Calls Tryz.prog 352 #[.string s] w fun e w'=>e=.returned (CS s.data.toList)∧w=w':=by
 have hsz:s.data.toList.length=s.size:=Array.length_toList
 match hL:s.data.toList with
 |[]=>
  have h0:s.size=0:=by rw[←hsz,hL];rfl
  have hem:(s.toList==[])=true:=by rw[Lib.toList_data,hL];rfl
  have TR:s.toList=[]:=by rw[Lib.toList_data,hL]
  clear hL hsz
  go_enter Tryz.func352,Tryz.ntmps352
  go_wp2
  go_ret2
  exact⟨rfl,rfl⟩
 | [a] =>
  have h1:s.size=1:=by rw[←hsz,hL];rfl
  have hzs:s.size≤1073741824:=hs
  have hne:s.toList≠[]:=by rw[Lib.toList_data,hL];simp
  have hem:(s.toList==[])=false:=by rw[Lib.toList_data,hL];rfl
  have TR:s.toList.isEmpty=false:=by rw[Lib.toList_data,hL];rfl
  have NW:=hid hL
  have Fj:Hid (eu 10 s.data.toList=true→CS s.data.toList=.tuple #[.int .u64 (sat (val 10 s.data.toList)),.bool true]):=fun h=>Ja _ (by rw[hL];simp) 10 _ (by rw[hL];rfl) h
  have qc:Hid (eu 10 s.data.toList=false→CS s.data.toList=.tuple #[.int .u64 0,.bool false]):=fun h=>Oh _ (by rw[hL];simp) 10 _ (by rw[hL];rfl) h
  have g0:∀h,s[0]'h=a:=fun h=>by
   have:s.data.toList[0]?=some a:=by rw[hL];rfl
   have:=List.getElem?_eq_some_iff.1 this
   obtain⟨_,e⟩:=this
   exact e
  have HP:Hid (∀q,Lib.hasPrefix s.data.toList [48,q]=false):=by intro q;rw[NW.out,pre1]
  rw[←hL]
  clear hL hsz hne
  cases ha2:((a.toNat:Int)==48)
  all_goals
   go_enter Tryz.func352,Tryz.ntmps352
   go_wp2_with fail
   refine(Tryz.strings_HasPrefix s ⟨#[48,120]⟩ _).mono ?_
   rintro e w2 ⟨rfl,hw2⟩
   subst hw2
   rw[show(⟨#[48,120]⟩:ByteArray).data.toList=[48,120]from rfl,HP.out]
   go_wp2_with fail
   refine(Tryz.strings_HasPrefix s ⟨#[48,88]⟩ _).mono ?_
   rintro e w2 ⟨rfl,hw2⟩
   subst hw2
   rw[show(⟨#[48,88]⟩:ByteArray).data.toList=[48,88]from rfl,HP.out]
   go_wp2_with fail
   refine(qA s 10 _ hzs).mono ?_
   rintro e w2 ⟨rfl,hw2⟩
   subst hw2
   cases hd:eu 10 s.data.toList with
   |false=>
    have HE:=hid (qc.out hd)
    clear hd
    go_wp2
    go_ret2
    exact⟨by rw[HE.out];rfl,rfl⟩
   | true=>
    have HE:=hid (Fj.out hd)
    have HD:=hid hd
    have HL:Hid (s.data.toList.length=s.size):=Array.length_toList
    clear hd
    go_wp2
    go_loopw [6,7] (fun vn vk wr=>∃k:Nat,k≤s.size∧vk=.int .i64 (k:Int)∧wr=w2∧vn=.int .u64 (sat (val 10 (s.data.toList.take k)))) (fun _ vk _=>s.size - (intOf vk).toNat)
    case atStart=>exact⟨0,Nat.zero_le _,rfl,rfl,rfl⟩
    case round=>
     obtain⟨k,hk,rfl,rfl,rfl⟩:=hrel
     obtain⟨v,hv⟩:∃v,v=val 10 (s.data.toList.take k):=⟨_,rfl⟩
     obtain⟨n,hn⟩:∃n,n=sat v:=⟨_,rfl⟩
     have hn2:n≤4294967296:=by rw[hn];unfold sat;omega
     rw[←hv,←hn]
     have HV:=hid hv
     have HN:=hid hn
     clear hv hn
     by_cases hlt:k<s.size
     ·obtain⟨c,hc⟩:∃c,s[k]=c:=⟨_,rfl⟩
      have hkl:k<s.data.toList.length:=by rw[HL.out];exact hlt
      have hcl:s.data.toList[k]=c:=hc
      have HS:Hid (s.data.toList.take (k+1)=s.data.toList.take k++[c]):=by rw[←hcl];exact take_snoc _ k hkl
      have hD:lH 10 c=true:=by rw[←hcl];exact Iu _ _ HD.out k hkl
      have HX:=hid (tq 10 c hD)
      obtain⟨d,hd⟩:∃d,d=dv c:=⟨_,rfl⟩
      have alU:d≤15:=by rw[hd];exact U8 c
      rw[←hd]at HX
      have Td:=hid hd
      have h0:0≤(c.toNat:Int):=by omega
      have h1:(c.toNat:Int)≤255:=by have:=c.toNat_lt;omega
      have xE:Hid (sat (val 10 (s.data.toList.take (k+1)))=min (n*10+d) 4294967296):=by
       show _=_
       rw[HS.out,jh,←HV.out,←Td.out,HN.out,Ea v 10 d (by omega)]
      clear hcl hkl hD hd
      have HZ:Hid (Value.int .u64 (min ((n:Int)*10+(d:Int)) 4294967296)=.int .u64 (sat (val 10 (s.data.toList.take (k+1))))):=by
       refine int_eq ?_
       rw[xE.out];omega
      go_wp2_with fail
      refine(dI.dV _ _ h0 h1).mono ?_
      rintro e w2 ⟨rfl,hw2⟩
      subst hw2
      rw[HX.out]
      go_wp2
      go_roundw
      case rel=>exact⟨k+1,by omega,by go_num,by first|rfl|trivial,HZ.out⟩
      case measure=>simp[intOf];omega
     obtain rfl:k=s.size:=by omega
     have HZ:Hid (n=sat (val 10 s.data.toList)):=by
      show _=_
      rw[HN.out,HV.out,List.take_of_length_le (by rw[HL.out];exact Nat.le_refl _)]
     go_wp2
     go_ret2
     exact⟨by rw[HE.out,HZ.out];rfl,rfl⟩
 | a :: x :: r =>
  have h1:2≤s.size:=by rw[←hsz,hL];simp
  have h1i:(2:Int)≤(s.size:Int):=by omega
  have h0i:(0:Int)<(s.size:Int):=by omega
  have h1j:(1:Int)<(s.size:Int):=by omega
  have hem:(s.toList==[])=false:=by rw[Lib.toList_data,hL];rfl
  have TR:s.toList.isEmpty=false:=by rw[Lib.toList_data,hL];rfl
  have g0:∀h,s[0]'h=a:=fun h=>by
   have:s.data.toList[0]?=some a:=by rw[hL];rfl
   have:=List.getElem?_eq_some_iff.1 this
   obtain⟨_,e⟩:=this
   exact e
  have NW:=hid hL
  have Ac:s.data.toList≠[]:=by rw[hL];simp
  rw[←hL]
  by_cases ha:a=48
  ·by_cases hx:x=120∨x=88
   ·obtain ⟨Z,hZ⟩:∃Z,Z=s.extract 2 s.size:=⟨_,rfl⟩
    have Tn:Z.data.toList=r:=by rw[hZ,ext2 _ _ h1,hL];rfl
    have hZs:s.extract 2 s.size=Z:=hZ.symm
    have hzs:Z.size≤1073741824:=by have:Z.data.toList.length=Z.size:=Array.length_toList;rw[Tn]at this;rw[hL]at hsz;simp at hsz;omega
    have Fj:Hid (eu 16 Z.data.toList=true→CS s.data.toList=.tuple #[.int .u64 (sat (val 16 Z.data.toList)),.bool true]):=fun h=>Ja _ Ac 16 _ (by rw[hL,agn _ _ _ ha hx,Tn]) h
    have qc:Hid (eu 16 Z.data.toList=false→CS s.data.toList=.tuple #[.int .u64 0,.bool false]):=fun h=>Oh _ Ac 16 _ (by rw[hL,agn _ _ _ ha hx,Tn]) h
    clear hL hsz Tn hZ Ac
    rcases hx with hx|hx
    ·have HP : Hid (Lib.hasPrefix s.data.toList [48, 120] = true) := by show _ = _; rw [NW.out, pre2, ha, hx]; rfl
     clear ha hx g0
     go_enter Tryz.func352,Tryz.ntmps352
     go_wp2_with fail
     refine(Tryz.strings_HasPrefix s ⟨#[48,120]⟩ _).mono ?_
     rintro e w2 ⟨rfl,hw2⟩
     subst hw2
     rw[show(⟨#[48,120]⟩:ByteArray).data.toList=[48,120]from rfl,HP.out]
     go_wp2_with fail
     refine(qA Z 16 _ hzs).mono ?_
     rintro e w2 ⟨rfl,hw2⟩
     subst hw2
     cases hd:eu 16 Z.data.toList with
     |false=>
      have HE:=hid (qc.out hd)
      clear hd
      go_wp2
      go_ret2
      exact⟨by rw[HE.out];rfl,rfl⟩
     | true=>
      have HE:=hid (Fj.out hd)
      have HD:=hid hd
      have HL:Hid (Z.data.toList.length=Z.size):=Array.length_toList
      clear hd
      go_wp2
      go_loopw [6,7] (fun vn vk wr=>∃k:Nat,k≤Z.size∧vk=.int .i64 (k:Int)∧wr=w2∧vn=.int .u64 (sat (val 16 (Z.data.toList.take k)))) (fun _ vk _=>Z.size - (intOf vk).toNat)
      case atStart=>exact⟨0,Nat.zero_le _,rfl,rfl,rfl⟩
      case round=>
       obtain⟨k,hk,rfl,rfl,rfl⟩:=hrel
       obtain⟨v,hv⟩:∃v,v=val 16 (Z.data.toList.take k):=⟨_,rfl⟩
       obtain⟨n,hn⟩:∃n,n=sat v:=⟨_,rfl⟩
       have hn2:n≤4294967296:=by rw[hn];unfold sat;omega
       rw[←hv,←hn]
       have HV:=hid hv
       have HN:=hid hn
       clear hv hn
       by_cases hlt:k<Z.size
       ·obtain⟨c,hc⟩:∃c,Z[k]=c:=⟨_,rfl⟩
        have hkl:k<Z.data.toList.length:=by rw[HL.out];exact hlt
        have hcl:Z.data.toList[k]=c:=hc
        have HS:Hid (Z.data.toList.take (k+1)=Z.data.toList.take k++[c]):=by rw[←hcl];exact take_snoc _ k hkl
        have hD:lH 16 c=true:=by rw[←hcl];exact Iu _ _ HD.out k hkl
        have HX:=hid (tq 16 c hD)
        obtain⟨d,hd⟩:∃d,d=dv c:=⟨_,rfl⟩
        have alU:d≤15:=by rw[hd];exact U8 c
        rw[←hd]at HX
        have Td:=hid hd
        have h0:0≤(c.toNat:Int):=by omega
        have h1:(c.toNat:Int)≤255:=by have:=c.toNat_lt;omega
        have xE:Hid (sat (val 16 (Z.data.toList.take (k+1)))=min (n*16+d) 4294967296):=by
         show _=_
         rw[HS.out,jh,←HV.out,←Td.out,HN.out,Ea v 16 d (by omega)]
        clear hcl hkl hD hd
        have HZ:Hid (Value.int .u64 (min ((n:Int)*16+(d:Int)) 4294967296)=.int .u64 (sat (val 16 (Z.data.toList.take (k+1))))):=by
         refine int_eq ?_
         rw[xE.out];omega
        go_wp2_with fail
        refine(dI.dV _ _ h0 h1).mono ?_
        rintro e w2 ⟨rfl,hw2⟩
        subst hw2
        rw[HX.out]
        go_wp2
        go_roundw
        case rel=>exact⟨k+1,by omega,by go_num,by first|rfl|trivial,HZ.out⟩
        case measure=>simp[intOf];omega
       obtain rfl:k=Z.size:=by omega
       have HZ:Hid (n=sat (val 16 Z.data.toList)):=by
        show _=_
        rw[HN.out,HV.out,List.take_of_length_le (by rw[HL.out];exact Nat.le_refl _)]
       go_wp2
       go_ret2
       exact⟨by rw[HE.out,HZ.out];rfl,rfl⟩
    have HP:Hid (Lib.hasPrefix s.data.toList [48,120]=false):=by show _=_;rw[NW.out,pre2,ha,hx];rfl
    have HP2:Hid (Lib.hasPrefix s.data.toList [48,88]=true):=by show _=_;rw[NW.out,pre2,ha,hx];rfl
    clear ha hx g0
    go_enter Tryz.func352,Tryz.ntmps352
    go_wp2_with fail
    refine(Tryz.strings_HasPrefix s ⟨#[48,120]⟩ _).mono ?_
    rintro e w2 ⟨rfl,hw2⟩
    subst hw2
    rw[show(⟨#[48,120]⟩:ByteArray).data.toList=[48,120]from rfl,HP.out]
    go_wp2_with fail
    refine(Tryz.strings_HasPrefix s ⟨#[48,88]⟩ _).mono ?_
    rintro e w2 ⟨rfl,hw2⟩
    subst hw2
    rw[show(⟨#[48,88]⟩:ByteArray).data.toList=[48,88]from rfl,HP2.out]
    go_wp2_with fail
    refine(qA Z 16 _ hzs).mono ?_
    rintro e w2 ⟨rfl,hw2⟩
    subst hw2
    cases hd:eu 16 Z.data.toList with
    |false=>
     have HE:=hid (qc.out hd)
     clear hd
     go_wp2
     go_ret2
     exact⟨by rw[HE.out];rfl,rfl⟩
    | true=>
     have HE:=hid (Fj.out hd)
     have HD:=hid hd
     have HL:Hid (Z.data.toList.length=Z.size):=Array.length_toList
     clear hd
     go_wp2
     go_loopw [6,7] (fun vn vk wr=>∃k:Nat,k≤Z.size∧vk=.int .i64 (k:Int)∧wr=w2∧vn=.int .u64 (sat (val 16 (Z.data.toList.take k)))) (fun _ vk _=>Z.size - (intOf vk).toNat)
     case atStart=>exact⟨0,Nat.zero_le _,rfl,rfl,rfl⟩
     case round=>
      obtain⟨k,hk,rfl,rfl,rfl⟩:=hrel
      obtain⟨v,hv⟩:∃v,v=val 16 (Z.data.toList.take k):=⟨_,rfl⟩
      obtain⟨n,hn⟩:∃n,n=sat v:=⟨_,rfl⟩
      have hn2:n≤4294967296:=by rw[hn];unfold sat;omega
      rw[←hv,←hn]
      have HV:=hid hv
      have HN:=hid hn
      clear hv hn
      by_cases hlt:k<Z.size
      ·obtain⟨c,hc⟩:∃c,Z[k]=c:=⟨_,rfl⟩
       have hkl:k<Z.data.toList.length:=by rw[HL.out];exact hlt
       have hcl:Z.data.toList[k]=c:=hc
       have HS:Hid (Z.data.toList.take (k+1)=Z.data.toList.take k++[c]):=by rw[←hcl];exact take_snoc _ k hkl
       have hD:lH 16 c=true:=by rw[←hcl];exact Iu _ _ HD.out k hkl
       have HX:=hid (tq 16 c hD)
       obtain⟨d,hd⟩:∃d,d=dv c:=⟨_,rfl⟩
       have alU:d≤15:=by rw[hd];exact U8 c
       rw[←hd]at HX
       have Td:=hid hd
       have h0:0≤(c.toNat:Int):=by omega
       have h1:(c.toNat:Int)≤255:=by have:=c.toNat_lt;omega
       have xE:Hid (sat (val 16 (Z.data.toList.take (k+1)))=min (n*16+d) 4294967296):=by
        show _=_
        rw[HS.out,jh,←HV.out,←Td.out,HN.out,Ea v 16 d (by omega)]
       clear hcl hkl hD hd
       have HZ:Hid (Value.int .u64 (min ((n:Int)*16+(d:Int)) 4294967296)=.int .u64 (sat (val 16 (Z.data.toList.take (k+1))))):=by
        refine int_eq ?_
        rw[xE.out];omega
       go_wp2_with fail
       refine(dI.dV _ _ h0 h1).mono ?_
       rintro e w2 ⟨rfl,hw2⟩
       subst hw2
       rw[HX.out]
       go_wp2
       go_roundw
       case rel=>exact⟨k+1,by omega,by go_num,by first|rfl|trivial,HZ.out⟩
       case measure=>simp[intOf];omega
      obtain rfl:k=Z.size:=by omega
      have HZ:Hid (n=sat (val 16 Z.data.toList)):=by
       show _=_
       rw[HN.out,HV.out,List.take_of_length_le (by rw[HL.out];exact Nat.le_refl _)]
      go_wp2
      go_ret2
      exact⟨by rw[HE.out,HZ.out];rfl,rfl⟩
   obtain⟨Z,hZ⟩:∃Z,Z=s.extract 1 s.size:=⟨_,rfl⟩
   have Tn:Z.data.toList=x::r:=by rw[hZ,ext2 _ _ (by omega),hL];rfl
   have hZs:s.extract 1 s.size=Z:=hZ.symm
   have hzs:Z.size≤1073741824:=by have:Z.data.toList.length=Z.size:=Array.length_toList;rw[Tn]at this;rw[hL]at hsz;simp at hsz this;omega
   have Fj:Hid (eu 8 Z.data.toList=true→CS s.data.toList=.tuple #[.int .u64 (sat (val 8 Z.data.toList)),.bool true]):=fun h=>Ja _ Ac 8 _ (by rw[hL,agm _ _ _ ha hx,Tn]) h
   have qc:Hid (eu 8 Z.data.toList=false→CS s.data.toList=.tuple #[.int .u64 0,.bool false]):=fun h=>Oh _ Ac 8 _ (by rw[hL,agm _ _ _ ha hx,Tn]) h
   have HP:Hid (Lib.hasPrefix s.data.toList [48,120]=false):=by show _=_;rw[NW.out,pre2,decide_eq_false (fun h=>hx (.inl h)),Bool.and_false]
   have HP2:Hid (Lib.hasPrefix s.data.toList [48,88]=false):=by show _=_;rw[NW.out,pre2,decide_eq_false (fun h=>hx (.inr h)),Bool.and_false]
   have g48:∀h,s[0]'h=48:=fun h=>by rw[g0 h,ha]
   clear hL hsz Tn hZ Ac ha hx g0
   go_enter Tryz.func352,Tryz.ntmps352
   go_wp2_with fail
   refine(Tryz.strings_HasPrefix s ⟨#[48,120]⟩ _).mono ?_
   rintro e w2 ⟨rfl,hw2⟩
   subst hw2
   rw[show(⟨#[48,120]⟩:ByteArray).data.toList=[48,120]from rfl,HP.out]
   go_wp2_with fail
   refine(Tryz.strings_HasPrefix s ⟨#[48,88]⟩ _).mono ?_
   rintro e w2 ⟨rfl,hw2⟩
   subst hw2
   rw[show(⟨#[48,88]⟩:ByteArray).data.toList=[48,88]from rfl,HP2.out]
   go_wp2_with fail
   refine(qA Z 8 _ hzs).mono ?_
   rintro e w2 ⟨rfl,hw2⟩
   subst hw2
   cases hd:eu 8 Z.data.toList with
   |false=>
    have HE:=hid (qc.out hd)
    clear hd
    go_wp2
    go_ret2
    exact⟨by rw[HE.out];rfl,rfl⟩
   | true=>
    have HE:=hid (Fj.out hd)
    have HD:=hid hd
    have HL:Hid (Z.data.toList.length=Z.size):=Array.length_toList
    clear hd
    go_wp2
    go_loopw [6,7] (fun vn vk wr=>∃k:Nat,k≤Z.size∧vk=.int .i64 (k:Int)∧wr=w2∧vn=.int .u64 (sat (val 8 (Z.data.toList.take k)))) (fun _ vk _=>Z.size - (intOf vk).toNat)
    case atStart=>exact⟨0,Nat.zero_le _,rfl,rfl,rfl⟩
    case round=>
     obtain⟨k,hk,rfl,rfl,rfl⟩:=hrel
     obtain⟨v,hv⟩:∃v,v=val 8 (Z.data.toList.take k):=⟨_,rfl⟩
     obtain⟨n,hn⟩:∃n,n=sat v:=⟨_,rfl⟩
     have hn2:n≤4294967296:=by rw[hn];unfold sat;omega
     rw[←hv,←hn]
     have HV:=hid hv
     have HN:=hid hn
     clear hv hn
     by_cases hlt:k<Z.size
     ·obtain⟨c,hc⟩:∃c,Z[k]=c:=⟨_,rfl⟩
      have hkl:k<Z.data.toList.length:=by rw[HL.out];exact hlt
      have hcl:Z.data.toList[k]=c:=hc
      have HS:Hid (Z.data.toList.take (k+1)=Z.data.toList.take k++[c]):=by rw[←hcl];exact take_snoc _ k hkl
      have hD:lH 8 c=true:=by rw[←hcl];exact Iu _ _ HD.out k hkl
      have HX:=hid (tq 8 c hD)
      obtain⟨d,hd⟩:∃d,d=dv c:=⟨_,rfl⟩
      have alU:d≤15:=by rw[hd];exact U8 c
      rw[←hd]at HX
      have Td:=hid hd
      have h0:0≤(c.toNat:Int):=by omega
      have h1:(c.toNat:Int)≤255:=by have:=c.toNat_lt;omega
      have xE:Hid (sat (val 8 (Z.data.toList.take (k+1)))=min (n*8+d) 4294967296):=by
       show _=_
       rw[HS.out,jh,←HV.out,←Td.out,HN.out,Ea v 8 d (by omega)]
      clear hcl hkl hD hd
      have HZ:Hid (Value.int .u64 (min ((n:Int)*8+(d:Int)) 4294967296)=.int .u64 (sat (val 8 (Z.data.toList.take (k+1))))):=by
       refine int_eq ?_
       rw[xE.out];omega
      go_wp2_with fail
      refine(dI.dV _ _ h0 h1).mono ?_
      rintro e w2 ⟨rfl,hw2⟩
      subst hw2
      rw[HX.out]
      go_wp2
      go_roundw
      case rel=>exact⟨k+1,by omega,by go_num,by first|rfl|trivial,HZ.out⟩
      case measure=>simp[intOf];omega
     obtain rfl:k=Z.size:=by omega
     have HZ:Hid (n=sat (val 8 Z.data.toList)):=by
      show _=_
      rw[HN.out,HV.out,List.take_of_length_le (by rw[HL.out];exact Nat.le_refl _)]
     go_wp2
     go_ret2
     exact⟨by rw[HE.out,HZ.out];rfl,rfl⟩
  have Fj:Hid (eu 10 s.data.toList=true→CS s.data.toList=.tuple #[.int .u64 (sat (val 10 s.data.toList)),.bool true]):=fun h=>Ja _ Ac 10 _ (by rw[hL,Yv _ _ _ ha]) h
  have qc:Hid (eu 10 s.data.toList=false→CS s.data.toList=.tuple #[.int .u64 0,.bool false]):=fun h=>Oh _ Ac 10 _ (by rw[hL,Yv _ _ _ ha]) h
  have HP:Hid (∀q,Lib.hasPrefix s.data.toList [48,q]=false):=by intro q;rw[NW.out,pre2,decide_eq_false ha,Bool.false_and]
  have ha2:((a.toNat:Int)==48)=false:=yO (d:=48) ha
  have hzs:s.size≤1073741824:=hs
  clear hL hsz Ac ha
  go_enter Tryz.func352,Tryz.ntmps352
  go_wp2_with fail
  refine(Tryz.strings_HasPrefix s ⟨#[48,120]⟩ _).mono ?_
  rintro e w2 ⟨rfl,hw2⟩
  subst hw2
  rw[show(⟨#[48,120]⟩:ByteArray).data.toList=[48,120]from rfl,HP.out]
  go_wp2_with fail
  refine(Tryz.strings_HasPrefix s ⟨#[48,88]⟩ _).mono ?_
  rintro e w2 ⟨rfl,hw2⟩
  subst hw2
  rw[show(⟨#[48,88]⟩:ByteArray).data.toList=[48,88]from rfl,HP.out]
  go_wp2_with fail
  refine(qA s 10 _ hzs).mono ?_
  rintro e w2 ⟨rfl,hw2⟩
  subst hw2
  cases hd:eu 10 s.data.toList with
  |false=>
   have HE:=hid (qc.out hd)
   clear hd
   go_wp2
   go_ret2
   exact⟨by rw[HE.out];rfl,rfl⟩
  | true=>
   have HE:=hid (Fj.out hd)
   have HD:=hid hd
   have HL:Hid (s.data.toList.length=s.size):=Array.length_toList
   clear hd
   go_wp2
   go_loopw [6,7] (fun vn vk wr=>∃k:Nat,k≤s.size∧vk=.int .i64 (k:Int)∧wr=w2∧vn=.int .u64 (sat (val 10 (s.data.toList.take k)))) (fun _ vk _=>s.size - (intOf vk).toNat)
   case atStart=>exact⟨0,Nat.zero_le _,rfl,rfl,rfl⟩
   case round=>
    obtain⟨k,hk,rfl,rfl,rfl⟩:=hrel
    obtain⟨v,hv⟩:∃v,v=val 10 (s.data.toList.take k):=⟨_,rfl⟩
    obtain⟨n,hn⟩:∃n,n=sat v:=⟨_,rfl⟩
    have hn2:n≤4294967296:=by rw[hn];unfold sat;omega
    rw[←hv,←hn]
    have HV:=hid hv
    have HN:=hid hn
    clear hv hn
    by_cases hlt:k<s.size
    ·obtain⟨c,hc⟩:∃c,s[k]=c:=⟨_,rfl⟩
     have hkl:k<s.data.toList.length:=by rw[HL.out];exact hlt
     have hcl:s.data.toList[k]=c:=hc
     have HS:Hid (s.data.toList.take (k+1)=s.data.toList.take k++[c]):=by rw[←hcl];exact take_snoc _ k hkl
     have hD:lH 10 c=true:=by rw[←hcl];exact Iu _ _ HD.out k hkl
     have HX:=hid (tq 10 c hD)
     obtain⟨d,hd⟩:∃d,d=dv c:=⟨_,rfl⟩
     have alU:d≤15:=by rw[hd];exact U8 c
     rw[←hd]at HX
     have Td:=hid hd
     have h0:0≤(c.toNat:Int):=by omega
     have h1:(c.toNat:Int)≤255:=by have:=c.toNat_lt;omega
     have xE:Hid (sat (val 10 (s.data.toList.take (k+1)))=min (n*10+d) 4294967296):=by
      show _=_
      rw[HS.out,jh,←HV.out,←Td.out,HN.out,Ea v 10 d (by omega)]
     clear hcl hkl hD hd
     have HZ:Hid (Value.int .u64 (min ((n:Int)*10+(d:Int)) 4294967296)=.int .u64 (sat (val 10 (s.data.toList.take (k+1))))):=by
      refine int_eq ?_
      rw[xE.out];omega
     go_wp2_with fail
     refine(dI.dV _ _ h0 h1).mono ?_
     rintro e w2 ⟨rfl,hw2⟩
     subst hw2
     rw[HX.out]
     go_wp2
     go_roundw
     case rel=>exact⟨k+1,by omega,by go_num,by first|rfl|trivial,HZ.out⟩
     case measure=>simp[intOf];omega
    obtain rfl:k=s.size:=by omega
    have HZ:Hid (n=sat (val 10 s.data.toList)):=by
     show _=_
     rw[HN.out,HV.out,List.take_of_length_le (by rw[HL.out];exact Nat.le_refl _)]
    go_wp2
    go_ret2
    exact⟨by rw[HE.out,HZ.out];rfl,rfl⟩
end Go.Proofs.YtmpeaoacaecgpaaGreatDoor.Zx
namespace Go.Proofs.YtmpeaoacaecgpaaGreatDoor.QudB
open Go.RowKit Base Base2 dI oO Zx
theorem bU (s:ByteArray) (w:World) (hs:s.size≤1073741824):Calls Tryz.prog 343 #[.string s] w fun e w'=>e=.returned (.int .i64 (CU s.data.toList))∧Below w.heap.size w w':=by
 have hsz:s.data.toList.length=s.size:=Array.length_toList
 match hL:s.data.toList with
 |[]=>
  have h0:s.size=0:=by rw[←hsz,hL];rfl
  have hem:(s.toList==[])=true:=by rw[Lib.toList_data,hL];rfl
  have TR:s.toList=[]:=by rw[Lib.toList_data,hL]
  clear hL hsz
  go_enter Tryz.func343,Tryz.ntmps343
  go_wp2
  go_ret
  exact⟨rfl,Below.refl _ _⟩
 | [a] =>
  have h1:s.size=1:=by rw[←hsz,hL];rfl
  have hzs:s.size≤1073741824:=hs
  have hem:(s.toList==[])=false:=by rw[Lib.toList_data,hL];rfl
  have TR:s.toList.isEmpty=false:=by rw[Lib.toList_data,hL];rfl
  have Fj:Hid (eu 10 s.data.toList=true→CU s.data.toList=big 10 s.data.toList):=fun h=>Jb _ (by rw[hL];simp) 10 _ (by rw[hL];rfl) h
  have qc:Hid (eu 10 s.data.toList=false→CU s.data.toList= -1):=fun h=>Oi _ (by rw[hL];simp) 10 _ (by rw[hL];rfl) h
  rw[←hL]
  have h1i:¬(1:Int)<(s.size:Int):=by omega
  have hb1:Below w.heap.size w w:=Below.refl _ _
  clear hL hsz
  go_enter Tryz.func343,Tryz.ntmps343
  have HL:Hid (s.data.toList.length=s.size):=Array.length_toList
  go_wp2
  go_loopw [4,5,6,31] (fun vn _ _ vk wr=>∃k:Nat,k≤s.size∧vk=.int .i64 (k:Int)∧wr=w∧vn=.int .i64 (big 10 (s.data.toList.take k))∧Hid (eu 10 (s.data.toList.take k)=true)) (fun _ _ _ vk _=>s.size - (intOf vk).toNat)
  case atStart=>exact⟨0,Nat.zero_le _,rfl,rfl,rfl,rfl⟩
  case round=>
   obtain⟨k,hk,rfl,rfl,rfl,HT⟩:=hrel
   obtain⟨n,hn⟩:∃n,n=big 10 (s.data.toList.take k):=⟨_,rfl⟩
   have hn2:n≤17592186044431:=by rw[hn];exact PO 10 (by omega) _
   rw[←hn]
   have HN:=hid hn
   have Qv:(n:Int)≤17592186044431:=by omega
   clear hn hn2
   by_cases hlt:k<s.size
   ·obtain ⟨c,hc⟩:∃c,s[k]=c:=⟨_,rfl⟩
    have hkl:k<s.data.toList.length:=by rw[HL.out];exact hlt
    have hcl:s.data.toList[k]=c:=hc
    have HS:Hid (s.data.toList.take (k+1)=s.data.toList.take k++[c]):=by rw[←hcl];exact take_snoc _ k hkl
    have HM:Hid (c ∈ s.data.toList):=by show _ ∈ _;rw[←hcl];exact List.getElem_mem _
    have HD:Hid (lH 10 c=(decide (0≤hex c.toNat)&&decide (hex c.toNat<(10:Nat)))):=rfl
    obtain⟨x,hx⟩:∃x,x=hex c.toNat:=⟨_,rfl⟩
    have hx15:x≤15:=by rw[hx];exact(vG c).2
    rw[←hx]at HD
    have HX:=hid hx
    clear hcl hkl
    by_cases hx0:0≤x
    ·by_cases hxb:x<(10:Nat)
     ·have PX:lH 10 c=true:=by rw[HD.out,decide_eq_true hx0,decide_eq_true hxb];rfl
      have HT2:Hid (eu 10 (s.data.toList.take (k+1))=true):=by show _=_;rw[HS.out];unfold eu at HT⊢;rw[List.all_append,HT.out,List.all_cons,PX];rfl
      have hxd:x=(dv c:Int):=by rw[hx];exact tq 10 c PX
      have HB:Hid (big 10 (s.data.toList.take (k+1))=if n<1099511627776 then n*10+dv c else n):=by show _=_;rw[HS.out,yE,←HN.out]
      have adO:x<10:=by omega
      clear PX hx hxb
      by_cases hnb:n<1099511627776
      ·have HZ:Hid (Value.int .i64 ((n:Int)*10+x)=.int .i64 (big 10 (s.data.toList.take (k+1)))):=by
        refine int_eq ?_
        rw[HB.out,if_pos hnb,hxd];omega
       have GK:(n:Int)<1099511627776:=by omega
       clear hxd hnb HB
       have hn0:0≤(n:Int):=by omega
       generalize (n:Int)=N at hn0 Qv GK HZ⊢
       go_wp2_with fail
       refine(jK.dV _ _).mono ?_
       rintro e w2 ⟨rfl,hw2⟩
       subst hw2
       rw[←HX.out]
       go_wp2
       go_roundw
       case rel=>exact⟨k+1,by omega,by go_num,by first|rfl|trivial,HZ.out,HT2⟩
       case measure=>simp[intOf];omega
      have HZ:Hid (Value.int .i64 (n:Int)=.int .i64 (big 10 (s.data.toList.take (k+1)))):=by
       refine int_eq ?_
       rw[HB.out,if_neg hnb]
      have GK:¬(n:Int)<1099511627776:=by omega
      clear hxd hnb HB
      have hn0:0≤(n:Int):=by omega
      generalize (n:Int)=N at hn0 Qv GK HZ⊢
      go_wp2_with fail
      refine(jK.dV _ _).mono ?_
      rintro e w2 ⟨rfl,hw2⟩
      subst hw2
      rw[←HX.out]
      go_wp2
      go_roundw
      case rel=>exact⟨k+1,by omega,by go_num,by first|rfl|trivial,HZ.out,HT2⟩
      case measure=>simp[intOf];omega
     have HE:=hid (qc.out (List.all_eq_false.2 ⟨c,HM.out,by rw[HD.out,decide_eq_false hxb];simp⟩))
     have adO:¬x<10:=by omega
     clear hx hxb
     go_wp2_with fail
     refine(jK.dV _ _).mono ?_
     rintro e w2 ⟨rfl,hw2⟩
     subst hw2
     rw[←HX.out]
     go_wp2
     go_ret
     exact⟨by rw[HE.out];rfl,hb1⟩
    have HE:=hid (qc.out (List.all_eq_false.2 ⟨c,HM.out,by rw[HD.out,decide_eq_false hx0];simp⟩))
    clear hx
    go_wp2_with fail
    refine(jK.dV _ _).mono ?_
    rintro e w2 ⟨rfl,hw2⟩
    subst hw2
    rw[←HX.out]
    go_wp2
    go_ret
    exact⟨by rw[HE.out];rfl,hb1⟩
   obtain rfl:k=s.size:=by omega
   have hfull:s.data.toList.take s.size=s.data.toList:=List.take_of_length_le (by rw[HL.out];exact Nat.le_refl _)
   have HE:=hid (Fj.out (by have h:=HT.out;rwa[hfull]at h))
   have HZ:Hid (n=big 10 s.data.toList):=by show _=_;rw[HN.out,hfull]
   clear hfull
   go_wp2
   go_ret
   exact⟨by rw[HE.out,HZ.out];rfl,hb1⟩
 | a :: x ::r=>
  have h1:2≤s.size:=by rw[←hsz,hL];simp
  have h0i:(0:Int)<(s.size:Int):=by omega
  have h1j:(1:Int)<(s.size:Int):=by omega
  have h2i:(2:Int)≤(s.size:Int):=by omega
  have hem:(s.toList==[])=false:=by rw[Lib.toList_data,hL];rfl
  have TR:s.toList.isEmpty=false:=by rw[Lib.toList_data,hL];rfl
  have g0:∀h,s[0]'h=a:=fun h=>by
   have:s.data.toList[0]?=some a:=by rw[hL];rfl
   have:=List.getElem?_eq_some_iff.1 this
   obtain⟨_,e⟩:=this
   exact e
  have g1:∀h,s[1]'h=x:=fun h=>by
   have:s.data.toList[1]?=some x:=by rw[hL];rfl
   have:=List.getElem?_eq_some_iff.1 this
   obtain⟨_,e⟩:=this
   exact e
  have Ac:s.data.toList≠[]:=by rw[hL];simp
  rw[←hL]
  by_cases ha:a=48
  ·have ha2 : ((a.toNat : Int) == 48) = true := by rw [ha]; rfl
   by_cases hx:x=120∨x=88
   ·obtain ⟨Z,hZ⟩:∃Z,Z=s.extract 2 s.size:=⟨_,rfl⟩
    have Tn:Z.data.toList=r:=by rw[hZ,ext2 _ _ h1,hL];rfl
    have hZs:s.extract 2 s.size=Z:=hZ.symm
    have hzs:Z.size≤1073741824:=by have:Z.data.toList.length=Z.size:=Array.length_toList;rw[Tn]at this;rw[hL]at hsz;simp at hsz;omega
    have Fj:Hid (eu 16 Z.data.toList=true→CU s.data.toList=big 16 Z.data.toList):=fun h=>Jb _ Ac 16 _ (by rw[hL,agn _ _ _ ha hx,Tn]) h
    have qc:Hid (eu 16 Z.data.toList=false→CU s.data.toList= -1):=fun h=>Oi _ Ac 16 _ (by rw[hL,agn _ _ _ ha hx,Tn]) h
    have hcase:((x.toNat:Int)==120)=true∨((x.toNat:Int)==120)=false∧((x.toNat:Int)==88)=true:=by
     rcases hx with rfl|rfl
     ·exact .inl rfl
     exact .inr ⟨rfl,rfl⟩
    clear hL hsz Tn hZ Ac ha hx
    rcases hcase with hq|⟨hq,hq2⟩
    all_goals
     go_enter Tryz.func343,Tryz.ntmps343
     go_wp2_with fail
     go_region
     obtain⟨w1,hw1,hb1⟩:∃w1,w1=w.drew∧Below w.heap.size w w1:=⟨_,rfl,(Below.refl _ _).drew⟩
     rw[←hw1]
     clear hw1
     have HL:Hid (Z.data.toList.length=Z.size):=Array.length_toList
     go_wp2
     go_loopw [4,5,6,31] (fun vn _ _ vk wr=>∃k:Nat,k≤Z.size∧vk=.int .i64 (k:Int)∧wr=w1∧vn=.int .i64 (big 16 (Z.data.toList.take k))∧Hid (eu 16 (Z.data.toList.take k)=true)) (fun _ _ _ vk _=>Z.size - (intOf vk).toNat)
     case atStart=>exact⟨0,Nat.zero_le _,rfl,rfl,rfl,rfl⟩
     case round=>
      obtain⟨k,hk,rfl,rfl,rfl,HT⟩:=hrel
      obtain⟨n,hn⟩:∃n,n=big 16 (Z.data.toList.take k):=⟨_,rfl⟩
      have hn2:n≤17592186044431:=by rw[hn];exact PO 16 (by omega) _
      rw[←hn]
      have HN:=hid hn
      have Qv:(n:Int)≤17592186044431:=by omega
      clear hn hn2
      by_cases hlt:k<Z.size
      ·obtain ⟨c,hc⟩:∃c,Z[k]=c:=⟨_,rfl⟩
       have hkl:k<Z.data.toList.length:=by rw[HL.out];exact hlt
       have hcl:Z.data.toList[k]=c:=hc
       have HS:Hid (Z.data.toList.take (k+1)=Z.data.toList.take k++[c]):=by rw[←hcl];exact take_snoc _ k hkl
       have HM:Hid (c ∈ Z.data.toList):=by show _ ∈ _;rw[←hcl];exact List.getElem_mem _
       have HD:Hid (lH 16 c=(decide (0≤hex c.toNat)&&decide (hex c.toNat<(16:Nat)))):=rfl
       obtain⟨x,hx⟩:∃x,x=hex c.toNat:=⟨_,rfl⟩
       have hx15:x≤15:=by rw[hx];exact(vG c).2
       rw[←hx]at HD
       have HX:=hid hx
       clear hcl hkl
       by_cases hx0:0≤x
       ·by_cases hxb:x<(16:Nat)
        ·have PX:lH 16 c=true:=by rw[HD.out,decide_eq_true hx0,decide_eq_true hxb];rfl
         have HT2:Hid (eu 16 (Z.data.toList.take (k+1))=true):=by show _=_;rw[HS.out];unfold eu at HT⊢;rw[List.all_append,HT.out,List.all_cons,PX];rfl
         have hxd:x=(dv c:Int):=by rw[hx];exact tq 16 c PX
         have HB:Hid (big 16 (Z.data.toList.take (k+1))=if n<1099511627776 then n*16+dv c else n):=by show _=_;rw[HS.out,yE,←HN.out]
         have adO:x<16:=by omega
         clear PX hx hxb
         by_cases hnb:n<1099511627776
         ·have HZ:Hid (Value.int .i64 ((n:Int)*16+x)=.int .i64 (big 16 (Z.data.toList.take (k+1)))):=by
           refine int_eq ?_
           rw[HB.out,if_pos hnb,hxd];omega
          have GK:(n:Int)<1099511627776:=by omega
          clear hxd hnb HB
          have hn0:0≤(n:Int):=by omega
          generalize (n:Int)=N at hn0 Qv GK HZ⊢
          go_wp2_with fail
          refine(jK.dV _ _).mono ?_
          rintro e w2 ⟨rfl,hw2⟩
          subst hw2
          rw[←HX.out]
          go_wp2
          go_roundw
          case rel=>exact⟨k+1,by omega,by go_num,by first|rfl|trivial,HZ.out,HT2⟩
          case measure=>simp[intOf];omega
         have HZ:Hid (Value.int .i64 (n:Int)=.int .i64 (big 16 (Z.data.toList.take (k+1)))):=by
          refine int_eq ?_
          rw[HB.out,if_neg hnb]
         have GK:¬(n:Int)<1099511627776:=by omega
         clear hxd hnb HB
         have hn0:0≤(n:Int):=by omega
         generalize (n:Int)=N at hn0 Qv GK HZ⊢
         go_wp2_with fail
         refine(jK.dV _ _).mono ?_
         rintro e w2 ⟨rfl,hw2⟩
         subst hw2
         rw[←HX.out]
         go_wp2
         go_roundw
         case rel=>exact⟨k+1,by omega,by go_num,by first|rfl|trivial,HZ.out,HT2⟩
         case measure=>simp[intOf];omega
        have HE:=hid (qc.out (List.all_eq_false.2 ⟨c,HM.out,by rw[HD.out,decide_eq_false hxb];simp⟩))
        have adO:¬x<16:=by omega
        clear hx hxb
        go_wp2_with fail
        refine(jK.dV _ _).mono ?_
        rintro e w2 ⟨rfl,hw2⟩
        subst hw2
        rw[←HX.out]
        go_wp2
        go_ret
        exact⟨by rw[HE.out];rfl,hb1⟩
       have HE:=hid (qc.out (List.all_eq_false.2 ⟨c,HM.out,by rw[HD.out,decide_eq_false hx0];simp⟩))
       clear hx
       go_wp2_with fail
       refine(jK.dV _ _).mono ?_
       rintro e w2 ⟨rfl,hw2⟩
       subst hw2
       rw[←HX.out]
       go_wp2
       go_ret
       exact⟨by rw[HE.out];rfl,hb1⟩
      obtain rfl:k=Z.size:=by omega
      have hfull:Z.data.toList.take Z.size=Z.data.toList:=List.take_of_length_le (by rw[HL.out];exact Nat.le_refl _)
      have HE:=hid (Fj.out (by have h:=HT.out;rwa[hfull]at h))
      have HZ:Hid (n=big 16 Z.data.toList):=by show _=_;rw[HN.out,hfull]
      clear hfull
      go_wp2
      go_ret
      exact⟨by rw[HE.out,HZ.out];rfl,hb1⟩
   obtain⟨Z,hZ⟩:∃Z,Z=s.extract 1 s.size:=⟨_,rfl⟩
   have Tn:Z.data.toList=x::r:=by rw[hZ,ext2 _ _ (by omega),hL];rfl
   have hZs:s.extract 1 s.size=Z:=hZ.symm
   have hzs:Z.size≤1073741824:=by have:Z.data.toList.length=Z.size:=Array.length_toList;rw[Tn]at this;rw[hL]at hsz;simp at hsz this;omega
   have Fj:Hid (eu 8 Z.data.toList=true→CU s.data.toList=big 8 Z.data.toList):=fun h=>Jb _ Ac 8 _ (by rw[hL,agm _ _ _ ha hx,Tn]) h
   have qc:Hid (eu 8 Z.data.toList=false→CU s.data.toList= -1):=fun h=>Oi _ Ac 8 _ (by rw[hL,agm _ _ _ ha hx,Tn]) h
   have hq:((x.toNat:Int)==120)=false:=yO (d:=120) fun h=>hx (.inl h)
   have hq2:((x.toNat:Int)==88)=false:=yO (d:=88) fun h=>hx (.inr h)
   clear hL hsz Tn hZ Ac ha hx
   go_enter Tryz.func343,Tryz.ntmps343
   go_wp2_with fail
   go_region
   obtain⟨w1,hw1,hb1⟩:∃w1,w1=w.drew∧Below w.heap.size w w1:=⟨_,rfl,(Below.refl _ _).drew⟩
   rw[←hw1]
   clear hw1
   have HL:Hid (Z.data.toList.length=Z.size):=Array.length_toList
   go_wp2
   go_loopw [4,5,6,31] (fun vn _ _ vk wr=>∃k:Nat,k≤Z.size∧vk=.int .i64 (k:Int)∧wr=w1∧vn=.int .i64 (big 8 (Z.data.toList.take k))∧Hid (eu 8 (Z.data.toList.take k)=true)) (fun _ _ _ vk _=>Z.size - (intOf vk).toNat)
   case atStart=>exact⟨0,Nat.zero_le _,rfl,rfl,rfl,rfl⟩
   case round=>
    obtain⟨k,hk,rfl,rfl,rfl,HT⟩:=hrel
    obtain⟨n,hn⟩:∃n,n=big 8 (Z.data.toList.take k):=⟨_,rfl⟩
    have hn2:n≤17592186044431:=by rw[hn];exact PO 8 (by omega) _
    rw[←hn]
    have HN:=hid hn
    have Qv:(n:Int)≤17592186044431:=by omega
    clear hn hn2
    by_cases hlt:k<Z.size
    ·obtain ⟨c,hc⟩:∃c,Z[k]=c:=⟨_,rfl⟩
     have hkl:k<Z.data.toList.length:=by rw[HL.out];exact hlt
     have hcl:Z.data.toList[k]=c:=hc
     have HS:Hid (Z.data.toList.take (k+1)=Z.data.toList.take k++[c]):=by rw[←hcl];exact take_snoc _ k hkl
     have HM:Hid (c ∈ Z.data.toList):=by show _ ∈ _;rw[←hcl];exact List.getElem_mem _
     have HD:Hid (lH 8 c=(decide (0≤hex c.toNat)&&decide (hex c.toNat<(8:Nat)))):=rfl
     obtain⟨x,hx⟩:∃x,x=hex c.toNat:=⟨_,rfl⟩
     have hx15:x≤15:=by rw[hx];exact(vG c).2
     rw[←hx]at HD
     have HX:=hid hx
     clear hcl hkl
     by_cases hx0:0≤x
     ·by_cases hxb:x<(8:Nat)
      ·have PX:lH 8 c=true:=by rw[HD.out,decide_eq_true hx0,decide_eq_true hxb];rfl
       have HT2:Hid (eu 8 (Z.data.toList.take (k+1))=true):=by show _=_;rw[HS.out];unfold eu at HT⊢;rw[List.all_append,HT.out,List.all_cons,PX];rfl
       have hxd:x=(dv c:Int):=by rw[hx];exact tq 8 c PX
       have HB:Hid (big 8 (Z.data.toList.take (k+1))=if n<1099511627776 then n*8+dv c else n):=by show _=_;rw[HS.out,yE,←HN.out]
       have adO:x<8:=by omega
       clear PX hx hxb
       by_cases hnb:n<1099511627776
       ·have HZ:Hid (Value.int .i64 ((n:Int)*8+x)=.int .i64 (big 8 (Z.data.toList.take (k+1)))):=by
         refine int_eq ?_
         rw[HB.out,if_pos hnb,hxd];omega
        have GK:(n:Int)<1099511627776:=by omega
        clear hxd hnb HB
        have hn0:0≤(n:Int):=by omega
        generalize (n:Int)=N at hn0 Qv GK HZ⊢
        go_wp2_with fail
        refine(jK.dV _ _).mono ?_
        rintro e w2 ⟨rfl,hw2⟩
        subst hw2
        rw[←HX.out]
        go_wp2
        go_roundw
        case rel=>exact⟨k+1,by omega,by go_num,by first|rfl|trivial,HZ.out,HT2⟩
        case measure=>simp[intOf];omega
       have HZ:Hid (Value.int .i64 (n:Int)=.int .i64 (big 8 (Z.data.toList.take (k+1)))):=by
        refine int_eq ?_
        rw[HB.out,if_neg hnb]
       have GK:¬(n:Int)<1099511627776:=by omega
       clear hxd hnb HB
       have hn0:0≤(n:Int):=by omega
       generalize (n:Int)=N at hn0 Qv GK HZ⊢
       go_wp2_with fail
       refine(jK.dV _ _).mono ?_
       rintro e w2 ⟨rfl,hw2⟩
       subst hw2
       rw[←HX.out]
       go_wp2
       go_roundw
       case rel=>exact⟨k+1,by omega,by go_num,by first|rfl|trivial,HZ.out,HT2⟩
       case measure=>simp[intOf];omega
      have HE:=hid (qc.out (List.all_eq_false.2 ⟨c,HM.out,by rw[HD.out,decide_eq_false hxb];simp⟩))
      have adO:¬x<8:=by omega
      clear hx hxb
      go_wp2_with fail
      refine(jK.dV _ _).mono ?_
      rintro e w2 ⟨rfl,hw2⟩
      subst hw2
      rw[←HX.out]
      go_wp2
      go_ret
      exact⟨by rw[HE.out];rfl,hb1⟩
     have HE:=hid (qc.out (List.all_eq_false.2 ⟨c,HM.out,by rw[HD.out,decide_eq_false hx0];simp⟩))
     clear hx
     go_wp2_with fail
     refine(jK.dV _ _).mono ?_
     rintro e w2 ⟨rfl,hw2⟩
     subst hw2
     rw[←HX.out]
     go_wp2
     go_ret
     exact⟨by rw[HE.out];rfl,hb1⟩
    obtain rfl:k=Z.size:=by omega
    have hfull:Z.data.toList.take Z.size=Z.data.toList:=List.take_of_length_le (by rw[HL.out];exact Nat.le_refl _)
    have HE:=hid (Fj.out (by have h:=HT.out;rwa[hfull]at h))
    have HZ:Hid (n=big 8 Z.data.toList):=by show _=_;rw[HN.out,hfull]
    clear hfull
    go_wp2
    go_ret
    exact⟨by rw[HE.out,HZ.out];rfl,hb1⟩
  have ha2:((a.toNat:Int)==48)=false:=yO (d:=48) ha
  have hzs:s.size≤1073741824:=hs
  have Fj:Hid (eu 10 s.data.toList=true→CU s.data.toList=big 10 s.data.toList):=fun h=>Jb _ Ac 10 _ (by rw[hL,Yv _ _ _ ha]) h
  have qc:Hid (eu 10 s.data.toList=false→CU s.data.toList= -1):=fun h=>Oi _ Ac 10 _ (by rw[hL,Yv _ _ _ ha]) h
  have hb1:Below w.heap.size w w:=Below.refl _ _
  clear hL hsz Ac ha
  go_enter Tryz.func343,Tryz.ntmps343
  have HL:Hid (s.data.toList.length=s.size):=Array.length_toList
  go_wp2
  go_loopw [4,5,6,31] (fun vn _ _ vk wr=>∃k:Nat,k≤s.size∧vk=.int .i64 (k:Int)∧wr=w∧vn=.int .i64 (big 10 (s.data.toList.take k))∧Hid (eu 10 (s.data.toList.take k)=true)) (fun _ _ _ vk _=>s.size - (intOf vk).toNat)
  case atStart=>exact⟨0,Nat.zero_le _,rfl,rfl,rfl,rfl⟩
  case round=>
   obtain⟨k,hk,rfl,rfl,rfl,HT⟩:=hrel
   obtain⟨n,hn⟩:∃n,n=big 10 (s.data.toList.take k):=⟨_,rfl⟩
   have hn2:n≤17592186044431:=by rw[hn];exact PO 10 (by omega) _
   rw[←hn]
   have HN:=hid hn
   have Qv:(n:Int)≤17592186044431:=by omega
   clear hn hn2
   by_cases hlt:k<s.size
   ·obtain ⟨c,hc⟩:∃c,s[k]=c:=⟨_,rfl⟩
    have hkl:k<s.data.toList.length:=by rw[HL.out];exact hlt
    have hcl:s.data.toList[k]=c:=hc
    have HS:Hid (s.data.toList.take (k+1)=s.data.toList.take k++[c]):=by rw[←hcl];exact take_snoc _ k hkl
    have HM:Hid (c ∈ s.data.toList):=by show _ ∈ _;rw[←hcl];exact List.getElem_mem _
    have HD:Hid (lH 10 c=(decide (0≤hex c.toNat)&&decide (hex c.toNat<(10:Nat)))):=rfl
    obtain⟨x,hx⟩:∃x,x=hex c.toNat:=⟨_,rfl⟩
    have hx15:x≤15:=by rw[hx];exact(vG c).2
    rw[←hx]at HD
    have HX:=hid hx
    clear hcl hkl
    by_cases hx0:0≤x
    ·by_cases hxb:x<(10:Nat)
     ·have PX:lH 10 c=true:=by rw[HD.out,decide_eq_true hx0,decide_eq_true hxb];rfl
      have HT2:Hid (eu 10 (s.data.toList.take (k+1))=true):=by show _=_;rw[HS.out];unfold eu at HT⊢;rw[List.all_append,HT.out,List.all_cons,PX];rfl
      have hxd:x=(dv c:Int):=by rw[hx];exact tq 10 c PX
      have HB:Hid (big 10 (s.data.toList.take (k+1))=if n<1099511627776 then n*10+dv c else n):=by show _=_;rw[HS.out,yE,←HN.out]
      have adO:x<10:=by omega
      clear PX hx hxb
      by_cases hnb:n<1099511627776
      ·have HZ:Hid (Value.int .i64 ((n:Int)*10+x)=.int .i64 (big 10 (s.data.toList.take (k+1)))):=by
        refine int_eq ?_
        rw[HB.out,if_pos hnb,hxd];omega
       have GK:(n:Int)<1099511627776:=by omega
       clear hxd hnb HB
       have hn0:0≤(n:Int):=by omega
       generalize (n:Int)=N at hn0 Qv GK HZ⊢
       go_wp2_with fail
       refine(jK.dV _ _).mono ?_
       rintro e w2 ⟨rfl,hw2⟩
       subst hw2
       rw[←HX.out]
       go_wp2
       go_roundw
       case rel=>exact⟨k+1,by omega,by go_num,by first|rfl|trivial,HZ.out,HT2⟩
       case measure=>simp[intOf];omega
      have HZ:Hid (Value.int .i64 (n:Int)=.int .i64 (big 10 (s.data.toList.take (k+1)))):=by
       refine int_eq ?_
       rw[HB.out,if_neg hnb]
      have GK:¬(n:Int)<1099511627776:=by omega
      clear hxd hnb HB
      have hn0:0≤(n:Int):=by omega
      generalize (n:Int)=N at hn0 Qv GK HZ⊢
      go_wp2_with fail
      refine(jK.dV _ _).mono ?_
      rintro e w2 ⟨rfl,hw2⟩
      subst hw2
      rw[←HX.out]
      go_wp2
      go_roundw
      case rel=>exact⟨k+1,by omega,by go_num,by first|rfl|trivial,HZ.out,HT2⟩
      case measure=>simp[intOf];omega
     have HE:=hid (qc.out (List.all_eq_false.2 ⟨c,HM.out,by rw[HD.out,decide_eq_false hxb];simp⟩))
     have adO:¬x<10:=by omega
     clear hx hxb
     go_wp2_with fail
     refine(jK.dV _ _).mono ?_
     rintro e w2 ⟨rfl,hw2⟩
     subst hw2
     rw[←HX.out]
     go_wp2
     go_ret
     exact⟨by rw[HE.out];rfl,hb1⟩
    have HE:=hid (qc.out (List.all_eq_false.2 ⟨c,HM.out,by rw[HD.out,decide_eq_false hx0];simp⟩))
    clear hx
    go_wp2_with fail
    refine(jK.dV _ _).mono ?_
    rintro e w2 ⟨rfl,hw2⟩
    subst hw2
    rw[←HX.out]
    go_wp2
    go_ret
    exact⟨by rw[HE.out];rfl,hb1⟩
   obtain rfl:k=s.size:=by omega
   have hfull:s.data.toList.take s.size=s.data.toList:=List.take_of_length_le (by rw[HL.out];exact Nat.le_refl _)
   have HE:=hid (Fj.out (by have h:=HT.out;rwa[hfull]at h))
   have HZ:Hid (n=big 10 s.data.toList):=by show _=_;rw[HN.out,hfull]
   clear hfull
   go_wp2
   go_ret
   exact⟨by rw[HE.out,HZ.out];rfl,hb1⟩
end Go.Proofs.YtmpeaoacaecgpaaGreatDoor.QudB
namespace Go.Proofs.YtmpeaoacaecgpaaGreatDoor.acN
open Go.RowKit Base Base2 Base3 dI oO Zx
def Max (w:World):Prop:=∃m,w.cell? ⟨2,0,none⟩=some (.int .i64 m)
theorem Nv (s:ByteArray) (w:World) (hs:s.size≤1073741824):Calls Tryz.prog 351 #[.string s] w fun e w'=>e=.returned (.string (strOf (oH s.data.toList)))∧w=w':=by
 go_enter Tryz.func351,Tryz.ntmps351
 go_wp2_with fail
 refine(Tryz.strings_TrimSuffix s ⟨#[46]⟩ _ (by omega)).mono ?_
 rintro e w2 ⟨rfl,hw2⟩
 subst hw2
 go_wp2
 go_ret
 exact⟨rfl,rfl⟩
theorem xq:∀(L:List UInt8) (k:Nat),L.count 46≤k→Lib.splitK [46] 0 k L=bZ L
 |[],0,_=>rfl
 |[],k+1,_=>rfl
 |b::l,0,h=>by
  have hb:b≠46:=by rintro rfl;simp at h
  have ih:=xq l 0 (by rw[List.count_cons_of_ne (by simpa using hb)]at h;exact h)
  show[b::l]=_
  rw[bZ,if_neg hb,←ih]
  rfl
 | b :: l, k + 1, h => by
  by_cases hb:b=46
  ·subst hb
   have ih:=xq l k (by simp at h;omega)
   have e:Lib.index (46::l) [46]=0:=by rw[Lib.index,if_pos (by simp[List.isPrefixOf])]
   rw[bZ,if_pos rfl,Lib.splitK,e,if_neg (by decide)]
   show[]::_=_
   rw[←ih]
   rfl
  ·have hc:l.count 46≤k+1:=by rw[List.count_cons_of_ne (by simpa using hb)]at h;exact h
   have ih:=xq l (k+1) hc
   have e:Lib.index (b::l) [46]=if Lib.index l [46]== -1 then -1 else Lib.index l [46]+1:=by rw[Lib.index,if_neg (by simp[List.isPrefixOf,Ne.symm hb])]
   rw[Lib.splitK]at ih⊢
   rw[bZ,if_neg hb,←ih,e]
   by_cases hm:Lib.index l [46]= -1
   ·rw[hm]
    rfl
   ·have hge:=Lib.index_ge l [46]
    obtain⟨j,hj⟩:∃j:Nat,Lib.index l [46]=j:=⟨(Lib.index l [46]).toNat,by omega⟩
    have h1:((j:Int)== -1)=false:=beq_eq_false_iff_ne.2 (by omega)
    have h2:((j:Int)+1== -1)=false:=beq_eq_false_iff_ne.2 (by omega)
    have h3:((j:Int)+1).toNat=j+1:=by omega
    simp only[hj,h1,Bool.false_eq_true,if_false,h2,h3]
    simp
def Read (w:World) (l:List (List UInt8)) (e:Ending) (w':World):Prop:=∃A n c,e=.returned (.slice A n c)∧n=l.length∧n≤c∧c≤maxLen∧aY w' A n ((l.map strOf).map Value.string)∧Below w.heap.size w w'
theorem aiJ (s:ByteArray) (w:World) (hs:s.size≤1073741824) (hM:Max w):Calls Tryz.prog 105 #[.string s,.string ⟨#[46]⟩] w (Read w (bZ s.data.toList)):=by
 obtain⟨m,hm⟩:=hM
 refine(Tryz.strings_Split s ⟨#[46]⟩ m w (by omega) hm (Nat.le_refl _)).mono ?_
 rintro e w' ⟨rfl,rfl⟩
 have hd:=Lib.splitB_data ⟨#[46]⟩ 0 (Lib.countB s ⟨#[46]⟩) s
 rw[show(⟨#[46]⟩:ByteArray).data.toList=[46]from rfl,xq _ _ (by rw[←Lib.count_one];exact Nat.le_refl _)]at hd
 have hl:=Lib.splitB_all ⟨#[46]⟩ (Nat.le_refl _) 0 _ s rfl
 have hc:=Lib.countB_le ⟨#[46]⟩ (Nat.le_refl _) s.size s (Nat.le_refl _)
 generalize Lib.splitB ⟨#[46]⟩ 0 (Lib.countB s ⟨#[46]⟩) s=B at hd hl⊢
 have hB:B=(bZ s.data.toList).map strOf:=by
  rw[←hd,List.map_map]
  conv=>lhs;rw[←List.map_id B]
  exact List.map_congr_left fun x _=>(aG x).symm
 unfold Read
 rw[←hB]
 refine⟨_,_,_,rfl,by rw[←hl,hB,List.length_map],Nat.le_refl _,by unfold maxLen;omega,?_,(Below.refl _ _).alloc (Nat.le_refl _) _⟩
 exact aY.jF (by rw[List.length_map,hl]) (by simp) (fun j hj=>by
  rw[Nat.zero_add,World.cell?_alloc_mark]
  simp)
theorem pq:(Tryz.prog.info? 9).map (fun i=>(i.zero,i.size,i.bytes))=some (some (.string ByteArray.empty),1,16):=by kernel_rfl
theorem ext_mid (s:ByteArray) (a b:Nat):s.extract a b=strOf ((s.data.toList.take b).drop a):=by
 apply ByteArray.ext
 apply Array.ext'
 rw[ByteArray.data_extract]
 simp only[strOf,Array.toList_extract,List.extract_eq_take_drop]
 rw[List.drop_take]
def Gj (w:World) (l:List (List UInt8)) (e:Ending) (w':World):Prop:=∃v,e=.returned v∧w'.ownsRow w.heap.size 9 1 v l.length ((l.map strOf).map Value.string)∧Below w.heap.size w w'
theorem Yk (s:ByteArray) (w:World) (hs:s.size≤900000):
  Calls Tryz.prog 101 #[.string s,.int .u8 46] w (Gj w (bZ s.data.toList)):=by
 have hsl:s.data.toList.length=s.size:=Array.length_toList
 obtain⟨i0,hi,hz0,hz1,hz2⟩:=info_parts pq
 have HSL:=hid hsl
 clear hsl
 obtain⟨R,hR⟩:∃R,R=bZ s.data.toList:=⟨_,rfl⟩
 have hrl:R.length≤s.size+1:=by have:=rW s.data.toList;rw[←hR,HSL.out]at this;exact this
 rw[←hR]
 have HR:=hid hR
 clear hR
 go_enter Tryz.func101,Tryz.ntmps101
 go_wp2
 go_loopw [5,6,7,11] (fun vo vf _ vk wr=>∃(k f:Nat) (xs:List (List UInt8)),k≤s.size+1∧f≤k∧xs.length≤k∧vk=.int .i64 (k:Int)∧vf=.int .i64 (f:Int)∧Hid (wr.ownsRow w.heap.size 9 1 vo xs.length ((xs.map strOf).map Value.string))∧Hid (Below w.heap.size w wr)∧Hid (k≤s.size→bZ (s.data.toList.take k)=xs++[(s.data.toList.take k).drop f])∧Hid (k=s.size+1→R=xs)) (fun _ _ _ vk _=>s.size+1 - (intOf vk).toNat)
 case atStart=>exact⟨0,0,[],Nat.zero_le _,Nat.le_refl _,Nat.le_refl _,rfl,rfl,World.ownsRow_nil _ _ _ _,Below.refl _ _,fun _=>rfl,fun h=>absurd h (by omega)⟩
 case round=>
  obtain⟨k,f,xs,hk1,hfk,hxk,rfl,rfl,HO,HB,HW,HE⟩:=hrel
  obtain⟨m,hm⟩:∃m,m=xs.length:=⟨_,rfl⟩
  rw[←hm]at hxk
  have HM:=hid hm
  clear hm
  by_cases hlt:k<s.size+1
  ·have HW2:Hid (bZ (s.data.toList.take k)=xs++[(s.data.toList.take k).drop f]):=HW.out (by omega)
   clear HW HE
   obtain⟨X,hX⟩:∃X,X=s.extract f k:=⟨_,rfl⟩
   have hxe:s.extract f k=X:=hX.symm
   have HX:Hid (X=strOf ((s.data.toList.take k).drop f)):=by show _=_;rw[hX,ext_mid]
   have hfi:(f:Int)≤(k:Int):=by omega
   clear hX
   by_cases hks:k<s.size
   ·obtain ⟨c,hc⟩:∃c,s[k]=c:=⟨_,rfl⟩
    have hkl:k<s.data.toList.length:=by rw[HSL.out];exact hks
    have hcl:s.data.toList[k]=c:=hc
    have HS:Hid (s.data.toList.take (k+1)=s.data.toList.take k++[c]):=by rw[←hcl];exact take_snoc _ k hkl
    have HTL:Hid ((s.data.toList.take k).length=k):=by show _=_;rw[List.length_take,HSL.out];omega
    have q1:((k:Int)==(s.size:Int))=false:=by simp;omega
    have hki:(k:Int)≤(s.size:Int):=by omega
    clear hkl hcl
    by_cases h46:c=46
    ·have q2:((c.toNat:Int)==46)=true:=by rw[h46];rfl
     have HN:Hid (bZ (s.data.toList.take (k+1))=(xs++[(s.data.toList.take k).drop f])++[(s.data.toList.take (k+1)).drop (k+1)]):=by
      show _=_
      rw[HS.out,h46,xR,HW2.out]
      congr 2
      rw[List.drop_eq_nil_of_le]
      rw[List.length_append,HTL.out]
      exact Nat.le_refl _
     have HFE:Hid (k+1=s.size+1→R=xs++[(s.data.toList.take k).drop f]):=fun h=>absurd h (by omega)
     have hown:=HO.out
     have hbel:=HB.out
     rw[←HM.out]at hown
     clear h46
     go_wp2_with (at_builtin;refine aQ rfl _ _ 23 rfl w.heap.size 9 i0 (.string ByteArray.empty) 16 Tryz.underlying23 hi hz0 hz1 hz2 rfl _ m _ rfl hown hbel hbel.size [.string X] 1 rfl rfl (by intro u hu;simp at hu;subst hu;rfl) (by unfold maxLen;omega) (by omega) ?_)
     intro v7 w7 dU dA
     have Gg:Hid (w7.ownsRow w.heap.size 9 1 v7 (xs++[(s.data.toList.take k).drop f]).length (((xs++[(s.data.toList.take k).drop f]).map strOf).map Value.string)):=by
      show World.ownsRow _ _ _ _ _ _ _
      rw[List.length_append,List.map_append,List.map_append,←HM.out]
      show World.ownsRow _ _ _ _ _ (m+1) (_++[Value.string (strOf ((s.data.toList.take k).drop f))])
      rw[←HX.out]
      simpa using dU
     have HY:=hid dA
     clear hown hbel dU dA
     go_wp2
     go_roundw
     case rel=>exact⟨k+1,k+1,xs++[(s.data.toList.take k).drop f],by omega,Nat.le_refl _,by rw[List.length_append,←HM.out];show m+1≤_;omega,by go_num,by go_num,Gg,HY,fun _=>HN.out,HFE⟩
     case measure=>simp[intOf];omega
    ·have q2:((c.toNat:Int)==46)=false:=yO (d:=46) h46
     have HN:Hid (bZ (s.data.toList.take (k+1))=xs++[(s.data.toList.take (k+1)).drop f]):=by
      show _=_
      obtain⟨xs',x',e1,e2⟩:=tu c h46 (s.data.toList.take k)
      have h3:=HW2.out.symm.trans e1
      obtain⟨h4,h5⟩:=List.append_inj' h3 rfl
      have h5:(s.data.toList.take k).drop f=x':=by simpa using h5
      rw[HS.out,e2,←h4,←h5,List.drop_append_of_le_length (by rw[HTL.out];exact hfk)]
     have HFE:Hid (k+1=s.size+1→R=xs):=fun h=>absurd h (by omega)
     clear h46
     go_wp2
     go_roundw
     case rel=>exact⟨k+1,f,xs,by omega,by omega,by rw[←HM.out];omega,by go_num,rfl,HO,HB,fun _=>HN.out,HFE⟩
     case measure=>simp[intOf];omega
   ·have hke:k=s.size:=by omega
    have q1:((k:Int)==(s.size:Int))=true:=by simp;omega
    have hki:(k:Int)≤(s.size:Int):=by omega
    have HFE:Hid (k+1=s.size+1→R=xs++[(s.data.toList.take k).drop f]):=by
     intro _
     rw[←HW2.out,HR.out,List.take_of_length_le (by rw[HSL.out,hke];exact Nat.le_refl _)]
    have HFW:Hid (k+1≤s.size→bZ (s.data.toList.take (k+1))=(xs++[(s.data.toList.take k).drop f])++[(s.data.toList.take (k+1)).drop (k+1)]):=fun h=>absurd h (by omega)
    have hown:=HO.out
    have hbel:=HB.out
    rw[←HM.out]at hown
    clear hke
    go_wp2_with (at_builtin;refine aQ rfl _ _ 23 rfl w.heap.size 9 i0 (.string ByteArray.empty) 16 Tryz.underlying23 hi hz0 hz1 hz2 rfl _ m _ rfl hown hbel hbel.size [.string X] 1 rfl rfl (by intro u hu;simp at hu;subst hu;rfl) (by unfold maxLen;omega) (by omega) ?_)
    intro v7 w7 dU dA
    have Gg:Hid (w7.ownsRow w.heap.size 9 1 v7 (xs++[(s.data.toList.take k).drop f]).length (((xs++[(s.data.toList.take k).drop f]).map strOf).map Value.string)):=by
     show World.ownsRow _ _ _ _ _ _ _
     rw[List.length_append,List.map_append,List.map_append,←HM.out]
     show World.ownsRow _ _ _ _ _ (m+1) (_++[Value.string (strOf ((s.data.toList.take k).drop f))])
     rw[←HX.out]
     simpa using dU
    have HY:=hid dA
    clear hown hbel dU dA
    go_wp2
    go_roundw
    case rel=>exact⟨k+1,k+1,xs++[(s.data.toList.take k).drop f],by omega,Nat.le_refl _,by rw[List.length_append,←HM.out];show m+1≤_;omega,by go_num,by go_num,Gg,HY,HFW,HFE⟩
    case measure=>simp[intOf];omega
  ·obtain rfl:k=s.size+1:=by omega
   obtain⟨vA,vc,rfl,_,_,_⟩:=aJ HO.out
   have HXX:Hid (Gj w R (.returned (.slice vA xs.length vc)) wr):=by
    rw[HE.out rfl]
    exact⟨_,rfl,HO.out,HB.out⟩
   go_wp2
   go_ret
   exact HXX.out
theorem Jt (s:ByteArray) (w:World) (hs:s.size≤900000):Calls Tryz.prog 342 #[.string s] w (Read w (prt (bZ s.data.toList))):=by
 have hsl:s.data.toList.length=s.size:=Array.length_toList
 obtain⟨R,hR⟩:∃R,R=bZ s.data.toList:=⟨_,rfl⟩
 have hrl:R.length≤s.size+1:=by have:=rW s.data.toList;rw[←hR,hsl]at this;exact this
 have Qi:0<R.length:=by rw[hR];exact List.length_pos_iff.2 (qY _)
 obtain⟨n,hn⟩:∃n,n=R.length:=⟨_,rfl⟩
 rw[←hR]
 have HR:=hid hR
 rw[←hn]at hrl Qi
 have HN:=hid hn
 clear hR hsl hn
 go_enter Tryz.func342,Tryz.ntmps342
 go_wp2_with fail
 refine(Yk s _ hs).mono ?_
 rw[←HR.out]
 rintro e w2 ⟨v2,rfl,hown2,hb2⟩
 rw[←HN.out]at hown2
 obtain⟨A,c,rfl,hnc,hcm,hrd⟩:=aJ hown2
 have uq:=hid hrd
 have HB:=hid hb2
 have HCM:=hid hcm
 clear hown2 hrd hb2
 unfold maxLen at hcm
 obtain⟨g,off,rfl,hg,hcell⟩:=uq.out.spot Qi
 by_cases h1:1<n
 ·have hcl:=hcell (n - 1) (by rw[List.length_map,List.length_map,←HN.out];omega)
  rw[List.getElem_map,List.getElem_map]at hcl
  obtain⟨x,hx⟩:∃x,x=R[n - 1]'(by rw[←HN.out];omega):=⟨_,rfl⟩
  rw[←hx]at hcl
  have aeX:Hid (R.getLast?=some x):=by
   show _=_
   rw[List.getLast?_eq_getElem?,←HN.out,hx,List.getElem?_eq_getElem]
  have hni:((n:Int) - 1).toNat=n - 1:=by omega
  have hi1:(1:Int)<(n:Int):=by omega
  have hnm:off+((n:Int) - 1).toNat=off+(n - 1):=by omega
  obtain⟨X,hX⟩:∃X,X=strOf x:=⟨_,rfl⟩
  rw[←hX]at hcl
  clear hcell hx
  by_cases hxe:x=[]
  ·have hem:(X.toList==[])=true:=by rw[hX,hxe];unfold strOf;rw[ByteArray.toList_mk];rfl
   have TR:X.toList=[]:=by rw[hX,hxe];unfold strOf;rw[ByteArray.toList_mk]
   have HP:Hid (prt R=R.take (n - 1)):=by show _=_;unfold prt;rw[if_pos ⟨by rw[←HN.out];exact h1,by rw[aeX.out,hxe]⟩,←HN.out]
   have HX:Hid (Read w (prt R) (.returned (.slice (some ⟨g,off,none⟩) (n - 1) c)) w2):=by
    rw[HP.out]
    refine⟨_,_,_,rfl,by rw[List.length_take,←HN.out];omega,by omega,HCM.out,?_,HB.out⟩
    have:=uq.out.upto (n - 1) (by omega)
    rw[List.map_take,List.map_take]
    exact this
   clear hxe hX
   go_wp2
   go_ret
   first|exact HX.out|(have:=HX.out;simpa[hni]using this)
  have hem:(X.toList==[])=false:=by rw[hX];unfold strOf;rw[ByteArray.toList_mk];simpa using hxe
  have TR:X.toList.isEmpty=false:=by rw[hX];unfold strOf;rw[ByteArray.toList_mk];simpa using hxe
  have HP:Hid (prt R=R):=by show _=_;unfold prt;rw[if_neg (fun h=>hxe (by have:=h.2;rw[aeX.out]at this;simpa using this))]
  have HX:Hid (Read w (prt R) (.returned (.slice (some ⟨g,off,none⟩) n c)) w2):=by
   rw[HP.out]
   exact⟨_,_,_,rfl,HN.out,hnc,HCM.out,uq.out,HB.out⟩
  clear hxe hX
  go_wp2
  go_ret
  exact HX.out
 have HP:Hid (prt R=R):=by show _=_;unfold prt;rw[if_neg (fun h=>h1 (by rw[HN.out];exact h.1))]
 have hi1:¬(1:Int)<(n:Int):=by omega
 have HX:Hid (Read w (prt R) (.returned (.slice (some ⟨g,off,none⟩) n c)) w2):=by
  rw[HP.out]
  exact⟨_,_,_,rfl,HN.out,hnc,HCM.out,uq.out,HB.out⟩
 clear hcell
 go_wp2
 go_ret
 exact HX.out
end Go.Proofs.YtmpeaoacaecgpaaGreatDoor.acN
namespace Go.Proofs.YtmpeaoacaecgpaaGreatDoor.acO
open Go.RowKit Base Base2 dI oO Zx QudB acN
theorem yQ (L:List UInt8) (h:num L=none):CS L=.tuple #[.int .u64 0,.bool false]:=by unfold CS;rw[h]
theorem yR (L:List UInt8) (v:Nat) (h:num L=some v):CS L=.tuple #[.int .u64 (sat v),.bool true]:=by unfold CS;rw[h]
theorem yS (L:List UInt8) (h:num L=none):CU L= -1:=by unfold CU;rw[h];rfl
theorem yT (L:List UInt8) (v:Nat) (h:num L=some v):∃D:Nat,CU L=D∧D≤17592186044431∧((D<1099511627776∧D=v)∨(1099511627776≤D∧1099511627776≤v)):=by
 have hb:=anB L
 have hv:v=val (Ht L).1 (Ht L).2:=by
  unfold num at h
  split at h
  ·cases h
  split at h
  ·exact(Option.some.inj h).symm
  cases h
 refine⟨big (Ht L).1 (Ht L).2,by unfold CU;rw[h];rfl,PO _ (by omega) _,?_⟩
 have:=big_rel (Ht L).1 (by omega) (Ht L).2
 rw[←hv]at this
 exact this
theorem afQ (L:List UInt8):(lst L).length≤L.length:=by
 unfold lst
 cases h:(bZ L).getLast? with
 |none=>simp
 |some x=>exact qK L x (List.mem_of_getLast? h)
theorem aln (s:ByteArray) (w:World) (hs:s.size≤900000):Calls Tryz.prog 325 #[.string s] w fun e w'=>e=.returned (.bool (ends s.data.toList))∧Below w.heap.size w w':=by
 have hsl:s.data.toList.length=s.size:=Array.length_toList
 obtain⟨K,hK⟩:∃K,K=lst (oH s.data.toList):=⟨_,rfl⟩
 obtain⟨o,ho⟩:∃o,o=ends s.data.toList:=⟨_,rfl⟩
 have ho2:o=((num K).isSome||(decide (K≠[])&&eu 10 K)):=by rw[ho,hK];rfl
 obtain⟨U,hU⟩:∃U,U=strOf (oH s.data.toList):=⟨_,rfl⟩
 have hUd:U.data.toList=oH s.data.toList:=by rw[hU];rfl
 have hus:U.size≤900000:=by rw[hU,size_strOf];have:=Fa s.data.toList;omega
 obtain⟨hd1,hd2,hd3⟩:=ahn U
 rw[hUd,←hK]at hd1
 obtain⟨at_,hat⟩:∃a,a=Lib.lastIndexByte U 46:=⟨_,rfl⟩
 rw[←hat]at hd1 hd2 hd3
 obtain⟨n,hn⟩:∃n:Nat,(n:Int)=at_+1:=⟨(at_+1).toNat,by omega⟩
 have hn2:n=(at_+1).toNat:=by omega
 rw[←hn2]at hd1
 obtain⟨Y,hY⟩:∃Y,Y=strOf K:=⟨_,rfl⟩
 have hYe:U.extract n U.size=Y:=by rw[Regs.ext_drop _ _ _ rfl,hUd,hd1,hY]
 have hYd:Y.data.toList=K:=by rw[hY];rfl
 have hys:Y.size≤1073741824:=by
  have h1:=afQ (oH s.data.toList)
  have h2:=Fa s.data.toList
  rw[hY,size_strOf,hK];omega
 have hnu:(n:Int)≤(U.size:Int):=by omega
 have hn0:(0:Int)≤(n:Int):=by omega
 have hem:(Y.toList==[])=decide (K=[]):=by rw[hY];unfold strOf;rw[ByteArray.toList_mk,Bool.eq_iff_iff];simp
 have HO:=hid ho2
 have HU:=hid hU
 have HAT:=hid hat
 have HN:Hid (at_+1=(n:Int)):=hn.symm
 have kU:=hid hYd
 rw[←ho]
 have ha1: -1≤at_:=hd2
 have ha2:at_<900000:=by omega
 clear ho ho2 hK hU hUd hd1 hd2 hd3 hat hn hn2 hY hYd hsl
 go_enter Tryz.func325,Tryz.ntmps325
 go_wp2_with fail
 refine(Nv s _ (by omega)).mono ?_
 rintro e w2 ⟨rfl,hw2⟩
 subst hw2
 rw[←HU.out]
 go_wp2_with fail
 refine(Tryz.strings_LastIndexByte U 46 _ (by omega)).mono ?_
 rintro e w3 ⟨rfl,hw3⟩
 subst hw3
 rw[←HAT.out]
 have hN:=HN.out
 cases hk:num K with
 |some v=>
  have HV:=hid (yR K v hk)
  have HE:Hid (o=true):=by show _=_;rw[HO.out,hk];rfl
  clear hk
  go_wp2_with fail
  refine(bf Y _ hys).mono ?_
  rw[kU.out,HV.out]
  rintro e w4 ⟨rfl,hw4⟩
  subst hw4
  go_wp2
  go_ret
  exact⟨ak HE.out.symm,Below.refl _ _⟩
 |none=>
  have HV:=hid (yQ K hk)
  have HE:Hid (o=(decide (K≠[])&&eu 10 K)):=by show _=_;rw[HO.out,hk];rfl
  clear hk
  by_cases hke:K=[]
  ·have XP:(Y.toList==[])=true:=by rw[hem];exact decide_eq_true hke
   have TR:Y.toList=[]:=by simpa using XP
   have hem3:(Y.toList !=[])=false:=by rw[bne,XP];rfl
   have HE2:Hid (o=false):=by show _=_;rw[HE.out,decide_eq_false (fun h=>h hke)];rfl
   clear hem hke
   go_wp2_with fail
   refine(bf Y _ hys).mono ?_
   rw[kU.out,HV.out]
   rintro e w4 ⟨rfl,hw4⟩
   subst hw4
   go_wp2
   go_ret
   exact⟨ak HE2.out.symm,Below.refl _ _⟩
  have XP:(Y.toList==[])=false:=by rw[hem];exact decide_eq_false hke
  have TR:Y.toList.isEmpty=false:=by
   cases h:Y.toList with
   |nil=>rw[h]at XP;cases XP
   |cons _ _=>rfl
  have hem3:(Y.toList !=[])=true:=by rw[bne,XP];rfl
  have HE2:Hid (o=eu 10 K):=by show _=_;rw[HE.out,decide_eq_true hke];rfl
  clear hem hke
  go_wp2_with fail
  refine(bf Y _ hys).mono ?_
  rw[kU.out,HV.out]
  rintro e w4 ⟨rfl,hw4⟩
  subst hw4
  go_wp2_with fail
  refine(qA Y 10 _ hys).mono ?_
  rw[kU.out]
  rintro e w5 ⟨rfl,hw5⟩
  subst hw5
  go_wp2
  go_ret
  exact⟨ak HE2.out.symm,Below.refl _ _⟩
theorem last_any {α:Type} (l:List α) (n:Nat) (hn:n=l.length) (h0:0<n):∃h:n - 1<l.length,l.getLast?=some l[n - 1]:=by
 subst hn
 exact⟨by omega,by rw[List.getLast?_eq_getElem?,List.getElem?_eq_getElem]⟩
theorem Nc (s:ByteArray) (w:World) (hs:s.size≤900000):Calls Tryz.prog 318 #[.string s] w fun e w'=>e=.returned (.bool (ends s.data.toList))∧Below w.heap.size w w':=by
 have hsl:s.data.toList.length=s.size:=Array.length_toList
 obtain⟨K,hK⟩:∃K,K=lst (oH s.data.toList):=⟨_,rfl⟩
 obtain⟨o,ho⟩:∃o,o=ends s.data.toList:=⟨_,rfl⟩
 have ho2:o=((num K).isSome||(decide (K≠[])&&eu 10 K)):=by rw[ho,hK];rfl
 obtain⟨R,hR⟩:∃R,R=prt (bZ s.data.toList):=⟨_,rfl⟩
 have hR2:R=bZ (oH s.data.toList):=by rw[hR,abd]
 have hrl:R.length≤s.size+1:=by have h1:=rW (oH s.data.toList);have h2:=Fa s.data.toList;rw[hR2];omega
 have Qi:0<R.length:=by rw[hR2];exact List.length_pos_iff.2 (qY _)
 obtain⟨hlt,hlast⟩:=last_any R R.length rfl Qi
 have hKR:R[R.length - 1]=K:=by
  rw[hK];unfold lst;rw[←hR2,hlast];rfl
 obtain⟨Y,hY⟩:∃Y,Y=strOf K:=⟨_,rfl⟩
 have hYd:Y.data.toList=K:=by rw[hY];rfl
 have hyl:K.length=Y.size:=by rw[hY,size_strOf]
 have hys:Y.size≤900000:=by
  have h1:=afQ (oH s.data.toList)
  have h2:=Fa s.data.toList
  rw[hY,size_strOf,hK];omega
 have hem:(Y.toList==[])=decide (K=[]):=by rw[hY];unfold strOf;rw[ByteArray.toList_mk,Bool.eq_iff_iff];simp
 have HO:=hid ho2
 have HR:=hid hR
 have kU:=hid hYd
 have HYL:=hid hyl
 have HKR:Hid (∀n,n=R.length→∃h:n - 1<R.length,R[n - 1]=K):=by
  rintro n rfl
  exact⟨hlt,hKR⟩
 have HY:=hid hY
 rw[←ho]
 clear ho ho2 hK hR hR2 hlast hKR hlt hY hYd hsl hyl
 go_enter Tryz.func318,Tryz.ntmps318
 go_wp2_with fail
 refine(Jt s _ hs).mono ?_
 rw[←HR.out]
 rintro e w2 ⟨A,n,c,rfl,hn,hnc,hcm,hrd,hb2⟩
 rw[←hn]at hrl Qi
 obtain⟨h1,h2⟩:=HKR.out n hn
 obtain⟨g,off,rfl,hg,hcell⟩:=hrd.spot Qi
 have hcl:=hcell (n - 1) (by rw[List.length_map,List.length_map];exact h1)
 rw[List.getElem_map,List.getElem_map,h2,←HY.out]at hcl
 have HB:=hid hb2
 have hni:((n:Int) - 1).toNat=n - 1:=by omega
 unfold maxLen at hcm
 clear hn hrd hcell h1 h2 hb2
 obtain⟨d0,hd0⟩:∃d0,d0=decide (K≠[]):=⟨_,rfl⟩
 have HD0:=hid hd0
 have XP:(Y.toList==[])= !d0:=by rw[hem,hd0];by_cases h:K=[]<;>simp[h]
 have hem3:(Y.toList !=[])=d0:=by rw[bne,XP,Bool.not_not]
 have TR:Y.toList.isEmpty= !d0:=by
  rw[←XP]
  cases Y.toList<;>rfl
 clear hem hd0
 go_wp2
 go_loopw [5,6,19] (fun vd _ vk wr=>∃k:Nat,k≤Y.size∧vk=.int .i64 (k:Int)∧wr=w2∧vd=.bool (d0&&eu 10 (K.take k))) (fun _ _ vk _=>Y.size - (intOf vk).toNat)
 case atStart=>exact⟨0,Nat.zero_le _,rfl,rfl,by simp[eu]⟩
 case round=>
  obtain⟨k,hk,rfl,rfl,rfl⟩:=hrel
  obtain⟨d,hd⟩:∃d,d=(d0&&eu 10 (K.take k)):=⟨_,rfl⟩
  rw[←hd]
  have HD:=hid hd
  clear hd
  by_cases hlt:k<Y.size
  ·obtain⟨x,hx⟩:∃x,Y[k]=x:=⟨_,rfl⟩
   have hkl:k<K.length:=by rw[HYL.out];exact hlt
   have hxK:K[k]=x:=by
    have:Y.data.toList[k]?=some x:=by rw[←hx];exact Lib.data_getElem? Y k hlt
    rw[kU.out]at this
    obtain⟨_,e⟩:=List.getElem?_eq_some_iff.1 this
    exact e
   have HS:Hid (K.take (k+1)=K.take k++[x]):=by rw[←hxK];exact take_snoc _ k hkl
   have Tv:Hid ((d0&&eu 10 (K.take (k+1)))=(d&&lH 10 x)):=by
    show _=_
    rw[HS.out,HD.out]
    unfold eu
    rw[List.all_append,List.all_cons,List.all_nil,Bool.and_true,Bool.and_assoc]
   obtain⟨b,hb⟩:∃b,b=dI.digit x.toNat:=⟨_,rfl⟩
   have HB2:=hid hb
   have HBD:Hid (b=lH 10 x):=hb.trans (yH x)
   clear hkl hxK hb
   cases d with
   |true=>
    go_wp2_with fail
    refine(jK.fE _ _).mono ?_
    rintro e w3 ⟨rfl,hw3⟩
    subst hw3
    rw[←HB2.out]
    go_wp2
    go_roundw
    case rel=>exact⟨k+1,by omega,by go_num,by first|rfl|trivial,by rw[Tv.out,HBD.out];rfl⟩
    case measure=>simp[intOf];omega
   |false=>
    go_wp2
    go_roundw
    case rel=>exact⟨k+1,by omega,by go_num,by first|rfl|trivial,by rw[Tv.out];rfl⟩
    case measure=>simp[intOf];omega
  obtain rfl:k=Y.size:=by omega
  have Td:Hid (d=(d0&&eu 10 K)):=by show _=_;rw[HD.out,List.take_of_length_le (by rw[HYL.out];exact Nat.le_refl _)]
  have HE:Hid (o=((num K).isSome||d)):=by show _=_;rw[HO.out,Td.out,HD0.out]
  cases d with
  |true=>
   have HE2:Hid (o=true):=by show _=_;rw[HE.out,Bool.or_true]
   go_wp2
   go_ret
   exact⟨ak HE2.out.symm,HB.out⟩
  |false=>
   cases hk:num K with
   |none=>
    have HV:=hid (yS K hk)
    have HE2:Hid (o=false):=by show _=_;rw[HE.out,hk];rfl
    clear hk
    go_wp2_with fail
    refine(bU Y _ (by omega)).mono ?_
    rw[kU.out,HV.out]
    rintro e w4 ⟨rfl,hb4⟩
    go_wp2
    go_ret
    exact⟨ak HE2.out.symm,bel HB.out hb4⟩
   |some v=>
    obtain⟨D,hD,_,_⟩:=yT K v hk
    have HV:=hid hD
    have HE2:Hid (o=true):=by show _=_;rw[HE.out,hk];rfl
    have hD0:(0:Int)≤(D:Int):=by omega
    clear hk hD
    go_wp2_with fail
    refine(bU Y _ (by omega)).mono ?_
    rw[kU.out,HV.out]
    rintro e w4 ⟨rfl,hb4⟩
    go_wp2
    go_ret
    exact⟨ak HE2.out.symm,bel HB.out hb4⟩
end Go.Proofs.YtmpeaoacaecgpaaGreatDoor.acO
